"""Point 20, and what of 2 and 3 bears on it: the sums that no way changes, and their least list."""

import copy
import itertools
import math
import random
import time
import unittest
from fractions import Fraction

from fallsum.held import held, is_held
from tests.looks import fall_by, whole
from tests.samples import (
    GREAT, PAIR, SWAP, TWO, VALLEY, WIDE, book_by_chance, made_books, sparse_books, tight_books, wide_books,
)

# Book and its least list, worked out by hand.
BY_HAND = (
    ((1, 1, ()), [((1,), (0,)), ((0,), (1,))]),
    ((2, 2, ()), [((1, 0), (0, 0)), ((0, 1), (0, 0)), ((0, 0), (1, 0)), ((0, 0), (0, 1))]),
    ((1, 1, ((0, 0, (0,)),)), [((1,), (0,)), ((0,), (1,))]),
    ((1, 1, ((0, 0, (5,)),)), [((0,), (1,))]),
    ((1, 2, ((0, 0, (1, -1)),)), [((1, 1), (0,)), ((0, 0), (1,))]),
    ((1, 2, ((0, 0, (1, 1)),)), [((1, -1), (0,)), ((0, 0), (1,))]),
    ((1, 2, ((0, 0, (4, -6)),)), [((3, 2), (0,)), ((0, 0), (1,))]),
    ((1, 2, ((0, 0, (4, 6)), (0, 0, (-2, -3)))), [((3, -2), (0,)), ((0, 0), (1,))]),
    ((1, 2, ((0, 0, (4, 6)), (0, 0, (-2, -4)))), [((0, 0), (1,))]),
    ((1, 3, ((0, 0, (2, 3, 5)),)), [((5, 0, -2), (0,)), ((0, 5, -3), (0,)), ((0, 0, 0), (1,))]),
    ((1, 3, ((0, 0, (0, 3, 0)),)), [((1, 0, 0), (0,)), ((0, 0, 1), (0,)), ((0, 0, 0), (1,))]),
    ((2, 1, ((0, 1, (7,)),)), [((1,), (0, -7)), ((0,), (1, 1))]),
    ((2, 1, ((0, 1, (7,)), (1, 0, (-7,)))), [((1,), (0, -7)), ((0,), (1, 1))]),
    ((2, 1, ((0, 1, (7,)), (1, 0, (-6,)))), [((0,), (1, 1))]),
    ((2, 1, ((0, 1, (0,)),)), [((1,), (0, 0)), ((0,), (1, 1))]),
    # Rooms that no way touches.
    ((4, 1, ((1, 3, (2,)),)), [
        ((1,), (0, 0, 0, -2)), ((0,), (1, 0, 0, 0)), ((0,), (0, 1, 0, 1)), ((0,), (0, 0, 1, 0)),
    ]),
    # Ways alike.
    ((2, 1, ((0, 1, (7,)), (0, 1, (7,)), (0, 1, (7,)))), [((1,), (0, -7)), ((0,), (1, 1))]),
    ((2, 1, ((0, 1, (7,)), (0, 1, (6,)))), [((0,), (1, 1))]),
    (SWAP, [((1, 1, 0), (0, 0)), ((0, 0, 0), (1, 1))]),
    (PAIR, [((0, 0), (1, 1))]),
    (TWO, [((0,), (1, 1, 1, 1))]),
    (VALLEY, [((0,), (1, 1, 1, 1))]),
)


def falls_of(book):
    """For each way by how much it falls for each weight and then for each height."""
    rooms, purses, ways = book
    rows = []
    for a, b, gains in ways:
        heights = [0] * rooms
        heights[a] += 1
        heights[b] -= 1
        rows.append([-gain for gain in gains] + heights)
    return rows


def rank(rows):
    """How many of the rows are of their own, by fractions."""
    rows = [[Fraction(number) for number in row] for row in rows]
    many = 0
    for place in range(len(rows[0]) if rows else 0):
        using = [row for row in rows[many:] if row[place]]
        if using:
            first = using[0]
            rows.remove(first)
            rows.insert(many, first)
            for at in range(many + 1, len(rows)):
                by = rows[at][place] / first[place]
                rows[at] = [x - by * y for x, y in zip(rows[at], first)]
            many += 1
    return many


def as_row(told):
    return list(told[0]) + list(told[1])


def as_sum(book, row):
    return (tuple(row[:book[1]]), tuple(row[book[1]:]))


class Held(unittest.TestCase):

    def look_over(self, book):
        """The least list, looked over, a list of rows."""
        rooms, purses, ways = book
        told = held(book)
        self.assertIs(type(told), list)
        for part in told:
            self.assertEqual((type(part), len(part), type(part[0]), type(part[1])), (tuple, 2, tuple, tuple))
            self.assertEqual((len(part[0]), len(part[1])), (purses, rooms))
            self.assertTrue(all(whole(number) for number in as_row(part)))
            self.assertTrue(all(fall_by(book, part, k) == 0 for k in range(len(ways))))
            self.assertIs(is_held(book, part), True)
        rows = [as_row(part) for part in told]
        firsts = [next(place for place, number in enumerate(row) if number) for row in rows]
        self.assertTrue(all(ahead < then for ahead, then in zip(firsts, firsts[1:])))
        for at, (row, first) in enumerate(zip(rows, firsts)):
            self.assertGreater(row[first], 0)
            self.assertEqual(math.gcd(*row), 1)
            self.assertTrue(all(other[first] == 0 for place, other in enumerate(rows) if place != at))
        self.assertEqual(len(rows), purses + rooms - rank(falls_of(book)))
        return rows

    def test_by_hand(self):
        for book, due in BY_HAND:
            with self.subTest(book):
                self.look_over(book)
                self.assertEqual(held(book), due)

    def test_no_ways_at_the_bounds(self):
        rows = self.look_over((12, 6, ()))
        self.assertEqual(rows, [[int(place == at) for place in range(18)] for at in range(18)])

    def test_gains_of_noughts(self):
        book = (3, 2, ((0, 1, (0, 0)), (1, 0, (0, 0)), (2, 2, (0, 0))))
        self.assertEqual(held(book), [
            ((1, 0), (0, 0, 0)), ((0, 1), (0, 0, 0)), ((0, 0), (1, 1, 0)), ((0, 0), (0, 0, 1)),
        ])

    def test_made_books(self):
        many = []
        for book in made_books(400, 161) + sparse_books(300, 162) + made_few(300, 163):
            many.append(len(self.look_over(book)))
        self.assertGreater(len(set(many)), 5)

    def test_books_at_the_bounds(self):
        for book in [WIDE] + wide_books(8, 164) + tight_books(24, 165) + wide_but_few(40, 166):
            began = time.monotonic()
            self.look_over(book)
            self.assertLess(time.monotonic() - began, 60)

    def test_the_weights_of_weighed_gains(self):
        # Books of which a weighed sum of the gains is always 0: it is one of the list's.
        source = random.Random(167)
        for _ in range(50):
            weights = [source.randint(-4, 4) for _ in range(5)] + [1]
            ways = []
            for _ in range(60):
                gains = [source.randint(-4, 4) for _ in range(5)]
                gains.append(-sum(x * y for x, y in zip(weights, gains)))
                ways.append((source.randrange(12), source.randrange(12), tuple(gains)))
            rows = self.look_over((12, 6, tuple(ways)))
            self.is_one_of(rows, weights + [0] * 12)

    def is_one_of(self, rows, row):
        """The row is a whole combination of the rows over one divisor."""
        left = [Fraction(number) for number in row]
        for other in rows:
            first = next(place for place, number in enumerate(other) if number)
            by = left[first] / other[first]
            left = [x - by * y for x, y in zip(left, other)]
        self.assertFalse(any(left))

    def test_each_held_sum_is_one_of_the_list(self):
        source = random.Random(168)
        found = 0
        for book in made_few(200, 169) + [SWAP]:
            rows = self.look_over(book)
            for numbers in itertools.islice(itertools.product(range(-2, 3), repeat=min(4, book[1] + book[0])), 625):
                row = list(numbers) + [source.randint(-3, 3) for _ in range(book[1] + book[0] - len(numbers))]
                if is_held(book, as_sum(book, row)):
                    self.is_one_of(rows, row)
                    found += any(row)
        self.assertGreater(found, 500)

    def test_combinations_over_a_divisor(self):
        source = random.Random(170)
        for book in made_few(200, 171):
            rows = self.look_over(book)
            times = [source.randint(-9, 9) for _ in rows]
            row = [sum(x * other[place] for x, other in zip(times, rows)) for place in range(book[0] + book[1])]
            divisor = math.gcd(*row) or 1
            row = [number // divisor for number in row]
            self.assertIs(is_held(book, as_sum(book, row)), True)
            self.is_one_of(rows, row)


class IsHeld(unittest.TestCase):

    def test_by_hand(self):
        self.assertIs(is_held(SWAP, ((1, 1, 0), (0, 0))), True)
        self.assertIs(is_held(SWAP, ((-5, -5, 0), (7, 7))), True)
        self.assertIs(is_held(SWAP, ((0, 0, 0), (0, 0))), True)
        self.assertIs(is_held(SWAP, ((-GREAT, -GREAT, 0), (-GREAT, -GREAT))), True)
        self.assertIs(is_held(SWAP, ((1, 1, 1), (0, 0))), False)
        self.assertIs(is_held(SWAP, ((1, 1, 0), (0, 1))), False)
        self.assertIs(is_held(SWAP, ((1, -1, 0), (0, 0))), False)
        # Falls by 1 is no more held than rises by 1.
        self.assertIs(is_held((1, 1, ((0, 0, (-1,)),)), ((1,), (0,))), False)
        self.assertIs(is_held((1, 1, ((0, 0, (-1,)),)), ((-1,), (0,))), False)
        self.assertIs(is_held((1, 1, ((0, 0, (-1,)),)), ((0,), (-8,))), True)

    def test_no_ways(self):
        self.assertIs(is_held((1, 1, ()), ((-GREAT,), (GREAT,))), True)

    def test_the_last_way_counts(self):
        book = (1, 1, ((0, 0, (0,)),) * 59 + ((0, 0, (1,)),))
        self.assertIs(is_held(book, ((1,), (0,))), False)
        self.assertIs(is_held(book, ((0,), (1,))), True)

    def test_one_off(self):
        source = random.Random(172)
        words = []
        for book in made_books(150, 173) + made_few(150, 174):
            for part in held(book):
                scale = source.choice((1, -1, 7, -GREAT))
                row = [scale * number for number in as_row(part)]
                self.assertIs(is_held(book, as_sum(book, row)), True)
                row[source.randrange(len(row))] += source.choice((-1, 1))
                due = all(fall_by(book, as_sum(book, row), k) == 0 for k in range(len(book[2])))
                self.assertIs(is_held(book, as_sum(book, row)), due)
                words.append(due)
        self.assertGreater(words.count(True), 50)
        self.assertGreater(words.count(False), 50)


def made_few(many, seed):
    """So many small books of few ways, so that not a few sums are held."""
    source = random.Random(seed)
    books = []
    for _ in range(many):
        rooms, purses, ways = source.randint(1, 4), source.randint(1, 4), source.randint(0, 4)
        books.append(book_by_chance(source, rooms, purses, ways, lambda: source.randint(-3, 3)))
    return books


def wide_but_few(many, seed):
    """So many books of twelve rooms, six purses and gains to 99, of one to twenty ways."""
    source = random.Random(seed)
    return [book_by_chance(source, 12, 6, at % 20 + 1, lambda: source.randint(-99, 99)) for at in range(many)]


class NothingIsChangedOrKept(unittest.TestCase):

    def test_what_is_handed_in(self):
        for book, due in BY_HAND:
            kept = copy.deepcopy(book)
            for part in held(kept):
                is_held(kept, part)
            self.assertEqual(kept, book)

    def test_the_told_list_is_the_askers_own(self):
        for book, due in BY_HAND:
            told = held(book)
            told.reverse()
            told.append(None)
            self.assertEqual(held(book), due)

    def test_the_same_whatever_was_asked_ahead(self):
        first = [held(book) for book, _ in BY_HAND]
        then = [held(book) for book, _ in reversed(BY_HAND)]
        self.assertEqual(first, then[::-1])
