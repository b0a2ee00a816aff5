"""Point 17, and what of 2 and 3 bears on it: a purse of a ring is kept by a sum, or raised by a round."""

import copy
import random
import time
import unittest

from fallsum.errors import NoPurse, NoRing
from fallsum.purses import kept_or_raised
from tests.looks import fall_by, gains_of_counts, is_such_round, is_such_sum, rings_by_walks, stands_behind
from tests.samples import (
    GREAT, PAIR, SWAP, TWO, VALLEY, WIDE, made_books, some_rings, sparse_books, tight_books, wide_books,
)

# Book, ways of one ring, the purses that are kept, worked out by hand.
BY_HAND = (
    ((1, 1, ((0, 0, (-1,)),)), [0], [0]),
    ((1, 1, ((0, 0, (0,)),)), [0], [0]),
    ((1, 1, ((0, 0, (1,)),)), [0], []),
    ((1, 1, ((0, 0, (-99,)), (0, 0, (1,)))), [0, 1], []),
    ((1, 2, ((0, 0, (-1, 5)), (0, 0, (0, -1)))), [0, 1], [0, 1]),
    ((1, 2, ((0, 0, (-1, 5)), (0, 0, (1, -5)))), [0, 1], [0, 1]),
    ((1, 2, ((0, 0, (-1, 5)), (0, 0, (1, -4)))), [0, 1], []),
    ((1, 2, ((0, 0, (-1, 5)), (0, 0, (1, -6)))), [0, 1], [0, 1]),
    ((1, 2, ((0, 0, (0, 1)), (0, 0, (0, -5)))), [0, 1], [0]),
    ((1, 3, ((0, 0, (0, 1, -1)), (0, 0, (0, 0, 1)))), [0, 1], [0]),
    ((1, 3, ((0, 0, (1, 1, -1)), (0, 0, (-1, 0, 1)))), [0, 1], [0, 2]),
    ((2, 1, ((0, 1, (7,)), (1, 0, (-7,)))), [0, 1], [0]),
    ((2, 1, ((0, 1, (7,)), (1, 0, (-6,)))), [0, 1], []),
    ((2, 1, ((0, 1, (7,)), (1, 0, (-8,)), (1, 1, (0,)))), [0, 1, 2], [0]),
    (SWAP, [0, 1, 2, 3], [0, 1, 2]),
    (SWAP, [0], [0, 1, 2]),
    (SWAP, [2, 3], [0, 1, 2]),
    (TWO, [0, 1], [0]),
    (TWO, [3], [0]),
    (VALLEY, [0, 1, 2, 3], []),
    (VALLEY, [4], []),
    (PAIR, [0, 1], [0, 1]),
    (PAIR, [3, 4], [0, 1]),
    (PAIR, [0, 1, 2, 3, 4], []),
    (WIDE, list(range(60)), [1, 2, 3, 5, 0, 4]),
)

NO_RINGS = (
    (SWAP, []), (SWAP, [0, 1]), (SWAP, [2]), (SWAP, [3]), (SWAP, [0, 2]), (SWAP, [0, 1, 2]),
    (TWO, []), (TWO, [0, 1, 3]), (TWO, [0, 1, 2]), (TWO, [2]), (TWO, [2, 3]), (TWO, [4]), (TWO, [0, 1, 2, 3, 4]),
    (PAIR, [0]), (PAIR, [2, 3]), ((1, 1, ()), []), (WIDE, list(range(11))),
)


class LookedOver(unittest.TestCase):

    def look_over(self, book, some, p):
        """What is told of a purse, looked over; its first word."""
        told = kept_or_raised(book, some, p)
        self.assertEqual((type(told), len(told)), (tuple, 2))
        word, thing = told
        if word == "kept":
            self.assertTrue(is_such_sum(book, thing))
            self.assertGreaterEqual(min(fall_by(book, thing, k) for k in some), 0)
            self.assertGreaterEqual(thing[0][p], 1)
        else:
            self.assertEqual(word, "raised")
            self.assertTrue(is_such_round(book, thing, some))
            self.assertGreaterEqual(gains_of_counts(book, thing)[p], 1)
        return word

    def kept(self, book, some):
        """The purses that are kept."""
        return [p for p in range(book[1]) if self.look_over(book, some, p) == "kept"]

    def test_by_hand(self):
        for book, some, kept in BY_HAND:
            with self.subTest((book, some)):
                self.assertEqual(self.kept(book, some), sorted(kept))

    def test_made_books(self):
        source = random.Random(141)
        kept = raised = 0
        for book in made_books(150, 142) + sparse_books(200, 143):
            for some in some_rings(source, book):
                many = len(self.kept(book, some))
                kept, raised = kept + many, raised + book[1] - many
        self.assertGreater(kept, 300)
        self.assertGreater(raised, 300)

    def test_books_at_the_bounds(self):
        source = random.Random(144)
        kept = raised = 0
        for book in wide_books(16, 145) + tight_books(24, 146):
            for some in some_rings(source, book)[:2]:
                began = time.monotonic()
                many = len(self.kept(book, some))
                self.assertLess(time.monotonic() - began, 60)
                kept, raised = kept + many, raised + 6 - many
        self.assertGreater(kept, 20)
        self.assertGreater(raised, 20)

    def test_never_above_the_worth_at_first(self):
        source = random.Random(147)
        for book in made_books(100, 148) + [SWAP, PAIR, TWO]:
            for some in some_rings(source, book):
                for p in range(book[1]):
                    told = kept_or_raised(book, some, p)
                    if told[0] == "kept":
                        self.goes_along(source, book, some, (p, told[1]))

    def goes_along(self, source, book, some, told):
        p, (weights, heights) = told
        rooms = {book[2][k][0] for k in some}
        room, numbers = source.choice(sorted(rooms)), tuple(source.randint(0, 9) for _ in range(book[1]))
        most = heights[room] + sum(x * y for x, y in zip(weights, numbers)) - min(heights[room] for room in rooms)
        stand = (room, numbers)
        for _ in range(40):
            self.assertLessEqual(stand[1][p], most)
            onward = [then for k, then in stands_behind(book, stand) if k in some]
            if not onward:
                break
            stand = source.choice(onward)


class Refused(unittest.TestCase):

    def refused(self, error, *things):
        with self.assertRaises(error) as caught:
            kept_or_raised(*things)
        self.assertIs(type(caught.exception), error)

    def test_no_ring(self):
        for book, some in NO_RINGS:
            for p in range(book[1]):
                with self.subTest((some, p)):
                    self.refused(NoRing, book, some, p)

    def test_no_purse(self):
        for book, some, _ in BY_HAND:
            for p in (-1, -book[1], book[1], book[1] + 1, GREAT, -GREAT):
                self.refused(NoPurse, book, some, p)

    def test_both_are_due(self):
        for book, some in NO_RINGS:
            for p in (-1, -book[1], book[1], book[1] + 1, GREAT, -GREAT):
                self.refused(NoRing, book, some, p)

    def test_just_the_lists_that_are_of_one_ring(self):
        source = random.Random(149)
        for book in made_books(100, 150):
            for _ in range(10):
                some = [k for k in range(len(book[2])) if source.random() < 0.6]
                if rings_by_walks(book, some) == [some]:
                    self.assertIn(kept_or_raised(book, some, 0)[0], ("kept", "raised"))
                else:
                    self.refused(NoRing, book, some, 0)


class NothingIsChangedOrKept(unittest.TestCase):

    def test_what_is_handed_in(self):
        for book, some, _ in BY_HAND:
            held, ways = copy.deepcopy(book), list(some)
            told = [kept_or_raised(held, ways, p) for p in range(book[1])]
            self.assertEqual((held, ways), (book, some))
            due = copy.deepcopy(told)
            ways.clear()
            self.assertEqual(told, due)

    def test_the_same_whatever_was_asked_ahead(self):
        asked = [(book, some, p) for book, some, _ in BY_HAND for p in range(book[1])]
        first = [kept_or_raised(*entry) for entry in asked]
        then = [kept_or_raised(*entry) for entry in asked[::-1]]
        self.assertEqual(first, then[::-1])
