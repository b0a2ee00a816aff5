"""Points 14 and 15, and what of 2 and 3 bears on them: a line or a square of a book that ends, and its most steps."""

import copy
import itertools
import random
import time
import unittest

from fallsum.ends import ends
from fallsum.errors import NoEnd
from fallsum.lines import line_or_square, steps_at_most, turned
from fallsum.toldwalks import is_told, told_gain, told_length, told_need
from fallsum.walks import is_walk, need
from tests.looks import fall_by, gains_of_counts, is_such_sum, led_to, most_along, rings_by_walks, whole
from tests.samples import (
    GREAT, PAIR, SWAP, TWO, VALLEY, WIDE, made_books, made_told, made_walk, row_of, sparse_books, spread, tight_books,
    times_each_way, told_rooms, wide_books,
)

# Rings of rooms 3, 1, 0 and 2: from 3 a walk leads to 1, from 1 to 0; to and from 2 none.
AHEAD = (5, 1, (
    (0, 0, (-1,)),
    (1, 0, (9,)),
    (1, 1, (-2,)),
    (3, 4, (3,)),
    (4, 3, (-4,)),
    (4, 1, (0,)),
    (2, 2, (-5,)),
))

# Three rooms in a ring that costs the fourth purse; in each one purse is given for the next one.
THREE = (3, 4, (
    (0, 0, (-1, 2, 0, 0)),
    (1, 1, (0, -2, 3, 0)),
    (2, 2, (1, 0, -3, 0)),
    (0, 1, (0, 0, 0, -1)),
    (1, 2, (0, 0, 0, 0)),
    (2, 0, (0, 0, 0, 0)),
))

# A line, and a square to which a walk leads from it.
MIXED = (4, 3, ((0, 0, (-1, 0, 0)), (0, 2, (0, 5, 5))) + tuple((a + 2, b + 2, gains) for a, b, gains in SWAP[2]))

LINES = (
    (1, 1, ()),
    (12, 6, ()),
    (2, 1, ((0, 1, (99,)),)),
    (3, 1, ((0, 1, (99,)), (0, 2, (5,)), (1, 2, (5,)))),
    (1, 1, ((0, 0, (-1,)),)),
    (1, 2, ((0, 0, (-1, 5)), (0, 0, (0, -1)))),
    (1, 2, ((0, 0, (-1, 99)), (0, 0, (0, -1)), (0, 0, (-99, 99)))),
    (2, 1, ((0, 1, (7,)), (1, 0, (-8,)))),
    (2, 1, ((0, 0, (-1,)), (1, 1, (-1,)))),
    (2, 1, ((1, 1, (-1,)), (0, 0, (-1,)), (1, 0, (3,)))),
    (2, 1, ((0, 0, (-1,)), (1, 1, (-1,)), (1, 0, (3,)))),
    AHEAD,
    WIDE,
)

SQUARES = (
    SWAP,
    THREE,
    MIXED,
    # Two rooms: there and back for one of both, or for both together.
    (2, 3, SWAP[2][:2] + ((0, 1, (0, 0, -1)), (1, 0, (0, 0, -1)))),
    (2, 2, ((0, 0, (-1, 1)), (1, 1, (1, -1)), (0, 1, (-1, 0)), (1, 0, (0, 0)))),
    (2, 2, ((0, 0, (-2, 1)), (1, 1, (2, -1)), (0, 1, (-1, 0)), (1, 0, (0, -1)))),
    # Loops of more than one way within a loop.
    (4, 3, (
        (0, 1, (-5, 3, 0)), (1, 0, (4, -2, 0)), (2, 3, (9, -9, 0)), (3, 2, (-8, 8, 0)),
        (0, 2, (0, 0, -7)), (3, 1, (0, 0, 2)),
    )),
)

FOR_EVER = (
    TWO,
    PAIR,
    VALLEY,
    (1, 1, ((0, 0, (0,)),)),
    (1, 1, ((0, 0, (1,)),)),
    (1, 2, ((0, 0, (-1, 5)), (0, 0, (1, -5)))),
    # A line, then one that goes on; a square, then one that goes on, and the other way round.
    (2, 1, ((0, 0, (-1,)), (0, 1, (0,)), (1, 1, (0,)))),
    (3, 3, SWAP[2] + ((0, 2, (0, 0, 0)), (2, 2, (0, 0, 0)))),
    (3, 3, ((2, 2, (0, 0, 0)),) + SWAP[2]),
)

TIMES = (1, 2, 3, 10, 1000, 10 ** 37 + 11)


class LookedOver(unittest.TestCase):

    def look_over(self, book):
        """What is told of a book, looked over; its first word."""
        told = line_or_square(book)
        self.assertIs(type(told), tuple)
        if told[0] == "line":
            self.assertEqual(len(told), 2)
            self.look_over_sums(book, told[1])
        else:
            self.assertEqual((told[0], len(told)), ("square", 3))
            self.look_over_turns(book, told[1], told[2])
        return told[0]

    def look_over_sums(self, book, sums):
        self.assertIs(type(sums), list)
        every = range(len(book[2]))
        for part in sums:
            self.assertEqual((type(part), len(part), type(part[0])), (tuple, 2, tuple))
            ways, told = part
            self.assertTrue(is_such_sum(book, told))
            self.assertGreaterEqual(min(fall_by(book, told, k) for k in ways), 1)
        self.assertEqual(sorted(list(ways) for ways, _ in sums), sorted(rings_by_walks(book, every)))
        for (ways, _), (then, _) in itertools.combinations(sums, 2):
            self.assertNotIn(ways[0], led_to(book, every, then[0]))

    def look_over_turns(self, book, turns, most):
        self.assertEqual((type(turns), whole(most)), (list, True))
        self.assertGreaterEqual(len(turns), 2)
        used = set()
        counts = [0] * len(book[2])
        for (walk, link), (then, _) in zip(turns, turns[1:] + turns[:1]):
            self.assertIs(is_told(book, walk), True)
            first, last = told_rooms(book, walk)
            self.assertEqual(first, last)
            often = times_each_way(book, walk)
            counts = [x + y for x, y in zip(counts, often)]
            used |= {k for k, many in enumerate(often) if many} | set(link)
            self.look_over_link(book, link, first, told_rooms(book, then)[0])
        self.assertTrue(all(type(turn) is tuple and len(turn) == 2 for turn in turns))
        self.assertGreaterEqual(min(gains_of_counts(book, counts)), 0)
        self.assertTrue(any(used <= set(ring) for ring in rings_by_walks(book, range(len(book[2])))))
        for k in TIMES:
            told = turned(turns, k)
            self.assertIs(is_told(book, told), True)
            self.assertLessEqual(max(told_need(book, told)), most * k)
            self.assertGreater(told_length(told), k * k)

    def look_over_link(self, book, link, room, then):
        self.assertIs(type(link), list)
        if link:
            self.assertTrue(is_walk(book, link))
            self.assertEqual((book[2][link[0]][0], book[2][link[-1]][1]), (room, then))
        else:
            self.assertEqual(room, then)


class LineOrSquare(LookedOver):

    def test_lines(self):
        for book in LINES:
            with self.subTest(book):
                self.assertEqual(self.look_over(book), "line")

    def test_squares(self):
        for book in SQUARES:
            with self.subTest(book):
                self.assertEqual(self.look_over(book), "square")

    def test_no_ring_at_all(self):
        for book in LINES[:4]:
            self.assertEqual(line_or_square(book), ("line", []))

    def test_one_ring_and_several(self):
        self.assertEqual([len(line_or_square(book)[1]) for book in LINES[4:]], [1, 1, 1, 1, 2, 2, 2, 4, 1])

    def test_each_ahead_of_all_to_which_it_leads(self):
        order = [ways for ways, _ in line_or_square(AHEAD)[1]]
        self.assertEqual([ways for ways in order if ways != (6,)], [(3, 4), (2,), (0,)])
        # However the ways are numbered.
        for numbers in itertools.permutations(range(7)):
            book = (5, 1, tuple(AHEAD[2][k] for k in numbers))
            order = [[numbers[k] for k in ways] for ways, _ in line_or_square(book)[1]]
            order = [sorted(ways) for ways in order if ways != [6]]
            self.assertEqual(order, [[3, 4], [2], [0]])

    def test_refused_where_it_goes_on_for_ever(self):
        for book in FOR_EVER:
            with self.subTest(book):
                self.refused(book)

    def refused(self, book):
        self.assertEqual(ends(book)[0], "never")
        with self.assertRaises(NoEnd) as caught:
            line_or_square(book)
        self.assertIs(type(caught.exception), NoEnd)

    def looked_over_or_refused(self, book):
        if ends(book)[0] == "ends":
            return self.look_over(book)
        self.refused(book)
        return "never"

    def test_made_books(self):
        words = [self.looked_over_or_refused(book) for book in made_books(300, 101) + sparse_books(500, 102)]
        self.assertGreater(words.count("line"), 200)
        self.assertGreater(words.count("never"), 200)

    def test_swaps_by_chance(self):
        source = random.Random(103)
        words = [self.looked_over_or_refused(self.swaps(source)) for _ in range(300)]
        self.assertGreater(words.count("square"), 50)
        self.assertGreater(words.count("line"), 50)

    def swaps(self, source):
        """A book of a ring that costs, in each room of which a purse is given for another one."""
        rooms, purses = source.randint(2, 5), source.randint(3, 4)
        ways = []
        for room in range(rooms):
            ways.append((room, (room + 1) % rooms, (0,) * (purses - 1) + (-int(room == 0),)))
            gains = [0] * purses
            given, taken = source.sample(range(purses - 1), 2)
            gains[given], gains[taken] = -source.randint(1, 2), source.randint(1, 2)
            ways.append((room, room, tuple(gains)))
        source.shuffle(ways)
        return (rooms, purses, tuple(ways))

    def test_books_at_the_bounds(self):
        words = []
        for book in wide_books(16, 104) + tight_books(24, 105):
            began = time.monotonic()
            words.append(self.looked_over_or_refused(book))
            self.assertLess(time.monotonic() - began, 60)
        self.assertEqual([words.count(word) > 2 for word in ("line", "square", "never")], [True] * 3)


class Turned(unittest.TestCase):

    def test_by_hand(self):
        turns = [(("way", 0), [2]), (("row", (("way", 1), ("way", 1))), [3])]
        for k in (1, 2, 7, GREAT):
            self.assertEqual(turned(turns, k), ("times", k, ("row", (
                ("times", k, ("way", 0)),
                ("row", (("way", 2),)),
                ("times", k, ("row", (("way", 1), ("way", 1)))),
                ("row", (("way", 3),)),
            ))))

    def test_links_of_none_and_of_more(self):
        turns = [(("way", 0), []), (("times", 5, ("way", 1)), [3, 4, 3]), (("way", 2), [])]
        for k in (1, 2, 1000, GREAT):
            self.assertEqual(turned(turns, k), ("times", k, ("row", (
                ("times", k, ("way", 0)),
                ("times", k, ("times", 5, ("way", 1))),
                ("row", (("way", 3), ("way", 4), ("way", 3))),
                ("times", k, ("way", 2)),
            ))))

    def test_one_tuple_alone(self):
        self.assertEqual(turned([(("way", 7), [])], 3), ("times", 3, ("row", (("times", 3, ("way", 7)),))))

    def test_numbers_that_no_book_has(self):
        told = turned([(("way", GREAT), [-1, GREAT]), (("way", 0), [-GREAT])], 2)
        self.assertEqual(told, ("times", 2, ("row", (
            ("times", 2, ("way", GREAT)), row_of(-1, GREAT), ("times", 2, ("way", 0)), row_of(-GREAT),
        ))))

    def test_any_tuples(self):
        source = random.Random(106)
        for book in made_books(100, 107):
            turns = []
            for _ in range(source.randint(1, 4)):
                link = made_walk(source, book, 3) if source.random() < 0.6 else []
                turns.append((made_told(source, book, source.choice(book[2])[0], 3), link))
            for k in (1, 2, 3):
                told = turned(turns, k)
                self.assertEqual((told[0], told[1], told[2][0]), ("times", k, "row"))
                once = [way for walk, link in turns for way in spread(walk) * k + link]
                self.assertEqual(spread(told), once * k)
                self.assertEqual(len(told[2][1]), len(turns) + sum(link != [] for _, link in turns))

    def test_gone_along(self):
        for book in SQUARES:
            word, turns, most = line_or_square(book)
            for k in (1, 2, 3, 5):
                told = turned(turns, k)
                walk = spread(told)
                self.assertTrue(is_walk(book, walk))
                self.assertEqual(told_need(book, told), need(book, walk))
                self.assertLessEqual(max(need(book, walk)), most * k)
                self.assertGreater(len(walk), k * k)

    def test_no_gain_below_0_but_by_the_links(self):
        for book in SQUARES:
            turns = line_or_square(book)[1]
            bare = turned([(walk, []) for walk, _ in turns], 1)
            self.assertGreaterEqual(min(told_gain(book, bare)), 0)


def told_steps(book, sums, most):
    """The steps as point 15 tells them, written once more."""
    rooms, purses, ways = book
    g = max([0] + [gain for way in ways for gain in way[2]])
    m, t = most + g * (rooms - 1), rooms - 1
    for some, (weights, heights) in sums:
        from_rooms = {ways[k][0] for k in some}
        h = max(heights[room] for room in from_rooms) - min(heights[room] for room in from_rooms)
        more = sum(weights) * m + h
        t, m = t + more, m + g * more
    return t


class StepsAtMost(unittest.TestCase):

    def test_no_ring(self):
        for N in (0, 1, GREAT):
            self.assertEqual(steps_at_most((1, 1, ()), [], N), 0)
            self.assertEqual(steps_at_most((12, 6, ()), [], N), 11)
            self.assertEqual(steps_at_most(LINES[3], [], N), 2)

    def test_no_gain_above_0(self):
        book = (1, 1, ((0, 0, (-1,)),))
        self.assertEqual([steps_at_most(book, [((0,), ((1,), (0,)))], N) for N in (0, 1, 7, GREAT)], [0, 1, 7, GREAT])
        self.assertEqual(steps_at_most(book, [((0,), ((3,), (9,)))], 7), 21)
        book = (3, 1, ((0, 1, (-1,)), (1, 0, (0,))))
        self.assertEqual(steps_at_most(book, [((0, 1), ((2,), (1, 0, 99)))], 10), 2 + 20 + 1)

    def test_one_ring(self):
        book = (2, 2, ((0, 1, (7, -1)), (1, 0, (-8, 0)), (0, 0, (-2, -3))))
        # m = N + 7, t = 1; w = 4, h = 20: t = 1 + 4 * (N + 7) + 20.
        sums = [((0, 1, 2), ((3, 1), (5, -15)))]
        self.assertEqual(steps_at_most(book, sums, 0), 49)
        self.assertEqual(steps_at_most(book, sums, 10), 89)
        self.assertEqual(steps_at_most(book, sums, GREAT), 4 * GREAT + 49)

    def test_several_in_order(self):
        # g = 9, m = N + 36, t = 4; then (3, 4): w = 1, h = 4, (2,): w = 2, h = 0, (0,): w = 1, (6,): w = 3.
        sums = [
            ((3, 4), ((1,), (7, 7, 7, 4, 0))),
            ((2,), ((2,), (7, 6, 5, 4, 3))),
            ((0,), ((1,), (0, 0, 0, 0, 0))),
            ((6,), ((3,), (0, 0, -9, 0, 0))),
        ]
        m, t = 36, 4
        t, m = t + 40, m + 9 * 40
        t, m = t + 2 * m, m + 18 * m
        t, m = t + m, m + 9 * m
        t += 3 * m
        self.assertEqual(steps_at_most(AHEAD, sums, 0), t)
        self.assertNotEqual(steps_at_most(AHEAD, sums[::-1], 0), t)
        self.assertEqual(steps_at_most(AHEAD, sums[:1], 5), 4 + 45)

    def test_only_the_rooms_that_its_ways_lead_from(self):
        book = (4, 1, ((1, 1, (-1,)), (2, 2, (-1,)), (0, 1, (0,)), (2, 3, (0,))))
        told = ((1,), (99, 3, -99, 50))
        self.assertEqual(steps_at_most(book, [((0,), told), ((1,), told)], 6), 15)

    def test_told_again(self):
        source = random.Random(108)
        for book in list(LINES) + sparse_books(200, 109) + wide_books(24, 110):
            if ends(book)[0] == "never" or line_or_square(book)[0] == "square":
                continue
            sums = line_or_square(book)[1]
            for N in (0, 1, source.randint(2, 99), 10 ** 20, GREAT):
                told = steps_at_most(book, sums, N)
                self.assertIs(type(told), int)
                self.assertEqual(told, told_steps(book, sums, N))

    def test_against_the_longest_walks(self):
        looked = 0
        for book in list(LINES[:10]) + sparse_books(300, 111):
            if book[1] > 3 or ends(book)[0] == "never":
                continue
            told = line_or_square(book)
            if told[0] == "line":
                for N in (0, 1, 2):
                    looked += self.look_over(book, steps_at_most(book, told[1], N), N)
        self.assertGreater(looked, 2000)

    def look_over(self, book, most, N):
        """The longest walk from each stand with no number above N has no more steps; how many stands."""
        looked = 0
        for numbers in itertools.product(range(N + 1), repeat=book[1]):
            for room in range(book[0]):
                steps = most_along(book, (room, numbers), range(len(book[2])), 2000)
                if steps is not None:
                    self.assertLessEqual(steps, most)
                    looked += 1
        return looked


class NothingIsChangedOrKept(unittest.TestCase):

    def test_what_is_handed_in(self):
        for book in LINES + SQUARES:
            kept = copy.deepcopy(book)
            told = line_or_square(kept)
            due = copy.deepcopy(told)
            if told[0] == "line":
                steps_at_most(kept, told[1], 5)
            else:
                turned(told[1], 3)
            self.assertEqual((kept, told), (book, due))

    def test_the_told_lists_are_the_askers_own(self):
        for book in LINES + SQUARES:
            told = line_or_square(book)
            due = copy.deepcopy(told)
            if told[0] == "square":
                for _, link in told[1]:
                    link.append(0)
                    link.reverse()
            told[1].append(None)
            told[1].reverse()
            self.assertEqual(line_or_square(book), due)

    def test_each_link_is_a_list_of_its_own(self):
        for book in SQUARES:
            links = [link for _, link in line_or_square(book)[1]]
            self.assertEqual(len({id(link) for link in links}), len(links))

    def test_a_link_that_the_asker_changes_then(self):
        turns = [(("way", 0), [2]), (("way", 1), [3])]
        told = turned(turns, 2)
        turns[0][1].append(9)
        turns.clear()
        self.assertEqual(told, turned([(("way", 0), [2]), (("way", 1), [3])], 2))

    def test_the_same_whatever_was_asked_ahead(self):
        books = LINES + SQUARES
        first = [line_or_square(book) for book in books]
        then = [line_or_square(book) for book in books[::-1]]
        self.assertEqual(first, then[::-1])
