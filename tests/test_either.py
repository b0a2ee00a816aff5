"""Points 11 and 12, and what of 3 bears on them: a sum or a round of one way, the greatest ones of all ways."""

import copy
import random
import time
import unittest

from fallsum.either import greatest, sum_or_round
from fallsum.errors import NoRing, NoWay
from tests.looks import fall_by, is_such_round, is_such_sum, rings_by_walks
from tests.samples import (
    GREAT, PAIR, SWAP, TWO, VALLEY, WIDE, made_books, some_rings, sparse_books, tight_books, wide_books,
)

# Book, ways of one ring, those of them that fall by some sum, worked out by hand.
BY_HAND = (
    ((1, 1, ((0, 0, (-1,)),)), [0], [0]),
    ((1, 1, ((0, 0, (0,)),)), [0], []),
    ((1, 1, ((0, 0, (1,)),)), [0], []),
    ((1, 1, ((0, 0, (-1,)), (0, 0, (1,)))), [0, 1], []),
    ((1, 2, ((0, 0, (-1, 5)), (0, 0, (0, -1)))), [0, 1], [0, 1]),
    ((1, 2, ((0, 0, (-1, 5)), (0, 0, (1, -5)))), [0, 1], []),
    ((1, 2, ((0, 0, (-1, 5)), (0, 0, (1, -6)))), [0, 1], [0, 1]),
    ((1, 2, ((0, 0, (-1, 5)), (0, 0, (1, -4)))), [0, 1], []),
    ((1, 2, ((0, 0, (-1, 5)), (0, 0, (1, -5)), (0, 0, (0, -1)))), [0, 1, 2], [2]),
    ((1, 2, ((0, 0, (-1, 0)), (0, 0, (-2, 1)))), [0, 1], [0, 1]),
    ((1, 2, ((0, 0, (-1, 0)), (0, 0, (0, 0)))), [0, 1], [0]),
    ((2, 1, ((0, 1, (7,)), (1, 0, (-7,)))), [0, 1], []),
    ((2, 1, ((0, 1, (7,)), (1, 0, (-8,)))), [0, 1], [0, 1]),
    ((2, 1, ((0, 1, (7,)), (1, 0, (-6,)))), [0, 1], []),
    ((2, 1, ((0, 1, (7,)), (1, 0, (-7,)), (1, 0, (-9,)))), [0, 1, 2], [2]),
    (SWAP, [0, 1, 2, 3], [2, 3]),
    (SWAP, [0], [0]),
    (SWAP, [1], [1]),
    (SWAP, [2, 3], [2, 3]),
    (SWAP, [0, 2, 3], [0, 2, 3]),
    (TWO, [0, 1], [0, 1]),
    (TWO, [3], []),
    (VALLEY, [0, 1, 2, 3, 4], []),
    (VALLEY, [0, 1, 2, 3], []),
    (VALLEY, [4], []),
    (PAIR, [0, 1], [0, 1]),
    (PAIR, [3, 4], [3, 4]),
    (PAIR, [2], [2]),
    (PAIR, [0, 1, 2], [0, 1, 2]),
    (PAIR, [0, 1, 2, 3, 4], []),
    (PAIR, [0, 1, 4], []),
    (WIDE, list(range(60)), list(range(60))),
)

# Lists that aren't of one ring of just these, of SWAP, of TWO and of PAIR.
NO_RINGS = (
    (SWAP, []), (SWAP, [0, 1]), (SWAP, [2]), (SWAP, [3]), (SWAP, [0, 2]), (SWAP, [0, 1, 2]), (SWAP, [0, 1, 3]),
    (TWO, []), (TWO, [0, 1, 3]), (TWO, [0, 1, 2]), (TWO, [2]), (TWO, [2, 3]), (TWO, [4]), (TWO, [0, 1, 4]),
    (TWO, [0, 1, 2, 3, 4]), (TWO, [0]), (TWO, [1, 3]), (PAIR, [0]), (PAIR, [2, 3]), (PAIR, [0, 2, 3, 4]),
    ((1, 1, ()), []), (WIDE, list(range(11))), (WIDE, [k for k in range(60) if k % 12 != 7]),
)


class LookedOver(unittest.TestCase):

    def one(self, book, some, k):
        """What is told of one way, looked over; its first word."""
        told = sum_or_round(book, some, k)
        self.assertIs(type(told), tuple)
        self.assertEqual(len(told), 2)
        word, thing = told
        if word == "sum":
            self.assertTrue(is_such_sum(book, thing))
            self.assertGreaterEqual(min(fall_by(book, thing, way) for way in some), 0)
            self.assertGreaterEqual(fall_by(book, thing, k), 1)
        else:
            self.assertEqual(word, "round")
            self.assertTrue(is_such_round(book, thing, some))
            self.assertGreater(thing[k], 0)
        return word

    def all(self, book, some):
        """The greatest ones, looked over; the ways that fall."""
        told = greatest(book, some)
        self.assertIs(type(told), tuple)
        best, counts = told
        falls, rounds = [], []
        if best is not None:
            self.assertTrue(is_such_sum(book, best))
            self.assertGreaterEqual(min(fall_by(book, best, k) for k in some), 0)
            falls = [k for k in some if fall_by(book, best, k) >= 1]
            self.assertNotEqual(falls, [])
        if counts is not None:
            self.assertTrue(is_such_round(book, counts, some))
            rounds = [k for k in some if counts[k] > 0]
        # Every way is one of both, never both.
        self.assertEqual(sorted(falls + rounds), some)
        return falls

    def test_by_hand(self):
        for book, some, falls in BY_HAND:
            with self.subTest((book, some)):
                self.assertEqual(self.all(book, some), falls)
                for k in some:
                    self.assertEqual(self.one(book, some, k), "sum" if k in falls else "round")

    def test_none_where_there_is_none(self):
        for book, some, falls in BY_HAND:
            best, counts = greatest(book, some)
            self.assertEqual(best is None, falls == [])
            self.assertEqual(counts is None, falls == some)

    def test_made_books(self):
        source = random.Random(71)
        for book in made_books(150, 72) + sparse_books(150, 73):
            for some in some_rings(source, book):
                falls = self.all(book, some)
                for k in some:
                    self.assertEqual(self.one(book, some, k), "sum" if k in falls else "round")

    def test_books_at_the_bounds(self):
        source = random.Random(74)
        for book in wide_books(16, 75) + tight_books(16, 76):
            for some in some_rings(source, book)[:2]:
                began = time.monotonic()
                falls = self.all(book, some)
                for k in some[::9]:
                    self.assertEqual(self.one(book, some, k), "sum" if k in falls else "round")
                self.assertLess(time.monotonic() - began, 60)

    def test_rings_of_one_way_at_the_bounds(self):
        for gain in (-99, -1, 0, 1, 99):
            for p in range(6):
                gains = [0] * 6
                gains[p] = gain
                book = (12, 6, ((11, 11, tuple(gains)),))
                self.assertEqual(self.all(book, [0]), [0] if gain < 0 else [])

    def test_the_greatest_gains_round_all_rooms(self):
        for last, falls in ((-99, True), (99, False)):
            gains = [(99,) * 6, (-99,) * 6] * 5 + [(0,) * 6, (last,) * 6]
            book = (12, 6, tuple((room, (room + 1) % 12, gains[room]) for room in range(12)))
            some = list(range(12))
            self.assertEqual(self.all(book, some), some if falls else [])


class Refused(unittest.TestCase):

    def refused(self, error, asked, *things):
        with self.assertRaises(error) as caught:
            asked(*things)
        self.assertIs(type(caught.exception), error)

    def test_no_ring(self):
        for book, some in NO_RINGS:
            with self.subTest(some):
                self.refused(NoRing, greatest, book, some)
                for k in some:
                    self.refused(NoRing, sum_or_round, book, some, k)

    def test_both_are_due(self):
        for book, some in NO_RINGS:
            for k in (-1, len(book[2]), GREAT, 59):
                if k not in some:
                    self.refused(NoRing, sum_or_round, book, some, k)

    def test_no_way_of_these(self):
        for book, some, _ in BY_HAND:
            for k in [-1, -2, len(book[2]), len(book[2]) + 1, GREAT, -GREAT] + list(range(len(book[2]))):
                if k not in some:
                    self.refused(NoWay, sum_or_round, book, some, k)

    def test_a_truth_is_no_way(self):
        self.refused(NoWay, sum_or_round, PAIR, [0, 1], True)
        self.refused(NoWay, sum_or_round, PAIR, [0, 1], False)

    def test_just_the_lists_that_are_of_one_ring(self):
        source = random.Random(77)
        for book in made_books(100, 78):
            for _ in range(10):
                some = [k for k in range(len(book[2])) if source.random() < 0.6]
                if rings_by_walks(book, some) == [some]:
                    self.assertEqual(len(greatest(book, some)), 2)
                    self.assertEqual(len(sum_or_round(book, some, source.choice(some))), 2)
                else:
                    self.refused(NoRing, greatest, book, some)
                    self.refused(NoRing, sum_or_round, book, some, source.randrange(len(book[2])))

    def test_what_is_no_rising_list_of_ways(self):
        for some in ([1, 0], [0, 0, 1], [0, 1, 1], [0, 1, 5], [-1, 0, 1], [-1], [5], [GREAT]):
            self.refused(NoRing, greatest, PAIR, some)
            self.refused(NoRing, sum_or_round, PAIR, some, some[0])


class NothingIsChangedOrKept(unittest.TestCase):

    def test_what_is_handed_in(self):
        for book, some, _ in BY_HAND:
            held, ways = copy.deepcopy(book), list(some)
            greatest(held, ways)
            for k in some:
                sum_or_round(held, ways, k)
            self.assertEqual((held, ways), (book, some))

    def test_where_it_is_refused(self):
        for book, some in NO_RINGS:
            held, ways = copy.deepcopy(book), list(some)
            with self.assertRaises(NoRing):
                greatest(held, ways)
            self.assertEqual((held, ways), (book, some))

    def test_the_same_whatever_was_asked_ahead(self):
        first = [greatest(book, some) for book, some, _ in BY_HAND]
        then = [greatest(book, some) for book, some, _ in reversed(BY_HAND)]
        self.assertEqual(first, then[::-1])

    def test_a_list_that_the_asker_changes(self):
        some = [0, 1, 2, 3]
        told = greatest(SWAP, some)
        due = copy.deepcopy(told)
        some.clear()
        self.assertEqual(told, due)
        self.assertEqual(greatest(SWAP, [0, 1, 2, 3]), due)
