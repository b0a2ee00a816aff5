"""Point 16, and what of 2 and 3 bears on it: how often a way can be done, by a sum and a flow, or without end."""

import copy
import itertools
import math
import random
import time
import unittest

from fallsum.ends import ends
from fallsum.errors import NoWay
from fallsum.often import how_often
from tests.looks import fall_by, gains_of_counts, is_such_round, is_such_sum, met_from, most_along, stands_behind, whole
from tests.samples import GREAT, PAIR, SWAP, TWO, VALLEY, WIDE, made_books, sparse_books, tight_books, wide_books

# Book, stand, way, n and d, worked out by hand.
BY_HAND = (
    ((1, 1, ((0, 0, (-1,)),)), (0, (0,)), 0, 0, 1),
    ((1, 1, ((0, 0, (-1,)),)), (0, (7,)), 0, 7, 1),
    ((1, 1, ((0, 0, (-2,)),)), (0, (7,)), 0, 7, 2),
    ((1, 1, ((0, 0, (-4,)),)), (0, (6,)), 0, 3, 2),
    ((1, 1, ((0, 0, (-1,)),)), (0, (GREAT,)), 0, GREAT, 1),
    ((1, 1, ((0, 0, (-7,)),)), (0, (GREAT,)), 0, GREAT, 7),
    ((1, 1, ((0, 0, (-9,)),)), (0, (GREAT,)), 0, GREAT // 9, 1),
    # The purse that is lowered first is the one that counts.
    ((1, 2, ((0, 0, (-2, -3)),)), (0, (10, 10)), 0, 10, 3),
    ((1, 2, ((0, 0, (-1, 5)), (0, 0, (0, -1)))), (0, (3, 2)), 0, 3, 1),
    ((1, 2, ((0, 0, (-1, 5)), (0, 0, (0, -1)))), (0, (3, 2)), 1, 17, 1),
    ((1, 2, ((0, 0, (-2, 5)), (0, 0, (1, -3)))), (0, (3, 2)), 0, 11, 1),
    # Outside of all rings: once, or as often as a purse allows by a part.
    ((2, 1, ((0, 1, (5,)),)), (0, (0,)), 0, 1, 1),
    ((2, 1, ((0, 1, (-5,)),)), (0, (3,)), 0, 3, 5),
    ((2, 1, ((0, 1, (-5,)),)), (0, (0,)), 0, 0, 1),
    ((2, 1, ((0, 1, (0,)), (0, 1, (0,)))), (0, (0,)), 1, 1, 1),
    ((3, 1, ((0, 1, (2,)), (1, 2, (-3,)))), (0, (0,)), 1, 2, 3),
    ((3, 1, ((0, 1, (2,)), (1, 2, (-3,)))), (0, (1,)), 1, 1, 1),
    ((3, 1, ((0, 1, (2,)), (1, 2, (-3,)))), (1, (1,)), 1, 1, 3),
    # Round a ring that costs 1, out of its first room once more than round: 7 of the purse's 12 are never spent,
    # but no sum tells that.
    ((2, 1, ((0, 1, (7,)), (1, 0, (-8,)))), (0, (5,)), 0, 13, 1),
    ((2, 1, ((0, 1, (7,)), (1, 0, (-8,)))), (0, (5,)), 1, 12, 1),
    ((2, 1, ((0, 1, (7,)), (1, 0, (-8,)))), (1, (5,)), 0, 5, 1),
    ((2, 1, ((0, 1, (7,)), (1, 0, (-8,)))), (1, (7,)), 1, 7, 1),
    # A ring that isn't met from the stand's room doesn't count.
    ((2, 2, ((0, 0, (-1, 1)), (1, 1, (1, -1)), (0, 1, (0, 0)))), (1, (3, 5)), 1, 5, 1),
    ((2, 2, ((0, 0, (-1, 1)), (1, 1, (1, -1)), (0, 1, (0, 0)))), (1, (3, 5)), 0, 0, 1),
    ((2, 2, ((0, 0, (-1, 1)), (1, 1, (1, -1)), (0, 1, (0, 0)))), (0, (3, 5)), 2, 1, 1),
)

# Book, stand, way: no most.
NO_MOST = (
    ((1, 1, ((0, 0, (0,)),)), (0, (0,)), 0),
    ((1, 1, ((0, 0, (1,)),)), (0, (0,)), 0),
    ((1, 1, ((0, 0, (-1,)), (0, 0, (1,)))), (0, (0,)), 0),
    ((1, 2, ((0, 0, (-1, 5)), (0, 0, (1, -5)))), (0, (0, 0)), 1),
    (SWAP, (0, (0, 0, 0)), 0),
    (SWAP, (0, (0, 0, 0)), 1),
    (PAIR, (0, (0, 0)), 2),
    (VALLEY, (2, (0,)), 0),
    (TWO, (0, (0,)), 3),
    (TWO, (3, (GREAT,)), 3),
    # Ways of two rings, one leading to the other: no sum tells that none leads back.
    ((2, 2, ((0, 0, (-1, 1)), (1, 1, (1, -1)), (0, 1, (0, 0)))), (0, (3, 5)), 0),
    ((2, 2, ((0, 0, (-1, 1)), (1, 1, (1, -1)), (0, 1, (0, 0)))), (0, (3, 5)), 1),
)

# Book, room, the ways met from there.
MET = (
    (TWO, 0, [0, 1, 2, 3]), (TWO, 1, [0, 1, 2, 3]), (TWO, 2, [3]), (TWO, 3, [0, 1, 2, 3, 4]),
    (SWAP, 0, [0, 1, 2, 3]), (SWAP, 1, [0, 1, 2, 3]),
    ((3, 1, ((0, 1, (2,)), (1, 2, (-3,)))), 0, [0, 1]),
    ((3, 1, ((0, 1, (2,)), (1, 2, (-3,)))), 1, [1]),
    ((3, 1, ((0, 1, (2,)), (1, 2, (-3,)))), 2, []),
    # Whatever the purses.
    ((2, 1, ((0, 1, (-99,)), (1, 1, (-1,)))), 0, [0, 1]),
)


class LookedOver(unittest.TestCase):

    def look_over(self, book, stand, k):
        """What is told, looked over; n and d, or None where there is no most."""
        told = how_often(book, stand, k)
        self.assertIs(type(told), tuple)
        met = met_from(book, stand[0])
        if told[0] == "none":
            word, counts = told
            self.assertTrue(is_such_round(book, counts, met))
            self.assertGreater(counts[k], 0)
            return None
        word, n, d, best, u, counts, e = told
        self.assertEqual(word, "most")
        self.assertTrue(whole(n) and whole(d) and n >= 0 and d >= 1 and math.gcd(n, d) == 1)
        if k not in met:
            nought = ((0,) * book[1], (0,) * book[0])
            self.assertEqual(told, ("most", 0, 1, nought, 1, (0,) * len(book[2]), 1))
        else:
            self.look_over_sum(book, stand, k, (n, d, best, u, met))
            self.look_over_flow(book, stand, k, (n, d, counts, e, met))
        return (n, d)

    def look_over_sum(self, book, stand, k, told):
        n, d, best, u, met = told
        self.assertTrue(is_such_sum(book, best) and whole(u) and u >= 1)
        weights, heights = best
        self.assertGreaterEqual(min(heights), 0)
        self.assertGreaterEqual(min(fall_by(book, best, way) for way in met), 0)
        self.assertGreaterEqual(fall_by(book, best, k), u)
        worth = heights[stand[0]] + sum(x * y for x, y in zip(weights, stand[1]))
        self.assertEqual(worth * d, n * u)

    def look_over_flow(self, book, stand, k, told):
        n, d, counts, e, met = told
        rooms, purses, ways = book
        self.assertTrue(type(counts) is tuple and len(counts) == len(ways) and whole(e) and e >= 1)
        self.assertTrue(all(whole(count) and count >= 0 for count in counts))
        self.assertTrue(all(count == 0 for way, count in enumerate(counts) if way not in met))
        for room in range(rooms):
            out_of = sum(count for count, way in zip(counts, ways) if way[0] == room)
            into = sum(count for count, way in zip(counts, ways) if way[1] == room)
            self.assertLessEqual(out_of, into + (e if room == stand[0] else 0))
        gains = gains_of_counts(book, counts)
        self.assertGreaterEqual(min(e * number + gain for number, gain in zip(stand[1], gains)), 0)
        self.assertEqual(counts[k] * d, n * e)


def some_stands(source, book):
    """A stand of noughts, of small and of great numbers, each in some room."""
    makers = (lambda: 0, lambda: source.randint(0, 9), lambda: source.choice((0, GREAT, source.randint(0, GREAT))))
    return [(source.randrange(book[0]), tuple(maker() for _ in range(book[1]))) for maker in makers]


class HowOften(LookedOver):

    def test_by_hand(self):
        for book, stand, k, n, d in BY_HAND:
            with self.subTest((book, stand, k)):
                self.assertEqual(self.look_over(book, stand, k), (n, d))

    def test_no_most(self):
        for book, stand, k in NO_MOST:
            with self.subTest((book, stand, k)):
                self.assertIsNone(self.look_over(book, stand, k))

    def test_ways_that_are_met(self):
        for book, room, met in MET:
            for k in range(len(book[2])):
                for number in (0, 5, GREAT):
                    stand = (room, (number,) * book[1])
                    told = how_often(book, stand, k)
                    due = ("most", 0, 1, ((0,) * book[1], (0,) * book[0]), 1, (0,) * len(book[2]), 1)
                    if k in met:
                        # By the sum of noughts no way falls.
                        self.assertNotEqual(told, due)
                    else:
                        self.assertEqual(told, due)
                    self.look_over(book, stand, k)

    def test_every_room_and_way(self):
        for book in (PAIR, SWAP, TWO, VALLEY):
            for room, k in itertools.product(range(book[0]), range(len(book[2]))):
                for number in (0, 1, 10, GREAT):
                    self.look_over(book, (room, (number,) * book[1]), k)

    def test_made_books(self):
        source = random.Random(121)
        told = []
        for book in made_books(250, 122) + sparse_books(250, 123):
            for stand in some_stands(source, book):
                for k in range(len(book[2])):
                    told.append(self.look_over(book, stand, k))
        self.assertGreater(told.count(None), 500)
        self.assertGreater(len([found for found in told if found is not None and found[0] > 0]), 500)
        self.assertGreater(len([found for found in told if found is not None and found[1] > 1]), 50)

    def test_books_at_the_bounds(self):
        source = random.Random(124)
        told = []
        for book in [WIDE] + wide_books(16, 125) + tight_books(16, 126):
            for stand in some_stands(source, book):
                for k in source.sample(range(60), 3):
                    began = time.monotonic()
                    told.append(self.look_over(book, stand, k))
                    self.assertLess(time.monotonic() - began, 60)
        self.assertGreater(told.count(None), 20)
        self.assertGreater(len(told) - told.count(None), 20)


class AgainstWalks(LookedOver):

    def test_no_walk_has_it_more_often(self):
        source = random.Random(127)
        looked = reached = 0
        for book in sparse_books(200, 128) + made_books(150, 129):
            if ends(book)[0] == "never":
                continue
            for _ in range(4):
                stand = (source.randrange(book[0]), tuple(source.randint(0, 4) for _ in range(book[1])))
                for k in range(len(book[2])):
                    most = most_along(book, stand, (k,), 1500)
                    told = self.look_over(book, stand, k)
                    if most is not None and told is not None:
                        self.assertLessEqual(most * told[1], told[0])
                        looked += 1
                        reached += most == told[0] // told[1]
        self.assertGreater(looked, 1000)
        self.assertGreater(reached, 500)

    def test_books_that_go_on(self):
        source = random.Random(130)
        for book in made_books(60, 131):
            stand = (source.randrange(book[0]), tuple(source.randint(0, 4) for _ in range(book[1])))
            told = [self.look_over(book, stand, k) for k in range(len(book[2]))]
            for _ in range(20):
                counts = self.counts_along(source, book, stand)
                for count, found in zip(counts, told):
                    self.assertTrue(found is None or count * found[1] <= found[0])

    def counts_along(self, source, book, stand):
        """How often a walk of at most a hundred ways, by chance, has each way."""
        counts = [0] * len(book[2])
        for _ in range(100):
            onward = stands_behind(book, stand)
            if not onward:
                break
            k, stand = source.choice(onward)
            counts[k] += 1
        return counts


class Refused(unittest.TestCase):

    def test_no_such_way(self):
        for book in (PAIR, SWAP, TWO, VALLEY, WIDE, (1, 1, ())):
            for k in (-1, -2, -len(book[2]), len(book[2]), len(book[2]) + 1, GREAT, -GREAT):
                for room in (0, book[0] - 1):
                    if not 0 <= k < len(book[2]):
                        with self.assertRaises(NoWay) as caught:
                            how_often(book, (room, (0,) * book[1]), k)
                        self.assertIs(type(caught.exception), NoWay)


class NothingIsChangedOrKept(unittest.TestCase):

    def test_what_is_handed_in(self):
        for book, stand, k, *_ in BY_HAND + NO_MOST:
            held = copy.deepcopy((book, stand))
            how_often(*held, k)
            self.assertEqual(held, (book, stand))

    def test_the_same_whatever_was_asked_ahead(self):
        asked = [entry[:3] for entry in BY_HAND + NO_MOST]
        first = [how_often(*entry) for entry in asked]
        then = [how_often(*entry) for entry in asked[::-1]]
        self.assertEqual(first, then[::-1])
