"""Point 9: rounds, their gain and parts, the round of a closed walk and a told walk of a round."""

import copy
import itertools
import random
import unittest

from fallsum.errors import NoRound
from fallsum.rings import rings_of
from fallsum.rounds import is_round, parts_of, round_gain, round_of, walk_of
from fallsum.toldwalks import is_told, told_ends
from tests.samples import (
    GREAT, PAIR, VALLEY, WIDE, made_books, made_rounds, made_turn, spread, times_each_way, wide_books,
)

# Three rooms, each with a way round itself, 0 and 1 with ways there and back, 2 with none of these.
HOUSE = (3, 2, (
    (0, 0, (1, -1)),
    (0, 1, (2, 0)),
    (1, 0, (-5, 1)),
    (1, 1, (0, 7)),
    (2, 2, (3, 3)),
))


class IsRound(unittest.TestCase):

    def is_one(self, book, *things):
        for counts in things:
            with self.subTest(counts):
                self.assertIs(is_round(book, counts), True)

    def is_none(self, book, *things):
        for counts in things:
            with self.subTest(counts):
                self.assertIs(is_round(book, counts), False)

    def test_ordinary_ones(self):
        self.is_one(PAIR, (1, 1, 0, 0, 0), (3, 3, 7, 0, 1), (0, 0, 1, 0, 0), (0, 0, 0, 2, 5))
        self.is_one(VALLEY, (1, 1, 1, 1, 0), (4, 4, 4, 4, 9), (0, 0, 0, 0, 1))
        self.is_one(HOUSE, (0, 0, 0, 0, 1), (1, 0, 0, 1, 1), (0, 6, 6, 0, 1))

    def test_not_as_many_into_a_room_as_out_of_it(self):
        self.is_none(PAIR, (1, 0, 0, 0, 0), (0, 1, 0, 0, 0), (2, 1, 0, 0, 0), (1, 2, 3, 4, 5))
        self.is_none(PAIR, (GREAT, GREAT - 1, 0, 0, 0))
        self.is_none(VALLEY, (1, 1, 1, 0, 0), (2, 1, 1, 1, 0), (1, 1, 1, 2, 3), (0, 0, 1, 0, 1))

    def test_all_0(self):
        self.is_none(PAIR, (0,) * 5)
        self.is_none(VALLEY, (0,) * 5)
        self.is_none((1, 1, ()), ())

    def test_below_0(self):
        self.is_none(PAIR, (-1, -1, 0, 0, 0), (0, 0, -1, 0, 0), (1, 1, -1, 0, 0), (-1, -1, 5, 0, 0))
        self.is_none(PAIR, (2, 2, 0, -GREAT, 0))
        # Balanced, as ways alike make up for each other.
        self.is_none(PAIR, (0, 0, 0, 2, -1), (0, 0, 0, -1, 1))

    def test_a_hundred_figures(self):
        self.is_one(PAIR, (GREAT, GREAT, GREAT, 0, 1), (GREAT, GREAT, 0, 0, 0), (0, 0, 0, 0, GREAT))
        self.is_one(WIDE, (GREAT,) * 60)
        self.is_none(WIDE, (GREAT,) * 59 + (GREAT - 1,))

    def test_all_small_tuples(self):
        for book in (HOUSE, VALLEY):
            for counts in itertools.product((-1, 0, 1, 2), repeat=5):
                flow = [0] * book[0]
                for (a, b, _), count in zip(book[2], counts):
                    flow[a] -= count
                    flow[b] += count
                due = min(counts) >= 0 and max(counts) > 0 and flow == [0] * book[0]
                self.assertIs(is_round(book, counts), due)

    def test_not_one_for_each_way(self):
        self.is_none(PAIR, (), (1, 1), (1, 1, 0, 0), (1, 1, 0, 0, 0, 0))


class GainAndParts(unittest.TestCase):

    def test_gain(self):
        self.assertEqual(round_gain(PAIR, (1, 1, 0, 0, 0)), (-1, 1))
        self.assertEqual(round_gain(PAIR, (3, 3, 7, 0, 2)), (0, -8))
        self.assertEqual(round_gain(HOUSE, (1, 2, 2, 3, 4)), (7, 34))
        self.assertEqual(round_gain(VALLEY, (5, 5, 5, 5, 7)), (12,))
        self.assertEqual(round_gain(PAIR, (GREAT, GREAT, GREAT, 0, 0)), (-2 * GREAT, 0))
        self.assertEqual(round_gain(WIDE, (1,) * 60), (5940, -5940, 0, -30, 60, -60))

    def test_the_gain_is_a_tuple_of_numbers(self):
        told = round_gain(PAIR, (1, 1, 0, 0, 0))
        self.assertIs(type(told), tuple)
        self.assertTrue(all(type(number) is int for number in told))

    def test_parts(self):
        self.assertEqual(parts_of(PAIR, (1, 1, 0, 0, 0)), [[0, 1]])
        self.assertEqual(parts_of(PAIR, (GREAT, GREAT, 1, 2, 3)), [[0, 1, 2, 3, 4]])
        self.assertEqual(parts_of(PAIR, (0, 0, 5, 0, GREAT)), [[2], [4]])
        self.assertEqual(parts_of(PAIR, (0, 0, 0, 1, 1)), [[3, 4]])
        self.assertEqual(parts_of(HOUSE, (1, 0, 0, 1, 1)), [[0], [3], [4]])
        self.assertEqual(parts_of(HOUSE, (1, 1, 1, 0, 2)), [[0, 1, 2], [4]])

    def test_the_parts_are_in_order_of_their_first_numbers(self):
        book = (2, 1, ((1, 1, (0,)), (0, 0, (0,)), (1, 1, (0,)), (0, 0, (0,))))
        self.assertEqual(parts_of(book, (1, 1, 1, 1)), [[0, 2], [1, 3]])
        self.assertEqual(parts_of(book, (0, 1, 1, 0)), [[1], [2]])

    def test_made_rounds(self):
        source = random.Random(42)
        for book in made_books(60, 43):
            for counts in made_rounds(source, book, 4):
                self.assertIs(is_round(book, counts), True)
                due = [0] * book[1]
                for count, (_, _, gains) in zip(counts, book[2]):
                    due = [x + count * y for x, y in zip(due, gains)]
                self.assertEqual(round_gain(book, counts), tuple(due))
                some = [k for k, count in enumerate(counts) if count > 0]
                parts = parts_of(book, counts)
                self.assertEqual(sorted(k for part in parts for k in part), some)
                self.assertEqual(parts, rings_of(book, some))


class RoundOf(unittest.TestCase):

    def test_by_hand(self):
        self.assertEqual(round_of(PAIR, [0, 1]), (1, 1, 0, 0, 0))
        self.assertEqual(round_of(PAIR, [1, 2, 2, 0, 4]), (1, 1, 2, 0, 1))
        self.assertEqual(round_of(PAIR, [2]), (0, 0, 1, 0, 0))
        self.assertEqual(round_of(VALLEY, [4, 3, 0, 1, 2, 4]), (1, 1, 1, 1, 2))
        self.assertEqual(round_of(PAIR, [0, 1] * 2500), (2500, 2500, 0, 0, 0))

    def test_it_is_a_round_with_the_walks_gain(self):
        source = random.Random(44)
        for book in made_books(100, 45):
            walk = made_turn(source, book)
            if walk:
                counts = round_of(book, walk)
                self.assertIs(type(counts), tuple)
                self.assertEqual(counts, tuple(walk.count(k) for k in range(len(book[2]))))
                self.assertIs(is_round(book, counts), True)


class WalkOf(unittest.TestCase):

    def looked_over(self, book, counts, room):
        told = walk_of(book, counts, room)
        self.assertIs(is_told(book, told), True)
        self.assertEqual(told_ends(book, told), (room, room))
        self.assertEqual(tuple(times_each_way(book, told)), counts)

    def refused(self, book, counts, room):
        with self.assertRaises(NoRound) as caught:
            walk_of(book, counts, room)
        self.assertIs(type(caught.exception), NoRound)

    def looked_over_from_all_rooms(self, book, counts):
        """From each room that a way of the round leads from; from each other one it is refused."""
        rooms = {way[0] for way, count in zip(book[2], counts) if count > 0}
        for room in range(-1, book[0] + 1):
            if room in rooms and len(parts_of(book, counts)) == 1:
                self.looked_over(book, counts, room)
            else:
                self.refused(book, counts, room)

    def test_by_hand(self):
        for counts in ((1, 1, 0, 0, 0), (0, 0, 1, 0, 0), (1, 1, 1, 1, 1), (1, 1, 0, 0, 9)):
            self.looked_over_from_all_rooms(PAIR, counts)
        for counts in ((5, 5, 0, 0, 9), (7, 7, 1, 2, 3)):
            self.looked_over_from_all_rooms(PAIR, counts)
        for counts in ((1, 1, 1, 1, 0), (2, 2, 2, 2, 1), (1, 1, 1, 1, 50), (0, 0, 0, 0, 3)):
            self.looked_over_from_all_rooms(VALLEY, counts)

    def test_the_walk_itself(self):
        walk = spread(walk_of(PAIR, (2, 2, 1, 3, 0), 1))
        self.assertEqual(sorted(walk), [0, 0, 1, 1, 2, 3, 3, 3])
        self.assertEqual(spread(walk_of(PAIR, (1, 1, 0, 0, 0), 1)), [1, 0])
        self.assertEqual(spread(walk_of(PAIR, (1, 1, 0, 0, 0), 0)), [0, 1])

    def test_a_round_of_more_parts(self):
        for room in (0, 1, 2):
            self.refused(HOUSE, (1, 0, 0, 1, 0), room)
            self.refused(HOUSE, (1, 1, 1, 1, 1), room)
            self.refused(HOUSE, (GREAT, 0, 0, 0, GREAT), room)

    def test_a_room_of_none(self):
        for room in (1, 2, 3, -1, -2, -3, GREAT, -GREAT):
            self.refused(HOUSE, (1, 0, 0, 0, 0), room)
        for room in (0, 1, 3, -1):
            self.refused(HOUSE, (0, 0, 0, 0, 2), room)
        # A truth is no whole number, so it is no room either.
        self.refused(HOUSE, (1, 0, 0, 0, 0), False)
        self.refused(HOUSE, (0, 0, 0, 1, 0), True)

    def test_great_counts_that_differ(self):
        n, m = GREAT, 10 ** 99 + 1
        for counts in ((n, n, m, 3, 0), (1, 1, n, n, n), (n, n, 1, 1, 1), (m, m, n, 0, 2), (0, 0, n, 0, 0)):
            self.looked_over_from_all_rooms(PAIR, counts)
        self.looked_over_from_all_rooms(VALLEY, (n, n, n, n, m))

    def test_made_rounds(self):
        source = random.Random(46)
        for book in made_books(150, 47):
            for counts in made_rounds(source, book, 4):
                self.looked_over_from_all_rooms(book, counts)

    def test_made_rounds_at_the_bounds(self):
        source = random.Random(48)
        for book in wide_books(8, 49):
            for counts in made_rounds(source, book, 6):
                self.looked_over_from_all_rooms(book, counts)

    def test_rings_hanging_one_on_the_other(self):
        # Each room is reached from the one ahead of it alone: turns within turns.
        ways = [(room, room + 1, (0,)) for room in range(11)] + [(room + 1, room, (0,)) for room in range(11)]
        book = (12, 1, tuple(ways))
        source = random.Random(50)
        for great in (1, 2, 10 ** 50, GREAT):
            some = [source.randint(1, great) for _ in range(11)]
            self.looked_over_from_all_rooms(book, tuple(some + some))

    def test_as_many_turns_as_can_be(self):
        # Five ways from each room to the next one, of which no two are ever used up together.
        ways = tuple((k % 12, (k + 1) % 12, (0,)) for k in range(60))
        source = random.Random(51)
        counts = [0] * 60
        for room in range(12):
            cuts = sorted(source.randint(1, GREAT - 1) for _ in range(4))
            for at, (low, high) in enumerate(zip([0] + cuts, cuts + [GREAT])):
                counts[room + 12 * at] = high - low
        self.looked_over_from_all_rooms((12, 1, ways), tuple(counts))


class NothingIsChangedOrKept(unittest.TestCase):

    def test_what_is_handed_in(self):
        book, counts, walk = copy.deepcopy(HOUSE), (1, 2, 2, 3, 0), [0, 1, 2]
        is_round(book, counts)
        round_gain(book, counts)
        parts_of(book, counts)
        round_of(book, walk)
        walk_of(book, counts, 0)
        with self.assertRaises(NoRound):
            walk_of(book, counts, 2)
        self.assertEqual((book, counts, walk), (HOUSE, (1, 2, 2, 3, 0), [0, 1, 2]))

    def test_the_told_lists_are_the_askers_own(self):
        counts = (1, 1, 1, 0, 2)
        first = parts_of(HOUSE, counts)
        for part in first:
            self.assertIs(type(part), list)
            part.append(99)
            part[0] = -1
        first.append([7])
        self.assertEqual(parts_of(HOUSE, counts), [[0, 1, 2], [4]])

    def test_a_list_that_the_asker_changes(self):
        walk = [0, 1]
        told = round_of(PAIR, walk)
        walk.append(2)
        self.assertEqual(told, (1, 1, 0, 0, 0))
        self.assertEqual(round_of(PAIR, walk), (1, 1, 1, 0, 0))
