"""Point 8: the rings of a set of ways."""

import copy
import itertools
import unittest

from fallsum.rings import rings_of
from tests.looks import rings_by_walks
from tests.samples import PAIR, VALLEY, WIDE, made_books

NONE = (0,)

# Rooms 0 and 1 in a ring, 2 on the way to 3 and 4 in another one, 5 with a way round itself, 6 behind it all.
TOWN = (7, 1, (
    (3, 4, NONE),
    (0, 1, NONE),
    (1, 2, NONE),
    (2, 3, NONE),
    (1, 0, NONE),
    (4, 3, NONE),
    (4, 5, NONE),
    (5, 5, NONE),
    (5, 6, NONE),
    (0, 1, NONE),
))


class RingsOf(unittest.TestCase):

    def test_none(self):
        for book in (PAIR, VALLEY, WIDE, TOWN, (1, 1, ())):
            self.assertEqual(rings_of(book, []), [])

    def test_ways_in_a_row_are_of_no_ring(self):
        self.assertEqual(rings_of(TOWN, [2, 3, 6, 8]), [])
        self.assertEqual(rings_of(VALLEY, [0, 1, 2]), [])
        self.assertEqual(rings_of(PAIR, [0]), [])

    def test_one_way_round_a_room(self):
        self.assertEqual(rings_of(PAIR, [2]), [[2]])
        self.assertEqual(rings_of(VALLEY, [4]), [[4]])
        self.assertEqual(rings_of(TOWN, [6, 7, 8]), [[7]])

    def test_two_ways_alike(self):
        self.assertEqual(rings_of(PAIR, [3, 4]), [[3, 4]])
        self.assertEqual(rings_of(TOWN, [1, 4, 9]), [[1, 4, 9]])
        self.assertEqual(rings_of(TOWN, [1, 9]), [])
        self.assertEqual(rings_of(TOWN, [4, 9]), [[4, 9]])

    def test_rings_that_share_no_room(self):
        self.assertEqual(rings_of(PAIR, [2, 3]), [[2], [3]])
        self.assertEqual(rings_of(TOWN, [0, 1, 4, 5, 7]), [[0, 5], [1, 4], [7]])

    def test_rings_that_share_a_room_are_one(self):
        self.assertEqual(rings_of(PAIR, [0, 1, 2, 3, 4]), [[0, 1, 2, 3, 4]])
        self.assertEqual(rings_of(VALLEY, [0, 1, 2, 3, 4]), [[0, 1, 2, 3, 4]])

    def test_ways_that_lead_in_and_out_are_of_none(self):
        self.assertEqual(rings_of(TOWN, list(range(10))), [[0, 5], [1, 4, 9], [7]])

    def test_sets_that_leave_out_a_way_of_a_ring(self):
        self.assertEqual(rings_of(VALLEY, [0, 1, 3, 4]), [[4]])
        self.assertEqual(rings_of(PAIR, [0, 2, 3]), [[2], [3]])
        self.assertEqual(rings_of(TOWN, [1, 2, 3, 5, 6, 7, 8, 9]), [[7]])

    def test_the_order(self):
        # The ring of room 1 has the first way, that of room 0 the second one.
        book = (2, 1, ((1, 1, NONE), (0, 0, NONE), (1, 1, NONE), (0, 0, NONE)))
        self.assertEqual(rings_of(book, [0, 1, 2, 3]), [[0, 2], [1, 3]])
        self.assertEqual(rings_of(book, [1, 2, 3]), [[1, 3], [2]])
        self.assertEqual(rings_of(book, [1, 2]), [[1], [2]])

    def test_a_full_book(self):
        self.assertEqual(rings_of(WIDE, list(range(60))), [list(range(60))])
        self.assertEqual(rings_of(WIDE, list(range(12))), [list(range(12))])
        self.assertEqual(rings_of(WIDE, list(range(11))), [])
        self.assertEqual(rings_of(WIDE, [k for k in range(60) if k % 12 != 5]), [])

    def test_all_sets_of_small_books(self):
        for book in [TOWN] + made_books(30, 41):
            every = range(len(book[2]))
            for many in range(len(book[2]) + 1):
                for some in itertools.combinations(every, many):
                    self.assertEqual(rings_of(book, list(some)), rings_by_walks(book, list(some)))


class NothingIsChangedOrKept(unittest.TestCase):

    def test_what_is_handed_in(self):
        for some in ([], [1, 4], list(range(10))):
            book, ways = copy.deepcopy(TOWN), list(some)
            rings_of(book, ways)
            self.assertEqual((book, ways), (TOWN, some))

    def test_the_told_lists_are_the_askers_own(self):
        for some in ([], [7], list(range(10)), [1, 4, 9]):
            ways = list(some)
            first = rings_of(TOWN, ways)
            due = copy.deepcopy(first)
            for ring in first:
                self.assertIs(type(ring), list)
                ring.append(99)
                ring[0] = -1
            first.append([5])
            self.assertEqual(ways, some)
            self.assertEqual(rings_of(TOWN, ways), due)
