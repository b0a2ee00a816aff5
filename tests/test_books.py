"""Points 4 and 5: books, stands, the ways that can be done and the stand behind one."""

import copy
import itertools
import unittest

from fallsum.books import behind, can_do, is_book, is_stand
from fallsum.errors import NoWay
from tests.samples import GREAT, PAIR, VALLEY, WIDE, any_things, made_books

ONE_WAY = ((0, 0, (0,)),)


def book_with(way):
    """A book of two rooms and two purses whose one way is this."""
    return (2, 2, (way,))


class IsBook(unittest.TestCase):

    def is_one(self, *things):
        for thing in things:
            with self.subTest(thing):
                self.assertIs(is_book(thing), True)

    def is_none(self, *things):
        for thing in things:
            with self.subTest(thing):
                self.assertIs(is_book(thing), False)

    def test_ordinary_books(self):
        self.is_one(PAIR, VALLEY, WIDE, *made_books(50, 4))

    def test_rooms_at_and_beyond_their_bounds(self):
        self.is_one((1, 1, ()), (12, 1, ()))
        self.is_none((0, 1, ()), (13, 1, ()), (-1, 1, ()), (GREAT, 1, ()), (-GREAT, 1, ()))

    def test_purses_at_and_beyond_their_bounds(self):
        self.is_one((1, 1, ONE_WAY), (1, 6, ((0, 0, (0,) * 6),)))
        self.is_none((1, 0, ()), (1, 0, ((0, 0, ()),)), (1, 7, ()), (1, 7, ((0, 0, (0,) * 7),)))
        self.is_none((1, -1, ()), (1, GREAT, ()))

    def test_ways_at_and_beyond_their_bounds(self):
        self.is_one((3, 2, ()), (1, 1, ONE_WAY * 60))
        self.is_none((1, 1, ONE_WAY * 61), WIDE[:2] + (WIDE[2] + WIDE[2][:1],))

    def test_gains_at_and_beyond_their_bounds(self):
        self.is_one(book_with((0, 1, (-99, 99))), book_with((0, 1, (99, -99))))
        for far in (100, -100, GREAT, -GREAT):
            self.is_none(book_with((0, 1, (far, 0))), book_with((0, 1, (0, far))))

    def test_ways_may_be_alike(self):
        self.is_one((1, 1, ONE_WAY * 2), PAIR)

    def test_rooms_of_ways(self):
        for a, b in itertools.product((0, 1), repeat=2):
            self.is_one(book_with((a, b, (0, 0))))
        for far in (-1, 2, 12, GREAT, -GREAT):
            self.is_none(book_with((far, 0, (0, 0))), book_with((0, far, (0, 0))))

    def test_one_gain_for_each_purse(self):
        self.is_none(book_with((0, 1, ())), book_with((0, 1, (1,))), book_with((0, 1, (1, 1, 1))))

    def test_one_bad_way_among_many(self):
        good, bad = (0, 1, (0, 0)), (0, 2, (0, 0))
        for place in range(5):
            ways = [good] * 5
            ways[place] = bad
            self.is_none((2, 2, tuple(ways)))

    def test_no_truth_for_a_whole_number(self):
        self.is_none((True, 1, ()), (1, True, ()), (True, True, ONE_WAY))
        for truth in (True, False):
            self.is_none(book_with((truth, 0, (0, 0))), book_with((0, truth, (0, 0))))
            self.is_none(book_with((0, 0, (truth, 0))), book_with((0, 0, (0, truth))))

    def test_no_list_for_a_tuple(self):
        self.is_none([1, 1, ONE_WAY], (1, 1, list(ONE_WAY)), (1, 1, []))
        self.is_none(book_with([0, 1, (0, 0)]), book_with((0, 1, [0, 0])))

    def test_no_other_kinds(self):
        for other in (None, "1", (), (1,)):
            self.is_none((other, 1, ()), (1, other, ()))
            self.is_none(book_with((other, 0, (0, 0))), book_with((0, other, (0, 0))))
            self.is_none(book_with((0, 0, (other, 0))), book_with(other))
        self.is_none((1, 1, None), (1, 1, ""), (1, 1, "a"), (1, 1, 0), book_with((0, 0, "ab")))

    def test_no_part_missing_or_too_many(self):
        self.is_none((), (1,), (1, 1), (1, 1, (), ()), (1, 1, ONE_WAY, 0))
        self.is_none(book_with(()), book_with((0, 1)), book_with((0, 1, (0, 0), 0)))

    def test_of_any_thing(self):
        books = [thing for thing in any_things() if is_book(thing)]
        self.assertEqual(books, [(1, 1, ())])
        for thing in any_things():
            self.assertIsInstance(is_book(thing), bool)


class IsStand(unittest.TestCase):

    def is_one(self, book, *things):
        for thing in things:
            with self.subTest(thing):
                self.assertIs(is_stand(book, thing), True)

    def is_none(self, book, *things):
        for thing in things:
            with self.subTest(thing):
                self.assertIs(is_stand(book, thing), False)

    def test_rooms(self):
        for rooms in (1, 2, 12):
            book = (rooms, 1, ())
            self.is_one(book, (0, (5,)), (rooms - 1, (5,)))
            self.is_none(book, (-1, (5,)), (rooms, (5,)), (GREAT, (5,)), (-GREAT, (5,)))

    def test_numbers(self):
        self.is_one(PAIR, (1, (0, 0)), (0, (GREAT, GREAT)), (0, (0, 100)), (1, (7, 0)))
        for bad in (-1, -GREAT, True, False, None, "1", (), (1,)):
            self.is_none(PAIR, (0, (bad, 0)), (0, (0, bad)))

    def test_one_number_for_each_purse(self):
        for purses in (1, 2, 6):
            book = (1, purses, ())
            self.is_one(book, (0, (0,) * purses))
            self.is_none(book, (0, (0,) * (purses - 1)), (0, (0,) * (purses + 1)))

    def test_no_truth_for_a_room(self):
        self.is_none(PAIR, (True, (0, 0)), (False, (0, 0)))

    def test_no_list_for_a_tuple(self):
        self.is_none(PAIR, [0, (0, 0)], (0, [0, 0]), [0, [0, 0]])

    def test_no_part_missing_or_too_many(self):
        self.is_none(PAIR, (), (0,), ((0, 0),), (0, (0, 0), 0), (0, 0, 0))

    def test_of_any_thing(self):
        for book in (PAIR, VALLEY, WIDE, (1, 1, ())):
            for thing in any_things():
                self.is_none(book, thing)


class CanDo(unittest.TestCase):

    def test_just_the_ways_that_can_be_done(self):
        self.assertEqual(can_do(PAIR, (0, (9, 9))), [0, 2])
        self.assertEqual(can_do(PAIR, (1, (9, 9))), [1, 3, 4])

    def test_a_way_that_takes_just_what_there_is(self):
        self.assertEqual(can_do(PAIR, (0, (3, 0))), [0])
        self.assertEqual(can_do(PAIR, (0, (1, 1))), [2])
        self.assertEqual(can_do(PAIR, (1, (0, 2))), [1, 3, 4])

    def test_a_way_that_takes_one_more(self):
        self.assertEqual(can_do(PAIR, (0, (2, 0))), [])
        self.assertEqual(can_do(PAIR, (0, (1, 0))), [])
        self.assertEqual(can_do(PAIR, (1, (0, 1))), [1])

    def test_none(self):
        self.assertEqual(can_do(PAIR, (0, (0, 0))), [])
        self.assertEqual(can_do((1, 1, ()), (0, (GREAT,))), [])
        self.assertEqual(can_do((2, 1, ((0, 0, (1,)),)), (1, (GREAT,))), [])

    def test_great_numbers(self):
        self.assertEqual(can_do(PAIR, (0, (GREAT, GREAT))), [0, 2])
        self.assertEqual(can_do(PAIR, (0, (GREAT, 0))), [0])

    def test_a_full_book(self):
        self.assertEqual(can_do(WIDE, (3, (0, 99, 0, 0, 0, 1))), [39, 51])
        self.assertEqual(can_do(WIDE, (3, (0, 99, 0, 27, 0, 1))), [3, 15, 27, 39, 51])
        self.assertEqual(can_do(WIDE, (3, (0, 98, 0, 27, 0, 1))), [])

    def test_a_list_of_whole_numbers(self):
        for stand in ((0, (9, 9)), (0, (0, 0))):
            told = can_do(PAIR, stand)
            self.assertIs(type(told), list)
            self.assertTrue(all(type(k) is int for k in told))

    def test_the_told_list_is_the_askers_own(self):
        for stand, ways in (((0, (9, 9)), [0, 2]), ((0, (0, 0)), [])):
            told = can_do(PAIR, stand)
            told.append(7)
            told[0] = 5
            self.assertEqual(can_do(PAIR, stand), ways)


class Behind(unittest.TestCase):

    def refused(self, book, stand, k):
        with self.assertRaises(NoWay) as caught:
            behind(book, stand, k)
        self.assertIs(type(caught.exception), NoWay)

    def test_the_stand_behind(self):
        self.assertEqual(behind(PAIR, (0, (9, 9)), 0), (1, (6, 10)))
        self.assertEqual(behind(PAIR, (1, (9, 9)), 1), (0, (11, 9)))
        self.assertEqual(behind(PAIR, (0, (9, 9)), 2), (0, (8, 8)))
        self.assertEqual(behind(PAIR, (1, (0, 2)), 4), (1, (5, 0)))
        self.assertEqual(behind(PAIR, (0, (3, GREAT)), 0), (1, (0, GREAT + 1)))

    def test_it_is_a_stand(self):
        told = behind(PAIR, (0, (3, 0)), 0)
        self.assertIs(type(told), tuple)
        self.assertIs(type(told[1]), tuple)
        self.assertIs(is_stand(PAIR, told), True)

    def test_from_another_room(self):
        self.refused(PAIR, (1, (9, 9)), 0)
        self.refused(PAIR, (0, (9, 9)), 1)
        self.refused(VALLEY, (3, (9,)), 2)

    def test_a_purse_below_nought(self):
        self.refused(PAIR, (0, (2, 9)), 0)
        self.refused(PAIR, (0, (9, 0)), 2)
        self.refused(PAIR, (0, (0, 9)), 2)
        self.refused(PAIR, (1, (GREAT, 1)), 3)

    def test_no_way_of_the_book(self):
        for k in (5, 6, 60, GREAT, -1, -2, -3, -5, -6, -GREAT):
            for room in (0, 1):
                self.refused(PAIR, (room, (9, 9)), k)
        for k in (0, -1, 1):
            self.refused((1, 1, ()), (0, (9,)), k)

    def test_just_the_ways_that_are_told(self):
        for book in made_books(40, 5):
            for room in range(book[0]):
                for numbers in itertools.product((0, 1, 2, 3), repeat=book[1]):
                    self.looked_over(book, (room, numbers))

    def looked_over(self, book, stand):
        told = can_do(book, stand)
        due = []
        for k, (a, b, gains) in enumerate(book[2]):
            numbers = tuple(stand[1][p] + gains[p] for p in range(book[1]))
            if a == stand[0] and min(numbers) >= 0:
                due.append(k)
                self.assertEqual(behind(book, stand, k), (b, numbers))
            else:
                self.refused(book, stand, k)
        self.assertEqual(told, due)


class NothingIsChanged(unittest.TestCase):

    def test_what_is_handed_in(self):
        for thing in any_things():
            before = copy.deepcopy(thing)
            is_book(thing)
            is_stand(PAIR, thing)
            self.assertEqual(thing, before)

    def test_books_and_stands(self):
        book, stand = copy.deepcopy(PAIR), (0, (3, 4))
        is_book(book)
        is_stand(book, stand)
        can_do(book, stand)
        behind(book, stand, 0)
        self.assertEqual((book, stand), (PAIR, (0, (3, 4))))

    def test_nothing_hangs_on_what_was_asked_ahead(self):
        asked = [can_do(PAIR, (0, (9, 9))), behind(PAIR, (0, (9, 9)), 0)]
        can_do(VALLEY, (0, (9,)))
        behind(VALLEY, (0, (9,)), 0)
        with self.assertRaises(NoWay):
            behind(PAIR, (0, (0, 0)), 0)
        self.assertEqual([can_do(PAIR, (0, (9, 9))), behind(PAIR, (0, (9, 9)), 0)], asked)
