"""Point 10: sums, their worth, a way's fall, which ways keep them and which fall."""

import copy
import random
import unittest

from fallsum.books import behind, can_do
from fallsum.sums import fall, falling, is_kept, is_sum, together, worth
from tests.looks import fall_by
from tests.samples import GREAT, PAIR, VALLEY, WIDE, any_things, made_books, within

# PAIR: 0 is (0, 1, (-3, 1)), 1 is (1, 0, (2, 0)), 2 is (0, 0, (-1, -1)), 3 and 4 are (1, 1, (5, -2)).
ONE = ((1, 0), (0, 2))
# By ONE: 0 falls by 0 - 2 + 3, 1 by 2 - 0 - 2, 2 by 1, 3 and 4 by -5.
ONE_FALLS = [1, 0, 1, -5, -5]
OTHER = ((2, 5), (7, -4))
# By OTHER: 0 falls by 7 + 4 + 6 - 5, 1 by -4 - 7 - 4, 2 by 7, 3 and 4 by -10 + 10.
OTHER_FALLS = [12, -15, 7, 0, 0]


def made_sum(source, book):
    weights = tuple(source.choice((0, 1, source.randint(0, 9), GREAT)) for _ in range(book[1]))
    heights = tuple(source.choice((0, 1, source.randint(-9, 9), GREAT, -GREAT)) for _ in range(book[0]))
    return (weights, heights)


class IsSum(unittest.TestCase):

    def is_one(self, book, *things):
        for thing in things:
            with self.subTest(thing):
                self.assertIs(is_sum(book, thing), True)

    def is_none(self, book, *things):
        for thing in things:
            with self.subTest(thing):
                self.assertIs(is_sum(book, thing), False)

    def test_ordinary_ones(self):
        self.is_one(PAIR, ONE, OTHER, ((0, 0), (0, 0)), ((0, 9), (-9, -9)))
        self.is_one(VALLEY, ((1,), (0, 0, 0, 0)), ((0,), (-1, 2, -3, 4)))
        self.is_one(WIDE, ((0,) * 6, (0,) * 12))

    def test_numbers_of_a_hundred_figures(self):
        self.is_one(PAIR, ((GREAT, GREAT), (GREAT, -GREAT)))
        self.is_none(PAIR, ((-GREAT, 0), (0, 0)), ((0, -GREAT), (0, 0)))

    def test_weights_below_0(self):
        self.is_none(PAIR, ((-1, 0), (0, 0)), ((0, -1), (0, 0)), ((5, -1), (5, 5)))

    def test_no_truth_for_a_number(self):
        for truth in (True, False):
            self.is_none(PAIR, ((truth, 0), (0, 0)), ((0, truth), (0, 0)), ((0, 0), (truth, 0)), ((0, 0), (0, truth)))

    def test_one_more_or_fewer(self):
        self.is_none(PAIR, ((0,), (0, 0)), ((0, 0, 0), (0, 0)), ((0, 0), (0,)), ((0, 0), (0, 0, 0)), ((), ()))
        self.is_none(PAIR, ((0, 0),), ((0, 0), (0, 0), (0, 0)), ())
        # As many rooms as purses elsewhere.
        self.is_none(VALLEY, ((0, 0, 0, 0), (0,)))
        self.is_none(WIDE, ((0,) * 12, (0,) * 6))

    def test_no_list_for_a_tuple(self):
        self.is_none(PAIR, [(0, 0), (0, 0)], ([0, 0], (0, 0)), ((0, 0), [0, 0]))

    def test_no_other_kinds(self):
        for other in (None, "0", (), (0,), [0]):
            self.is_none(PAIR, ((other, 0), (0, 0)), ((0, other), (0, 0)), ((0, 0), (other, 0)), ((0, 0), (0, other)))
            self.is_none(PAIR, (other, (0, 0)), ((0, 0), other), other)
        self.is_none(PAIR, ("ab", (0, 0)), ((0, 0), "ab"))

    def test_of_any_thing(self):
        for book in (PAIR, VALLEY, WIDE):
            self.is_none(book, *any_things())
        for inner in (None, 0, ()):
            for kind in (tuple, list):
                deep = within(inner, 148, kind)
                self.is_none(PAIR, (deep, deep), ((0, 0), deep), (deep, (0, 0)))
                self.is_none(PAIR, ((deep, 0), (0, 0)), ((0, 0), (deep, 0)))


class WorthAndFall(unittest.TestCase):

    def test_worth(self):
        self.assertEqual(worth(ONE, (0, (5, 9))), 5)
        self.assertEqual(worth(ONE, (1, (5, 9))), 7)
        self.assertEqual(worth(OTHER, (0, (5, 9))), 62)
        self.assertEqual(worth(OTHER, (1, (5, 9))), 51)
        self.assertEqual(worth(OTHER, (1, (0, 0))), -4)
        self.assertEqual(worth(((GREAT, 1), (0, -GREAT)), (1, (GREAT, 3))), GREAT * GREAT + 3 - GREAT)

    def test_fall(self):
        self.assertEqual([fall(PAIR, ONE, k) for k in range(5)], ONE_FALLS)
        self.assertEqual([fall(PAIR, OTHER, k) for k in range(5)], OTHER_FALLS)

    def test_the_fall_is_what_the_worth_falls_by(self):
        source = random.Random(61)
        for book in made_books(80, 62):
            told = made_sum(source, book)
            for room in range(book[0]):
                stand = (room, tuple(source.choice((3, 9, GREAT)) for _ in range(book[1])))
                for k in can_do(book, stand):
                    self.assertEqual(worth(told, stand) - worth(told, behind(book, stand, k)), fall(book, told, k))

    def test_made_sums(self):
        source = random.Random(63)
        for book in made_books(80, 64) + [WIDE]:
            told = made_sum(source, book)
            for k in range(len(book[2])):
                self.assertEqual(fall(book, told, k), fall_by(book, told, k))

    def test_just_numbers(self):
        self.assertIs(type(worth(ONE, (0, (5, 9)))), int)
        self.assertIs(type(fall(PAIR, ONE, 0)), int)


class KeptAndFalling(unittest.TestCase):

    def test_is_kept(self):
        for told, some, due in (
            (ONE, [0, 1, 2], True), (ONE, [1], True), (ONE, [0, 1, 2, 3], False), (ONE, [3], False),
            (ONE, [0, 4], False), (ONE, [3, 4], False), (ONE, [], True), (ONE, [0, 1, 2, 3, 4], False),
            (OTHER, [0, 2, 3, 4], True), (OTHER, [3, 4], True), (OTHER, [1], False), (OTHER, [0, 1], False),
        ):
            self.assertIs(is_kept(PAIR, told, some), due)

    def test_falling(self):
        for told, some, due in (
            (ONE, [0, 1, 2], [0, 2]), (ONE, [1], []), (ONE, [0, 1, 2, 3, 4], [0, 2]), (ONE, [], []), (ONE, [2, 3], [2]),
            (OTHER, [0, 1, 2, 3, 4], [0, 2]), (OTHER, [3, 4], []), (OTHER, [2], [2]),
        ):
            self.assertEqual(falling(PAIR, told, some), due)

    def test_made_sums(self):
        source = random.Random(65)
        for book in made_books(80, 66) + [WIDE]:
            every = range(len(book[2]))
            for _ in range(4):
                told = made_sum(source, book)
                some = [k for k in every if source.random() < 0.6]
                self.assertEqual(falling(book, told, some), [k for k in some if fall_by(book, told, k) > 0])
                self.assertIs(is_kept(book, told, some), all(fall_by(book, told, k) >= 0 for k in some))


class Together(unittest.TestCase):

    def test_by_hand(self):
        self.assertEqual(together(ONE, OTHER), ((3, 5), (7, -2)))
        self.assertEqual(together(ONE, ONE), ((2, 0), (0, 4)))

    def test_its_falls_are_both_ones_falls(self):
        source = random.Random(67)
        for book in [PAIR, VALLEY, WIDE] + made_books(60, 68):
            one, other = made_sum(source, book), made_sum(source, book)
            both = together(one, other)
            self.assertIs(is_sum(book, both), True)
            for k in range(len(book[2])):
                self.assertEqual(fall(book, both, k), fall_by(book, one, k) + fall_by(book, other, k))

    def test_kept_by_ways_by_which_both_are(self):
        self.assertIs(is_kept(PAIR, together(ONE, OTHER), [0, 2]), True)
        self.assertEqual(falling(PAIR, together(ONE, OTHER), [0, 2]), [0, 2])


class NothingIsChangedOrKept(unittest.TestCase):

    def test_what_is_handed_in(self):
        book, one, other, some, stand = copy.deepcopy((PAIR, ONE, OTHER, [0, 1, 2], (0, (5, 9))))
        is_sum(book, one)
        worth(one, stand)
        fall(book, one, 0)
        is_kept(book, one, some)
        falling(book, one, some)
        together(one, other)
        self.assertEqual((book, one, other, some, stand), (PAIR, ONE, OTHER, [0, 1, 2], (0, (5, 9))))

    def test_any_things(self):
        for thing in any_things():
            before = copy.deepcopy(thing)
            is_sum(PAIR, thing)
            self.assertEqual(thing, before)

    def test_the_told_list_is_the_askers_own(self):
        for some, due in (([0, 1, 2], [0, 2]), ([0, 2], [0, 2]), ([1], [])):
            told = falling(PAIR, ONE, some)
            self.assertIs(type(told), list)
            told.append(9)
            told[0] = 7
            self.assertEqual(falling(PAIR, ONE, some), due)
            self.assertNotIn(9, some)
