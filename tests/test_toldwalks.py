"""Point 7: told walks, added up without going along, and opened."""

import copy
import random
import unittest

from fallsum.errors import NoWay, TooMany
from fallsum.toldwalks import is_told, opened, told_done, told_ends, told_gain, told_length, told_need
from fallsum.walks import done, ends_of, gain, is_walk, need
from tests.samples import (
    GREAT, PAIR, VALLEY, WIDE, any_things, made_books, made_told, row_of, spread, wide_books, within,
)

# In PAIR 0 leads from room 0 to 1, 1 back, 2 stays in room 0, 3 and 4 in room 1.
TURN = row_of(0, 1)

# Book, told walk, length, ends, gain and need, all worked out by hand.
BY_HAND = (
    (PAIR, ("way", 0), 1, (0, 1), (-3, 1), (3, 0)),
    (PAIR, ("row", (("way", 2),)), 1, (0, 0), (-1, -1), (1, 1)),
    (PAIR, ("times", 1, ("way", 0)), 1, (0, 1), (-3, 1), (3, 0)),
    # Each turn lowers both purses: the last one comes lowest.
    (PAIR, ("times", 5, ("way", 2)), 5, (0, 0), (-5, -5), (5, 5)),
    # Each turn lowers the first purse by one, by two more on its way.
    (PAIR, ("times", 5, TURN), 10, (0, 0), (-5, 5), (7, 0)),
    # Each turn raises the purse: the first one comes lowest.
    (VALLEY, ("times", 5, row_of(0, 1, 2, 3)), 20, (0, 0), (5,), (6,)),
    (VALLEY, ("times", 5, row_of(1, 2, 3, 0)), 20, (1, 1), (5,), (10,)),
    (VALLEY, ("times", 5, row_of(3, 0, 1, 2)), 20, (3, 3), (5,), (0,)),
    (VALLEY, ("times", 9, ("way", 4)), 9, (3, 3), (9,), (0,)),
    # It comes lowest in the middle, on the first way and behind three ones.
    (VALLEY, ("row", (("way", 2), ("times", 3, ("way", 4)), ("way", 3), ("way", 0), ("way", 1))),
     7, (2, 2), (4,), (1,)),
    (VALLEY, ("row", (("way", 0), ("way", 1), ("way", 2), ("times", 4, ("way", 4)), ("way", 3))),
     8, (0, 0), (5,), (6,)),
    # Each turn lowers the first purse and leaves the second as it was.
    (PAIR, ("times", 4, row_of(0, 1, 2)), 12, (0, 0), (-8, 0), (9, 0)),
    # Counts within counts.
    (PAIR, ("times", 3, ("row", (("times", 2, TURN), ("way", 2)))), 15, (0, 0), (-9, 3), (10, 0)),
    (PAIR, ("row", (("way", 0), ("times", 2, ("times", 3, ("way", 3))), ("way", 1))), 8, (0, 0), (29, -11), (3, 11)),
)


def counted(many, part):
    return ("times", many, part)


def in_rows(many):
    """A told walk, so many parts within one another, all but the last rows of one."""
    told = ("way", 2)
    for _ in range(many - 1):
        told = ("row", (told,))
    return told


def in_counts(many):
    told = ("way", 2)
    for _ in range(many - 1):
        told = ("times", 2, told)
    return told


def made_pairs(many, seed):
    """So many books with a told walk each."""
    source = random.Random(seed)
    pairs = []
    for book in made_books(many, seed):
        room = source.choice(book[2])[0]
        pairs.append((book, made_told(source, book, room, source.randint(1, 5))))
    return pairs


def told_things():
    """Things that are nearly told walks of PAIR, none of which is one."""
    things = []
    for bad in (-1, -2, -5, 5, 6, 60, GREAT, -GREAT, True, False, None, "0", (), (0,), [0], ("way", 0)):
        things.append(("way", bad))
    things += [("way",), ("way", 0, 0), ("way", 0, ("way", 0)), ["way", 0], "way", ("way0",), ("Way", 0), (b"way", 0)]
    things += [("ways", 0), ("", 0), (None, 0), (0, "way"), (0, 0), ((), 0), ("row", 0), ("times", 0)]
    things += [("row",), ("row", ()), ("row", []), ("row", [("way", 0)]), ("row", ("way", 0)), ["row", (("way", 0),)]]
    things += [("row", None), ("row", "way"), ("row", 0), ("row", (["way", 0],)), ("row", (("way", 0),), ("way", 1))]
    things += [("row", ("way",)), ("row", (0,)), ("row", (None,)), ("row", ((),)), ("row", (("row", ()),))]
    things += [("rows", ()), ("rows", (("way", 0),))]
    for bad in (0, -1, -GREAT, GREAT + 1, True, False, None, "2", (), (2,), [2]):
        things.append(("times", bad, ("way", 2)))
        things.append(("row", (("times", bad, ("way", 2)),)))
    things += [("times", 2), ("times",), ("times", 2, ("way", 2), 0), ["times", 2, ("way", 2)], ("time", 2, TURN)]
    things += [("times", 2, ["way", 2]), ("times", 2, None), ("times", 2, ()), ("times", 2, (("way", 2),))]
    things += [("times", ("way", 2), 2), ("times", TURN), (2, "times", TURN), ("times", 2, "way", 2)]
    return things


class IsTold(unittest.TestCase):

    def is_one(self, book, *things):
        # By its place: one of them would be endless as a text.
        for at, thing in enumerate(things):
            with self.subTest(at):
                self.assertIs(is_told(book, thing), True)

    def is_none(self, book, *things):
        # By its place: one of them would be endless as a text.
        for at, thing in enumerate(things):
            with self.subTest(at):
                self.assertIs(is_told(book, thing), False)

    def test_ordinary_ones(self):
        for book, told, *_ in BY_HAND:
            self.is_one(book, told)
        for book, told in made_pairs(100, 31):
            self.is_one(book, told)

    def test_all_ways(self):
        for book in (PAIR, VALLEY, WIDE):
            self.is_one(book, *[("way", k) for k in range(len(book[2]))])
            self.is_none(book, ("way", len(book[2])), ("way", -1))
        self.is_none((1, 1, ()), ("way", 0), ("way", -1))

    def test_nearly_told_walks(self):
        self.is_none(PAIR, *told_things())

    def test_one_bad_part_within_others(self):
        for bad in told_things():
            self.is_none(PAIR, ("row", (bad,)), ("row", (("way", 2), bad)), ("row", (bad, ("way", 2))))
            self.is_none(PAIR, ("times", 1, bad), ("times", 3, bad))
            self.is_none(PAIR, ("times", 2, ("row", (("way", 2), bad, ("way", 2)))))

    def test_counts(self):
        self.is_one(PAIR, counted(1, ("way", 2)), counted(2, ("way", 2)), counted(GREAT, ("way", 2)))
        self.is_one(PAIR, counted(10 ** 99, TURN), counted(GREAT, counted(GREAT, counted(1, TURN))))
        self.is_none(PAIR, counted(0, TURN), counted(-1, TURN), counted(GREAT + 1, TURN), counted(True, TURN))

    def test_a_count_of_what_is_not_closed(self):
        for part in (("way", 0), row_of(0, 3), row_of(2, 0), ("times", 1, ("way", 1)), ("row", (("way", 1),))):
            self.is_one(PAIR, part, counted(1, part), counted(1, counted(1, part)))
            self.is_none(PAIR, counted(2, part), counted(GREAT, part), counted(1, counted(2, part)))
            self.is_none(PAIR, counted(2, counted(1, part)), ("row", (counted(2, part),)))

    def test_a_count_of_what_is_closed(self):
        for part in (("way", 2), TURN, row_of(1, 0), row_of(1, 2, 0), counted(1, TURN), ("row", (TURN,))):
            self.is_one(PAIR, counted(1, part), counted(2, part), counted(GREAT, part))

    def test_parts_that_lead_on_and_parts_that_do_not(self):
        self.is_one(PAIR, row_of(0, 3, 4, 1, 2), ("row", (TURN, TURN, ("way", 0))))
        self.is_one(PAIR, ("row", (row_of(0, 3), row_of(1, 0))))
        self.is_none(PAIR, row_of(0, 0), row_of(0, 2), row_of(1, 3), row_of(0, 1, 1), row_of(2, 0, 1, 4))
        self.is_none(PAIR, ("row", (TURN, ("way", 1))), ("row", (("way", 0), TURN)))
        self.is_none(PAIR, ("row", (row_of(0, 3), row_of(0, 1))))
        self.is_none(PAIR, ("row", (counted(3, TURN), counted(3, ("way", 3)))), counted(2, row_of(0, 2)))

    def test_which_lists_of_ways_are_rows(self):
        source = random.Random(32)
        for book in made_books(40, 33):
            for _ in range(20):
                some = [source.randrange(len(book[2])) for _ in range(source.randint(1, 4))]
                self.assertIs(is_told(book, row_of(*some)), is_walk(book, some))

    def test_just_two_thousand_parts_and_one_more(self):
        # The row itself and its ways.
        self.is_one(PAIR, row_of(*[2] * 1999))
        self.is_none(PAIR, row_of(*[2] * 2000), row_of(*[2] * 5000))
        # The row, and three parts for each of the rest.
        part = counted(2, ("row", (("way", 2),)))
        told = ("row", (part,) * 666 + (("way", 2),))
        self.is_one(PAIR, told)
        self.is_none(PAIR, ("row", told[1] + (("way", 2),)), counted(1, told), ("row", (told,)))

    def test_one_part_at_many_places_counts_at_each(self):
        told = ("way", 2)
        for _ in range(9):
            told = ("row", (told, told))
        self.is_one(PAIR, told)
        self.is_none(PAIR, ("row", (told, told)))
        for _ in range(9):
            told = ("row", (told, told))
        self.is_none(PAIR, told)
        wide = ("row", (("way", 2),) * 1000)
        for _ in range(15):
            wide = ("row", (wide,) * 1000)
        self.is_none(PAIR, wide)

    def test_just_twenty_within_one_another_and_one_more(self):
        for made in (in_rows, in_counts):
            self.is_one(PAIR, made(1), made(2), made(19), made(20), ("row", (made(19), made(3))))
            self.is_none(PAIR, made(21), made(22), made(70), made(140))
            self.is_none(PAIR, ("row", (made(3), made(20))), counted(1, made(20)))

    def test_of_any_thing(self):
        for book in (PAIR, VALLEY, WIDE, (1, 1, ())):
            self.is_none(book, *any_things())

    def test_things_a_hundred_and_fifty_within_one_another(self):
        for inner in (None, 0, "", (), ("way", 2)):
            for kind in (tuple, list):
                deep = within(inner, 148, kind)
                self.is_none(PAIR, deep, ("way", deep), ("row", deep), ("row", (deep,)), ("times", deep, ("way", 2)))
                self.is_none(PAIR, ("times", 2, deep), (deep, 0), (deep, 2, ("way", 2)), (deep, deep), (deep,))
                self.is_none(PAIR, ("row", (("way", 2), deep)), ("row", (deep, ("way", 2))))


class WithoutGoingAlong(unittest.TestCase):

    def test_by_hand(self):
        for book, told, length, ends, gains, needs in BY_HAND:
            with self.subTest(told):
                self.assertEqual(told_length(told), length)
                self.assertEqual(told_ends(book, told), ends)
                self.assertEqual(told_gain(book, told), gains)
                self.assertEqual(told_need(book, told), needs)

    def test_as_of_the_walk(self):
        for book, told in made_pairs(400, 34):
            walk = spread(told)
            with self.subTest(told):
                self.assertEqual(told_length(told), len(walk))
                self.assertEqual(told_ends(book, told), ends_of(book, walk))
                self.assertEqual(told_gain(book, told), gain(book, walk))
                self.assertEqual(told_need(book, told), need(book, walk))
                self.assertEqual(opened(told, 10000), walk)

    def test_tuples_of_numbers(self):
        for book, told, *_ in BY_HAND:
            for answer in (told_ends(book, told), told_gain(book, told), told_need(book, told)):
                self.assertIs(type(answer), tuple)
                self.assertTrue(all(type(number) is int for number in answer))
            self.assertIs(type(told_length(told)), int)

    def test_great_counts(self):
        told = counted(GREAT, TURN)
        self.assertEqual(told_length(told), 2 * GREAT)
        self.assertEqual(told_ends(PAIR, told), (0, 0))
        self.assertEqual(told_gain(PAIR, told), (-GREAT, GREAT))
        self.assertEqual(told_need(PAIR, told), (GREAT + 2, 0))
        told = counted(GREAT, row_of(0, 1, 2, 3))
        self.assertEqual(told_gain(VALLEY, told), (GREAT,))
        self.assertEqual(told_need(VALLEY, told), (6,))

    def test_great_counts_within_one_another(self):
        n, m = GREAT, 10 ** 99 + 7
        told = counted(m, ("row", (counted(n, TURN), ("way", 2))))
        self.assertEqual(told_length(told), m * (2 * n + 1))
        self.assertEqual(told_gain(PAIR, told), (-m * (n + 1), m * (n - 1)))
        self.assertEqual(told_need(PAIR, told), (n + 2 + (m - 1) * (n + 1), 0))
        self.assertEqual(told_ends(PAIR, told), (0, 0))

    def test_great_counts_nineteen_within_one_another(self):
        told = ("way", 2)
        for _ in range(19):
            told = counted(GREAT, told)
        self.assertIs(is_told(PAIR, told), True)
        self.assertEqual(told_length(told), GREAT ** 19)
        self.assertEqual(told_gain(PAIR, told), (-GREAT ** 19, -GREAT ** 19))
        self.assertEqual(told_need(PAIR, told), (GREAT ** 19, GREAT ** 19))
        self.assertEqual(told_done(PAIR, (0, (GREAT ** 19, GREAT ** 19 + 1)), told), (0, (0, 1)))

    def test_great_counts_by_halves(self):
        source = random.Random(35)
        for book, told in made_pairs(100, 36):
            if told_ends(book, told)[0] == told_ends(book, told)[1]:
                many = source.choice((GREAT, source.randint(1, GREAT), source.randint(1, 10 ** 9)))
                walk = spread(told)
                due = by_halves(gain(book, walk), need(book, walk), many)
                whole = counted(many, told)
                self.assertEqual((told_gain(book, whole), told_need(book, whole)), due)
                self.assertEqual(told_length(whole), many * len(walk))

    def test_two_thousand_parts(self):
        told = row_of(*[2] * 1999)
        self.assertEqual(told_length(told), 1999)
        self.assertEqual(told_need(PAIR, told), (1999, 1999))


def by_halves(gains, needs, many):
    """The gain and need of a walk done so many times: of one half of the times and then of the other."""
    if many == 1:
        return (gains, needs)
    one, low = by_halves(gains, needs, many // 2)
    both = tuple(2 * x for x in one)
    lows = tuple(max(x, x - y) for x, y in zip(low, one))
    if many % 2 == 0:
        return (both, lows)
    return (tuple(x + y for x, y in zip(both, gains)), tuple(max(x, y - z) for x, y, z in zip(lows, needs, both)))


class ToldDone(unittest.TestCase):

    def refused(self, book, stand, told):
        with self.assertRaises(NoWay) as caught:
            told_done(book, stand, told)
        self.assertIs(type(caught.exception), NoWay)

    def test_from_just_the_need_and_from_more(self):
        for book, told, _, ends, gains, needs in BY_HAND:
            for more in (0, 1, 50, GREAT):
                numbers = tuple(number + more for number in needs)
                due = tuple(number + by for number, by in zip(numbers, gains))
                self.assertEqual(told_done(book, (ends[0], numbers), told), (ends[1], due))

    def test_from_one_less_in_one_purse(self):
        for book, told, _, ends, _, needs in BY_HAND:
            for p, number in enumerate(needs):
                if number > 0:
                    numbers = [GREAT] * len(needs)
                    numbers[p] = number - 1
                    self.refused(book, (ends[0], tuple(numbers)), told)

    def test_from_another_room(self):
        for book, told, _, ends, *_ in BY_HAND:
            for room in range(book[0]):
                if room != ends[0]:
                    self.refused(book, (room, (GREAT,) * book[1]), told)

    def test_great_counts(self):
        told = counted(GREAT, TURN)
        self.assertEqual(told_done(PAIR, (0, (GREAT + 2, 5)), told), (0, (2, GREAT + 5)))
        self.refused(PAIR, (0, (GREAT + 1, GREAT)), told)
        self.refused(PAIR, (1, (GREAT * 5, GREAT)), told)

    def test_as_of_the_walk(self):
        source = random.Random(37)
        for book, told in made_pairs(200, 38):
            walk = spread(told)
            for _ in range(5):
                numbers = tuple(source.choice((0, 1, 3, 9, 40)) for _ in range(book[1]))
                stand = (source.choice((ends_of(book, walk)[0], source.randrange(book[0]))), numbers)
                try:
                    due = done(book, stand, walk)
                except NoWay:
                    self.refused(book, stand, told)
                else:
                    self.assertEqual(told_done(book, stand, told), due)

    def test_it_is_a_tuple(self):
        told = told_done(PAIR, (0, (9, 9)), TURN)
        self.assertEqual((type(told), type(told[1])), (tuple, tuple))


class Opened(unittest.TestCase):

    def refused(self, *asked, **named):
        with self.assertRaises(TooMany) as caught:
            opened(*asked, **named)
        self.assertIs(type(caught.exception), TooMany)

    def test_the_ways_one_behind_the_other(self):
        self.assertEqual(opened(("way", 3)), [3])
        self.assertEqual(opened(("row", (("way", 2), TURN))), [2, 0, 1])
        inner = ("row", (("way", 0), counted(3, ("way", 3)), ("way", 1)))
        self.assertEqual(opened(counted(2, inner)), [0, 3, 3, 3, 1, 0, 3, 3, 3, 1])

    def test_just_as_many_as_the_limit_and_one_more(self):
        for told in (("way", 2), TURN, counted(7, TURN), ("row", (TURN, ("way", 2)))):
            many = len(spread(told))
            for limit in (many, many + 1, 10000):
                self.assertEqual(opened(told, limit), spread(told))
                self.assertEqual(opened(told, limit=limit), spread(told))
            if many > 1:
                self.refused(told, many - 1)
                self.refused(told, limit=many - 1)
                self.refused(told, 1)

    def test_the_limit_left_out(self):
        self.assertEqual(opened(counted(10000, ("way", 2))), [2] * 10000)
        self.assertEqual(opened(counted(5000, TURN)), [0, 1] * 5000)
        self.refused(counted(10001, ("way", 2)))
        self.refused(("row", (counted(5000, TURN), ("way", 2))))
        self.assertEqual(len(opened(("row", (counted(4999, TURN), ("way", 2), ("way", 2))))), 10000)

    def test_great_counts(self):
        whole = counted(GREAT, TURN)
        for told in (whole, counted(GREAT, counted(GREAT, ("way", 2))), ("row", (("way", 2), whole))):
            self.refused(told)
            self.refused(told, 1)
            self.refused(told, limit=10000)

    def test_the_told_list_is_the_askers_own(self):
        for told in (("way", 2), TURN, counted(1, TURN), counted(3, TURN), ("row", (TURN,))):
            first = opened(told)
            self.assertIs(type(first), list)
            self.assertTrue(all(type(k) is int for k in first))
            first.append(9)
            first[0] = 7
            self.assertEqual(opened(told), spread(told))


class NothingIsChangedOrKept(unittest.TestCase):

    def test_what_is_handed_in(self):
        for book, told, *_ in BY_HAND:
            held, kept = copy.deepcopy(book), copy.deepcopy(told)
            stand = (told_ends(held, kept)[0], told_need(held, kept))
            is_told(held, kept)
            told_length(kept)
            told_gain(held, kept)
            told_done(held, stand, kept)
            opened(kept)
            self.assertEqual((held, kept), (book, told))

    def test_any_things(self):
        for thing in any_things() + told_things():
            before = copy.deepcopy(thing)
            is_told(PAIR, thing)
            self.assertEqual(thing, before)

    def test_nothing_hangs_on_what_was_asked_ahead(self):
        asked = [told_need(PAIR, TURN), told_gain(PAIR, TURN), opened(TURN)]
        for book in wide_books(3, 39):
            told_need(book, ("way", 5))
        with self.assertRaises(TooMany):
            opened(TURN, 1)
        with self.assertRaises(NoWay):
            told_done(PAIR, (0, (0, 0)), TURN)
        self.assertEqual([told_need(PAIR, TURN), told_gain(PAIR, TURN), opened(TURN)], asked)
