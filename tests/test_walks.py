"""Point 6: walks, their ends, gain and need, and the stand behind one."""

import copy
import itertools
import random
import unittest

from fallsum.books import behind, is_stand
from fallsum.errors import NoWay
from fallsum.walks import done, ends_of, gain, is_walk, need
from tests.samples import GREAT, PAIR, VALLEY, WIDE, made_books, made_walk

# Book, walk, ends, gain and need, all worked out by hand.
BY_HAND = (
    (PAIR, [0], (0, 1), (-3, 1), (3, 0)),
    (PAIR, [1], (1, 0), (2, 0), (0, 0)),
    (PAIR, [2], (0, 0), (-1, -1), (1, 1)),
    (PAIR, [0, 1], (0, 0), (-1, 1), (3, 0)),
    (PAIR, [1, 0], (1, 1), (-1, 1), (1, 0)),
    (PAIR, [0, 3, 1, 2], (0, 0), (3, -2), (3, 2)),
    (PAIR, [0, 1, 0, 1, 2], (0, 0), (-3, 1), (4, 0)),
    (PAIR, [3, 4], (1, 1), (10, -4), (0, 4)),
    (VALLEY, [0, 1, 2, 3], (0, 0), (1,), (6,)),
    (VALLEY, [1, 2, 3, 0], (1, 1), (1,), (10,)),
    (VALLEY, [3, 0, 1, 2], (3, 3), (1,), (0,)),
    (VALLEY, [0, 1], (0, 2), (-5,), (5,)),
    (VALLEY, [1, 2, 4, 4], (1, 3), (-8,), (10,)),
    (VALLEY, [4, 4, 3], (3, 0), (9,), (0,)),
    (WIDE, [0, 1, 2], (0, 3), (297, -297, 0, -87, 3, -3), (0, 297, 0, 87, 0, 3)),
    (WIDE, [35, 24], (11, 1), (198, -198, 0, -1, 2, -2), (0, 198, 0, 1, 0, 2)),
)


def made_pairs(many, seed):
    """So many books with a walk each, always the same ones for a seed."""
    source = random.Random(seed)
    return [(book, made_walk(source, book, source.randint(1, 12))) for book in made_books(many, seed)]


def along(book, numbers, walk):
    """The numbers at every stand of the walk, the first one too, whatever they are."""
    rows = [numbers]
    for k in walk:
        rows.append(tuple(x + y for x, y in zip(rows[-1], book[2][k][2])))
    return rows


class IsWalk(unittest.TestCase):

    def test_walks(self):
        for book, walk, *_ in BY_HAND:
            self.assertIs(is_walk(book, walk), True)
        for book, walk in made_pairs(50, 6):
            self.assertIs(is_walk(book, walk), True)

    def test_each_way_alone(self):
        for book in (PAIR, VALLEY, WIDE):
            for k in range(len(book[2])):
                self.assertIs(is_walk(book, [k]), True)

    def test_the_empty_list(self):
        for book in (PAIR, VALLEY, (1, 1, ())):
            self.assertIs(is_walk(book, []), False)

    def test_no_numbers_of_ways(self):
        for bad in (-1, -2, -5, 5, 6, GREAT, -GREAT):
            for some in ([bad], [bad, 0], [0, bad], [0, 1, bad], [bad, bad], [0, bad, 1]):
                self.assertIs(is_walk(PAIR, some), False)

    def test_a_book_without_ways(self):
        for k in (0, 1, -1):
            self.assertIs(is_walk((1, 1, ()), [k]), False)

    def test_ways_that_do_not_lead_on(self):
        for some in ([0, 0], [1, 1], [0, 2], [1, 3], [2, 1], [3, 0], [0, 1, 1], [2, 0, 1, 3], [0, 1, 3, 1]):
            self.assertIs(is_walk(PAIR, some), False)

    def test_all_short_lists(self):
        ways = VALLEY[2]
        for some in itertools.product(range(-1, 6), repeat=3):
            due = min(some) >= 0 and max(some) <= 4
            due = due and ways[some[0]][1] == ways[some[1]][0] and ways[some[1]][1] == ways[some[2]][0]
            self.assertIs(is_walk(VALLEY, list(some)), due)

    def test_long_walks(self):
        walk = [0, 1] * 2500
        self.assertIs(is_walk(PAIR, walk), True)
        self.assertIs(is_walk(PAIR, walk + [0]), True)
        self.assertIs(is_walk(PAIR, walk + [1]), False)
        self.assertIs(is_walk(PAIR, [1] + walk + [1]), False)
        self.assertIs(is_walk(PAIR, walk + [0, -1]), False)

    def test_the_purses_do_not_matter(self):
        self.assertIs(is_walk(PAIR, [2] * 300), True)


class EndsGainNeed(unittest.TestCase):

    def test_by_hand(self):
        for book, walk, ends, gains, needs in BY_HAND:
            with self.subTest(walk):
                self.assertEqual(ends_of(book, walk), ends)
                self.assertEqual(gain(book, walk), gains)
                self.assertEqual(need(book, walk), needs)

    def test_tuples_of_numbers(self):
        for book, walk, *_ in BY_HAND:
            for told in (ends_of(book, walk), gain(book, walk), need(book, walk)):
                self.assertIs(type(told), tuple)
                self.assertTrue(all(type(number) is int for number in told))

    def test_need_is_the_least(self):
        for book, walk in made_pairs(200, 7):
            needs = need(book, walk)
            rows = along(book, needs, walk)
            self.assertGreaterEqual(min(min(row) for row in rows), 0)
            for p, number in enumerate(needs):
                if number > 0:
                    self.assertEqual(min(row[p] for row in rows), 0)

    def test_long_walks(self):
        walk = [0, 1] * 2500
        self.assertEqual(ends_of(PAIR, walk), (0, 0))
        self.assertEqual(gain(PAIR, walk), (-2500, 2500))
        self.assertEqual(need(PAIR, walk), (2502, 0))
        self.assertEqual(ends_of(PAIR, walk + [0]), (0, 1))


class Done(unittest.TestCase):

    def refused(self, book, stand, walk):
        with self.assertRaises(NoWay) as caught:
            done(book, stand, walk)
        self.assertIs(type(caught.exception), NoWay)

    def test_by_hand(self):
        self.assertEqual(done(PAIR, (0, (3, 2)), [0, 3, 1, 2]), (0, (6, 0)))
        self.assertEqual(done(VALLEY, (0, (6,)), [0, 1, 2, 3]), (0, (7,)))
        self.assertEqual(done(VALLEY, (3, (0,)), [3, 0, 1, 2]), (3, (1,)))

    def test_from_just_the_need_and_from_more(self):
        for book, walk, ends, gains, needs in BY_HAND:
            for more in (0, 1, 50, GREAT):
                numbers = tuple(number + more for number in needs)
                due = tuple(number + by for number, by in zip(numbers, gains))
                self.assertEqual(done(book, (ends[0], numbers), walk), (ends[1], due))

    def test_from_one_less_in_one_purse(self):
        for book, walk, ends, _, needs in BY_HAND:
            for p, number in enumerate(needs):
                if number > 0:
                    numbers = [GREAT] * len(needs)
                    numbers[p] = number - 1
                    self.refused(book, (ends[0], tuple(numbers)), walk)

    def test_from_another_room(self):
        for book, walk, ends, *_ in BY_HAND:
            for room in range(book[0]):
                if room != ends[0]:
                    self.refused(book, (room, (GREAT,) * book[1]), walk)

    def test_it_is_a_stand(self):
        for book, walk, ends, _, needs in BY_HAND:
            told = done(book, (ends[0], needs), walk)
            self.assertIs(type(told), tuple)
            self.assertIs(is_stand(book, told), True)

    def test_way_by_way(self):
        for book, walk in made_pairs(200, 8):
            room = ends_of(book, walk)[0]
            for numbers in itertools.product((0, 2, 5), repeat=book[1]):
                self.looked_over(book, (room, numbers), walk)

    def looked_over(self, book, stand, walk):
        if min(min(row) for row in along(book, stand[1], walk)) < 0:
            self.refused(book, stand, walk)
            return
        reached = stand
        for k in walk:
            reached = behind(book, reached, k)
        self.assertEqual(done(book, stand, walk), reached)

    def test_long_walks(self):
        walk = [0, 1] * 2500
        self.assertEqual(done(PAIR, (0, (2502, 0)), walk), (0, (2, 2500)))
        self.refused(PAIR, (0, (2501, GREAT)), walk)
        self.refused(PAIR, (1, (GREAT, GREAT)), walk)


class NothingIsChangedOrKept(unittest.TestCase):

    def test_what_is_handed_in(self):
        for book, walk, ends, _, needs in BY_HAND:
            held, went = copy.deepcopy(book), list(walk)
            stand = (ends[0], tuple(needs))
            is_walk(held, went)
            ends_of(held, went)
            gain(held, went)
            need(held, went)
            done(held, stand, went)
            self.assertEqual((held, went, stand), (book, walk, (ends[0], needs)))

    def test_where_it_is_refused(self):
        walk = [0, 1, 0]
        with self.assertRaises(NoWay):
            done(PAIR, (0, (0, 0)), walk)
        some = [0, 9]
        is_walk(PAIR, some)
        self.assertEqual((walk, some), ([0, 1, 0], [0, 9]))

    def test_a_list_that_the_asker_changes(self):
        walk = [0, 1]
        told = (ends_of(PAIR, walk), gain(PAIR, walk), need(PAIR, walk), done(PAIR, (0, (9, 9)), walk))
        walk.append(2)
        self.assertEqual(told, ((0, 0), (-1, 1), (3, 0), (0, (8, 10))))
        self.assertEqual(gain(PAIR, walk), (-2, 0))
        self.assertEqual(need(PAIR, walk), (3, 0))
        walk[0] = 9
        self.assertIs(is_walk(PAIR, walk), False)
        self.assertIs(is_walk(PAIR, [0, 1]), True)
        self.assertEqual(gain(PAIR, [0, 1]), (-1, 1))
