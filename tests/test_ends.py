"""Point 13, and what of 3 bears on it: a book that ends, by layers, or goes on for ever, by a walk."""

import copy
import itertools
import random
import time
import unittest

from fallsum.ends import are_layers, ends, goes_on
from fallsum.errors import NoWay
from fallsum.toldwalks import is_told, opened, told_done, told_ends, told_gain, told_length, told_need
from fallsum.walks import done
from tests.looks import are_such_layers
from tests.samples import (
    GREAT, PAIR, SWAP, TWO, VALLEY, WIDE, made_books, made_told, row_of, sparse_books, tight_books, wide_books,
)

# Rooms 0, 1 with SWAP's ways, at the cost of the third purse for the fourth; room 2 gives the fourth for the third;
# from 1 to 2 and back to 0 at the cost of the fifth.
DEEP = (3, 5, (
    (0, 0, (-1, 1, 0, 0, 0)),
    (1, 1, (1, -1, 0, 0, 0)),
    (0, 1, (0, 0, -1, 1, 0)),
    (1, 0, (0, 0, 0, 0, 0)),
    (2, 2, (0, 0, 1, -1, 0)),
    (1, 2, (0, 0, 0, 0, -1)),
    (2, 0, (0, 0, 0, 0, 0)),
))

# Two rings of the book, and ways between them that lead back nowhere.
APART = (4, 2, (
    (0, 0, (-1, 9)),
    (0, 1, (9, 9)),
    (1, 2, (3, -4)),
    (2, 1, (-3, 3)),
    (2, 3, (0, 0)),
))

# Book and the ways of its layers where each sum lowers all ways that it can, worked out by hand.
ENDING = (
    ((1, 1, ()), []),
    ((12, 6, ()), []),
    ((2, 1, ((0, 1, (99,)),)), []),
    ((3, 1, ((0, 1, (99,)), (0, 2, (5,)), (1, 2, (5,)))), []),
    ((1, 1, ((0, 0, (-1,)),)), [(0,)]),
    ((1, 2, ((0, 0, (-1, 5)), (0, 0, (0, -1)))), [(0, 1)]),
    ((2, 1, ((0, 1, (7,)), (1, 0, (-8,)))), [(0, 1)]),
    (APART, [(0,), (2, 3)]),
    (SWAP, [(0, 1, 2, 3), (0,), (1,)]),
    (DEEP, [(0, 1, 2, 3, 4, 5, 6), (0, 1, 2, 3), (0,), (1,), (4,)]),
    (WIDE, [tuple(range(60))]),
)

FOR_EVER = (
    (1, 1, ((0, 0, (0,)),)),
    (1, 1, ((0, 0, (1,)),)),
    (1, 1, ((0, 0, (-1,)), (0, 0, (1,)))),
    (1, 2, ((0, 0, (-1, 5)), (0, 0, (1, -5)))),
    (2, 1, ((0, 1, (7,)), (1, 0, (-7,)))),
    (2, 1, ((0, 1, (-99,)), (1, 0, (99,)))),
    # As SWAP, but for nothing there and back.
    (2, 2, ((0, 0, (-1, 1)), (1, 1, (1, -1)), (0, 1, (0, 0)), (1, 0, (0, 0)))),
    # A way round a room within a ring that costs.
    (2, 1, ((0, 1, (-1,)), (1, 0, (0,)), (1, 1, (0,)))),
    # As DEEP, but its middle ring goes on for ever: there and back for nothing.
    (3, 5, DEEP[2][:2] + ((0, 1, (0, 0, 0, 0, 0)),) + DEEP[2][3:]),
    TWO,
    PAIR,
    VALLEY,
)


class LookedOver(unittest.TestCase):

    def look_over(self, book):
        """What is told of a book, looked over; its first word."""
        told = ends(book)
        self.assertIs(type(told), tuple)
        if told[0] == "ends":
            word, layers = told
            self.assertIs(type(layers), list)
            for layer in layers:
                self.assertEqual((type(layer), len(layer), type(layer[0])), (tuple, 2, tuple))
            self.assertTrue(are_such_layers(book, layers))
            self.assertIs(are_layers(book, layers), True)
            return word
        word, walk, stand = told
        self.assertEqual(word, "never")
        self.assertIs(is_told(book, walk), True)
        room, numbers = stand
        self.assertEqual(told_ends(book, walk), (room, room))
        self.assertGreaterEqual(min(told_gain(book, walk)), 0)
        self.comes_back_no_lower(book, walk, stand)
        self.assertIs(goes_on(book, walk, stand), True)
        return word

    def comes_back_no_lower(self, book, walk, stand):
        for _ in range(3):
            then = told_done(book, stand, walk)
            self.assertEqual(then[0], stand[0])
            self.assertTrue(all(x <= y for x, y in zip(stand[1], then[1])))
            stand = then
        if told_length(walk) <= 10000:
            done(book, stand, opened(walk) * 2)

    def test_books_that_end(self):
        for book, ways in ENDING:
            with self.subTest(book):
                self.assertEqual(self.look_over(book), "ends")
                self.assertEqual(sorted(layer[0] for layer in ends(book)[1]), sorted(ways))

    def test_books_that_go_on_for_ever(self):
        for book in FOR_EVER:
            with self.subTest(book):
                self.assertEqual(self.look_over(book), "never")

    def test_no_ring_no_layers(self):
        for rooms in (1, 2, 12):
            self.assertEqual(ends((rooms, 1, ())), ("ends", []))
        line = tuple((room, room + 1, (99,) * 6) for room in range(11))
        self.assertEqual(ends((12, 6, line)), ("ends", []))

    def test_made_books(self):
        words = [self.look_over(book) for book in made_books(300, 81) + sparse_books(400, 82)]
        self.assertGreater(words.count("ends"), 100)
        self.assertGreater(words.count("never"), 100)

    def test_books_at_the_bounds(self):
        for book in wide_books(24, 83) + tight_books(24, 84):
            began = time.monotonic()
            self.look_over(book)
            self.assertLess(time.monotonic() - began, 60)

    def test_against_walks_gone_along(self):
        # Where it ends, no walk from small numbers is endless; where it doesn't, one from the stand told is.
        for book in sparse_books(60, 85):
            if ends(book)[0] == "ends":
                for room in range(book[0]):
                    self.all_walks_end(book, (room, (2,) * book[1]))

    def all_walks_end(self, book, stand):
        """Along all walks no stand comes again, no lower: so there are but finitely many."""
        pending = [(stand, ())]
        for _ in range(3000):
            if not pending:
                return
            last, ahead = pending.pop()
            self.assertFalse(any(x[0] == last[0] and all(p <= q for p, q in zip(x[1], last[1])) for x in ahead))
            for k in range(len(book[2])):
                try:
                    pending.append((done(book, last, [k]), ahead + (last,)))
                except NoWay:
                    pass


class AreLayers(unittest.TestCase):

    def are_some(self, book, *lists):
        for layers in lists:
            with self.subTest(layers):
                self.assertIs(are_layers(book, layers), True)

    def are_none(self, book, *lists):
        for layers in lists:
            with self.subTest(layers):
                self.assertIs(are_layers(book, layers), False)

    def test_by_hand(self):
        outer = ((0, 1, 2, 3), ((0, 0, 1), (0, 0)))
        one, other = ((0,), ((1, 0, 0), (0, 0))), ((1,), ((0, 1, 0), (0, 0)))
        back = (2, 3)
        # By this outer sum way 2 falls and way 3 doesn't: it is of no ring of the rest.
        self.are_some(SWAP, [outer, one, other])
        # By heights way 3 falls, too, and way 2 doesn't any more.
        for heights in ((0, 1), (5, 6)):
            self.are_some(SWAP, [((0, 1, 2, 3), ((0, 0, 1), heights)), one, other])
        self.are_none(SWAP, [((0, 1, 2, 3), ((0, 0, 1), (0, 2))), one, other])
        self.are_none(SWAP, [outer], [outer, one], [outer, other], [one, other], [], [one], [other])
        self.are_none(SWAP, [outer, one, other, (back, ((0, 0, 1), (0, 0)))])

    def test_a_layer_that_lowers_one_way_only(self):
        book = (1, 2, ((0, 0, (-1, 0)), (0, 0, (0, -1))))
        first, both = ((1, 0), (0,)), ((1, 1), (0,))
        self.are_some(book, [((0, 1), both)], [((0, 1), first), ((1,), both)])
        self.are_some(book, [((1,), ((0, 7), (3,))), ((0, 1), first)])
        self.are_none(book, [((0, 1), first)], [((0, 1), first), ((1,), first)], [((0, 1), both), ((1,), both)])
        self.are_none(book, [((0, 1), first), ((0,), both)], [((0,), both), ((1,), both)])

    def test_in_any_order(self):
        for book in (SWAP, DEEP, APART):
            layers = ends(book)[1]
            self.are_some(book, *[list(order) for order in itertools.permutations(layers)])

    def test_one_left_out_or_doubled(self):
        for book, _ in ENDING:
            layers = ends(book)[1]
            for at, layer in enumerate(layers):
                self.are_none(book, layers[:at] + layers[at + 1:])
                self.are_none(book, layers + [layer], layers[:at] + [layer] + layers[at:])
                again = (layer[0], (layer[1][0], tuple(height + 1 for height in layer[1][1])))
                self.are_some(book, layers[:at] + [again] + layers[at + 1:])
                self.are_none(book, layers + [again])

    def test_one_too_many(self):
        layers = ends(SWAP)[1]
        level = ((1, 1, 1), (0, 0))
        for ways in ((2, 3), (2,), (0, 1), (1, 2, 3), (), (4,), (-1,), (GREAT,), (0, 0)):
            self.are_none(SWAP, layers + [(ways, level)], [(ways, level)] + layers)
        self.are_none((1, 1, ()), [((), ((1,), (0,)))], [((0,), ((1,), (0,)))])

    def test_a_sum_that_is_not_kept(self):
        for book, _ in ENDING:
            layers = ends(book)[1]
            for at, (ways, (weights, heights)) in enumerate(layers):
                steep = tuple(-9 * height for height in heights)
                for told in (((0,) * len(weights), heights), (weights, steep)):
                    other = layers[:at] + [(ways, told)] + layers[at + 1:]
                    self.assertIs(are_layers(book, other), are_such_layers(book, other))
        # Way 0 falls, way 1 rises.
        book = (1, 2, ((0, 0, (-1, 5)), (0, 0, (0, -1))))
        self.are_none(book, [((0, 1), ((1, 0), (0,))), ((0, 1), ((1, 1), (0,)))], [((0, 1), ((1, 1), (0,)))])
        self.are_some(book, [((0, 1), ((6, 1), (0,)))], [((0, 1), ((5, 1), (0,))), ((0,), ((1, 0), (0,)))])
        self.are_none(book, [((0, 1), ((4, 1), (0,))), ((0,), ((1, 0), (0,)))])

    def test_a_sum_by_which_no_way_falls(self):
        for book, _ in ENDING:
            layers = ends(book)[1]
            level = ((0,) * book[1], (7,) * book[0])
            for at, (ways, _) in enumerate(layers):
                self.are_none(book, layers[:at] + [(ways, level)] + layers[at + 1:])
                self.are_none(book, layers[:at] + [(ways, level), layers[at]] + layers[at + 1:])

    def test_ways_that_do_not_rise(self):
        for book in (SWAP, DEEP, APART):
            layers = ends(book)[1]
            for at, (ways, told) in enumerate(layers):
                for other in (ways[::-1], ways + ways[-1:], ways[:1] + ways):
                    if other != ways:
                        self.are_none(book, layers[:at] + [(other, told)] + layers[at + 1:])

    def test_numbers_of_no_ways(self):
        layers = [((0,), ((1,), (0,)))]
        book = (1, 1, ((0, 0, (-1,)),))
        self.are_some(book, layers)
        for k in (-1, 1, 2, GREAT, -GREAT):
            self.are_none(book, [((k,), ((1,), (0,)))], layers + [((k,), ((1,), (0,)))], [((0, k), ((1,), (0,)))])

    def test_no_sum_of_the_book(self):
        book = (1, 1, ((0, 0, (1,)),))
        # By a weight below 0 the way would fall.
        self.are_none(book, [((0,), ((-1,), (0,)))])
        book = (1, 1, ((0, 0, (-1,)),))
        self.are_none(book, [((0,), ((1, 1), (0,)))], [((0,), ((1,), (0, 0)))])

    def test_books_that_go_on_for_ever_have_none(self):
        source = random.Random(86)
        for book in FOR_EVER:
            ring = tuple(range(len(book[2])))
            self.are_none(book, [])
            for _ in range(20):
                weights = tuple(source.randint(0, 2) for _ in range(book[1]))
                heights = tuple(source.randint(-2, 2) for _ in range(book[0]))
                self.are_none(book, [(ring, (weights, heights))])

    def test_layers_changed_by_chance(self):
        source = random.Random(87)
        for book in made_books(150, 88) + sparse_books(150, 89):
            told = ends(book)
            if told[0] == "ends":
                for _ in range(10):
                    layers = self.changed(source, book, list(told[1]))
                    self.assertIs(are_layers(book, layers), are_such_layers(book, layers))

    def changed(self, source, book, layers):
        """The layers with one sum changed a little, one left out, or one put to them."""
        source.shuffle(layers)
        sort = source.randrange(4)
        if sort == 0 and layers:
            layers.pop()
        elif sort == 1:
            some = tuple(k for k in range(len(book[2])) if source.random() < 0.5)
            layers.append((some, ((1,) * book[1], (0,) * book[0])))
        elif layers:
            ways, (weights, heights) = layers.pop()
            heights = tuple(height + source.choice((0, 0, -1, 1)) for height in heights)
            weights = tuple(max(0, weight + source.choice((0, 0, 1, -1))) for weight in weights)
            layers.append((ways, (weights, heights)))
        return layers


class GoesOn(unittest.TestCase):

    def test_by_hand(self):
        turn = row_of(0, 1, 2, 3)
        self.assertIs(goes_on(VALLEY, turn, (0, (6,))), True)
        self.assertIs(goes_on(VALLEY, turn, (0, (7,))), True)
        self.assertIs(goes_on(VALLEY, turn, (0, (GREAT,))), True)
        self.assertIs(goes_on(VALLEY, ("times", GREAT, turn), (0, (6,))), True)

    def test_a_stand_where_it_cannot_be_done(self):
        turn = row_of(0, 1, 2, 3)
        self.assertIs(goes_on(VALLEY, turn, (0, (5,))), False)
        self.assertIs(goes_on(VALLEY, turn, (0, (0,))), False)
        for room in (1, 2, 3):
            self.assertIs(goes_on(VALLEY, turn, (room, (GREAT,))), False)

    def test_a_walk_that_is_not_closed(self):
        for told in (("way", 0), row_of(3, 0), row_of(4, 3), ("times", 1, ("way", 3))):
            for room in range(4):
                self.assertIs(goes_on(VALLEY, told, (room, (GREAT,))), False)

    def test_a_gain_below_0(self):
        for told in (row_of(0, 1), ("way", 2), row_of(0, 3, 1), ("times", GREAT, ("way", 2))):
            for numbers in ((GREAT, GREAT), (GREAT ** 2, GREAT ** 2)):
                self.assertIs(goes_on(PAIR, told, (0, numbers)), False)
        self.assertIs(goes_on(PAIR, ("row", (row_of(0, 1), row_of(0, 1), row_of(0, 3, 1))), (0, (99, 99))), True)

    def test_a_gain_of_0(self):
        book = (1, 2, ((0, 0, (0, 0)), (0, 0, (-1, 0)), (0, 0, (0, -1)), (0, 0, (1, 0))))
        self.assertIs(goes_on(book, ("way", 0), (0, (0, 0))), True)
        self.assertIs(goes_on(book, ("way", 1), (0, (GREAT, GREAT))), False)
        self.assertIs(goes_on(book, ("way", 2), (0, (GREAT, GREAT))), False)
        self.assertIs(goes_on(book, row_of(1, 3), (0, (1, 0))), True)
        self.assertIs(goes_on(book, row_of(1, 3), (0, (0, 9))), False)
        self.assertIs(goes_on(book, row_of(3, 1), (0, (0, 0))), True)

    def test_made_ones(self):
        source = random.Random(90)
        words = []
        for book in made_books(300, 91) + sparse_books(200, 92):
            told = made_told(source, book, source.choice(book[2])[0], 4)
            room = told_ends(book, told)[0]
            for more in (-1, 0, 1):
                numbers = tuple(max(0, number + more) for number in told_need(book, told))
                for stand in ((room, numbers), (source.randrange(book[0]), numbers)):
                    words.append(self.looked_over(book, told, stand))
        self.assertGreater(words.count(True), 50)
        self.assertGreater(words.count(False), 50)

    def looked_over(self, book, told, stand):
        try:
            then = done(book, stand, opened(told))
        except NoWay:
            due = False
        else:
            due = then[0] == stand[0] and all(x <= y for x, y in zip(stand[1], then[1]))
        self.assertIs(goes_on(book, told, stand), due)
        return due


class NothingIsChangedOrKept(unittest.TestCase):

    def test_what_is_handed_in(self):
        for book in [book for book, _ in ENDING] + list(FOR_EVER):
            held = copy.deepcopy(book)
            told = ends(held)
            kept = copy.deepcopy(told)
            if told[0] == "ends":
                are_layers(held, told[1])
                are_layers(held, told[1] + told[1])
            else:
                goes_on(held, told[1], told[2])
            self.assertEqual((held, told), (book, kept))

    def test_the_told_list_is_the_askers_own(self):
        for book, _ in ENDING:
            first = ends(book)
            due = copy.deepcopy(first)
            first[1].append(((0,), None))
            first[1].reverse()
            self.assertEqual(ends(book), due)

    def test_the_same_whatever_was_asked_ahead(self):
        books = [book for book, _ in ENDING] + list(FOR_EVER)
        first = [ends(book) for book in books]
        then = [ends(book) for book in books[::-1]]
        self.assertEqual(first, then[::-1])
