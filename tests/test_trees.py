"""Point 18, and what of 2 and 3 bears on it: of all walks the longest, or one that comes again no lower."""

import copy
import random
import time
import unittest

from fallsum.ends import ends
from fallsum.errors import TooMany
from fallsum.trees import from_stand
from fallsum.walks import done, ends_of, gain, is_walk
from tests.looks import grown_tree, told_of_tree
from tests.samples import GREAT, SWAP, WIDE, book_by_chance, made_books, sparse_books, wide_books

# One purse, from which each way takes 1.
CHAIN = (1, 1, ((0, 0, (-1,)),))
FORK = (1, 1, ((0, 0, (-1,)), (0, 0, (-1,))))

# Book, stand, what is told, how many knots the tree has: worked out by hand.
BY_HAND = (
    ((1, 1, ()), (0, (5,)), ("ends", None), 1),
    (CHAIN, (0, (0,)), ("ends", None), 1),
    (CHAIN, (0, (3,)), ("ends", [0, 0, 0]), 4),
    ((2, 1, ((1, 1, (0,)),)), (0, (GREAT,)), ("ends", None), 1),
    # Several of the longest: the first.
    (FORK, (0, (2,)), ("ends", [0, 0]), 7),
    ((2, 1, ((0, 0, (-2,)), (0, 1, (0,)), (0, 0, (-1,)))), (0, (2,)), ("ends", [2, 2, 1]), 8),
    ((3, 1, ((0, 1, (0,)), (0, 2, (0,)), (1, 2, (0,)), (2, 1, (-1,)))), (0, (0,)), ("ends", [0, 2]), 4),
    # Not the first of all walks, as lists rise, but of the longest.
    ((3, 1, ((0, 2, (0,)), (0, 1, (0,)), (1, 2, (0,)), (1, 2, (0,)))), (0, (0,)), ("ends", [1, 2]), 5),
    # Again, the lead empty and not.
    ((1, 1, ((0, 0, (0,)),)), (0, (0,)), ("again", [], [0]), 2),
    ((1, 1, ((0, 0, (1,)),)), (0, (0,)), ("again", [], [0]), 2),
    ((1, 1, ((0, 0, (1,)),)), (0, (GREAT,)), ("again", [], [0]), 2),
    ((2, 1, ((0, 1, (-5,)), (1, 1, (0,)))), (0, (5,)), ("again", [0], [1]), 3),
    ((2, 1, ((0, 1, (-5,)), (1, 1, (0,)))), (0, (4,)), ("ends", None), 1),
    ((2, 1, ((0, 1, (7,)), (1, 0, (-7,)))), (0, (0,)), ("again", [], [0, 1]), 3),
    ((2, 1, ((0, 1, (7,)), (1, 0, (-7,)))), (1, (0,)), ("ends", None), 1),
    ((2, 1, ((0, 1, (7,)), (1, 0, (-7,)))), (1, (7,)), ("again", [], [1, 0]), 3),
    # The shortest, not the first; of several of the shortest the first.
    ((2, 1, ((0, 1, (0,)), (1, 0, (0,)), (0, 0, (0,)))), (0, (0,)), ("again", [], [2]), 4),
    ((1, 1, ((0, 0, (-1,)), (0, 0, (3,)), (0, 0, (2,)))), (0, (0,)), ("again", [], [1]), 3),
    ((3, 1, ((0, 2, (0,)), (0, 1, (0,)), (1, 1, (1,)), (2, 2, (0,)))), (0, (0,)), ("again", [0], [3]), 5),
    # Parted at the last stand ahead that isn't higher, though the first one isn't, either.
    ((1, 2, ((0, 0, (-1, 0)), (0, 0, (1, 0)))), (0, (1, 0)), ("again", [], [1]), 4),
    ((3, 1, ((0, 0, (-1,)), (0, 1, (0,)), (1, 2, (0,)), (2, 0, (1,)))), (0, (1,)), ("again", [], [1, 2, 3]), 8),
    # A stand is lower where one purse alone is; in another room it is no matter.
    ((1, 2, ((0, 0, (-1, 9)),)), (0, (2, 0)), ("ends", [0, 0]), 3),
    ((2, 1, ((0, 1, (9,)),)), (0, (0,)), ("ends", [0]), 2),
)


class FromStand(unittest.TestCase):

    def look_over(self, book, stand, limit):
        """What is told, held against a tree grown here; its first word, or TooMany."""
        due = told_of_tree(book, stand, limit)
        if due is None:
            with self.assertRaises(TooMany) as caught:
                from_stand(book, stand, limit)
            self.assertIs(type(caught.exception), TooMany)
            return "TooMany"
        told = from_stand(book, stand, limit)
        self.assertEqual(told, due)
        self.assertIs(type(told), tuple)
        self.assertTrue(all(part is None or type(part) is list for part in told[1:]))
        if told[0] == "again":
            self.comes_again(book, stand, told)
        return told[0]

    def comes_again(self, book, stand, told):
        word, lead, loop = told
        self.assertTrue(is_walk(book, loop))
        self.assertTrue(lead == [] or is_walk(book, lead))
        first, last = ends_of(book, loop)
        self.assertEqual(first, last)
        self.assertGreaterEqual(min(gain(book, loop)), 0)
        done(book, stand, lead + loop * 3)

    def test_by_hand(self):
        for book, stand, due, many in BY_HAND:
            with self.subTest((book, stand)):
                self.assertEqual(len(grown_tree(book, stand, 3000)), many)
                self.assertEqual(from_stand(book, stand), due)
                self.look_over(book, stand, 2000)

    def test_just_the_limit_and_one_more(self):
        for book, stand, due, many in BY_HAND:
            self.assertEqual(from_stand(book, stand, many), due)
            self.assertEqual(from_stand(book, stand, limit=many), due)
            self.assertEqual(from_stand(book, stand, limit=many + 1), due)
            for limit in range(1, many):
                with self.assertRaises(TooMany):
                    from_stand(book, stand, limit)
                with self.assertRaises(TooMany):
                    from_stand(book, stand, limit=limit)

    def test_parted_at_the_last_stand_ahead(self):
        # In room 0 stands (1, 0), (0, 1) and then (1, 1), above both: the loop is from the second one on.
        book = (3, 2, ((0, 1, (-1, 1)), (1, 0, (0, 0)), (0, 2, (0, -1)), (2, 0, (1, 1))))
        self.assertEqual(from_stand(book, (0, (1, 0))), ("again", [0, 1], [2, 3]))
        # Then (1, 0) again, which isn't above the second one: the loop is all of it.
        book = (3, 2, ((0, 1, (-1, 1)), (1, 0, (0, 0)), (0, 2, (0, -1)), (2, 0, (1, 0))))
        self.assertEqual(from_stand(book, (0, (1, 0))), ("again", [], [0, 1, 2, 3]))
        # A stand above one ahead that is of another room doesn't count.
        book = (4, 1, ((0, 1, (-1,)), (1, 2, (5,)), (2, 3, (5,))))
        self.assertEqual(from_stand(book, (0, (1,))), ("ends", [0, 1, 2]))

    def test_the_limit_left_out(self):
        due = ("ends", [0] * 1999)
        self.assertEqual(from_stand(CHAIN, (0, (1999,))), due)
        self.assertEqual(from_stand(CHAIN, (0, (1999,)), 2000), due)
        self.assertEqual(from_stand(CHAIN, (0, (1999,)), limit=2000), due)
        for number in (2000, 2001, GREAT):
            with self.assertRaises(TooMany):
                from_stand(CHAIN, (0, (number,)))
        with self.assertRaises(TooMany):
            from_stand(CHAIN, (0, (1999,)), limit=1999)

    def test_trees_of_just_2000_and_2001_knots(self):
        # From room 0 by some ways to room 1, there down to 0, by others to room 2, from which none leads.
        for ways, over, number in ((39, 10, 50), (39, 11, 50), (40, 0, 49), (40, 18, 48)):
            book = (3, 1, ((0, 1, (0,)),) * ways + ((0, 2, (0,)),) * over + ((1, 1, (-1,)),))
            many = 1 + ways * (1 + number) + over
            self.assertEqual(len(grown_tree(book, (0, (number,)), 3000)), many)
            if many <= 2000:
                self.assertEqual(from_stand(book, (0, (number,))), ("ends", [0] + [ways + over] * number))
            else:
                with self.assertRaises(TooMany):
                    from_stand(book, (0, (number,)))
        # A fork that costs the one purse, a chain that costs the other.
        book = (2, 2, ((0, 0, (-1, 0)), (0, 0, (-1, 0)), (0, 1, (0, -1)), (1, 1, (0, -1))))
        for number, other, word in ((4, 63, "ends"), (4, 64, "TooMany"), (6, 14, "ends"), (6, 15, "TooMany")):
            self.assertEqual(self.look_over(book, (0, (number, other)), 2000), word)

    def test_again_is_found_and_the_tree_is_too_great(self):
        # Each stand of the chain comes again at once by way 0: two knots more each.
        book = (1, 1, ((0, 0, (0,)), (0, 0, (-1,))))
        self.assertEqual(from_stand(book, (0, (0,))), ("again", [], [0]))
        # 1 + 2 * 999 + 1 knots.
        self.assertEqual(len(grown_tree(book, (0, (999,)), 3000)), 2000)
        self.assertEqual(from_stand(book, (0, (999,))), ("again", [], [0]))
        with self.assertRaises(TooMany):
            from_stand(book, (0, (999,)), limit=1999)
        with self.assertRaises(TooMany):
            from_stand(book, (0, (1000,)))
        with self.assertRaises(TooMany):
            from_stand(book, (0, (GREAT,)))

    def test_walks_of_hundreds_of_ways(self):
        book = (2, 2, ((0, 1, (-1, 0)), (1, 0, (0, -1))))
        for many in (100, 300, 700):
            began = time.monotonic()
            self.assertEqual(from_stand(book, (0, (many, many))), ("ends", [0, 1] * many))
            self.assertEqual(from_stand(book, (1, (many, many - 1))), ("ends", [1, 0] * (many - 1)))
            self.assertEqual(from_stand(book, (1, (many - 1, many))), ("ends", [1, 0] * (many - 1) + [1]))
            self.assertLess(time.monotonic() - began, 60)
        book = (1, 2, ((0, 0, (-1, 1)),))
        self.assertEqual(from_stand(book, (0, (900, 0))), ("ends", [0] * 900))
        # A lead of hundreds of ways: way 0 gives one purse for the other, way 1 can be done with many of that alone.
        book = (2, 2, ((0, 0, (-1, 1)), (0, 1, (0, -99)), (1, 1, (0, 0))))
        self.assertEqual(from_stand(book, (0, (120, 0)), 2000), ("again", [0] * 99 + [1], [2]))
        # A loop of many ways: down by ones, and up in one.
        book = (2, 2, ((0, 0, (-1, 1)), (0, 1, (0, -98)), (1, 0, (98, 0))))
        self.assertEqual(self.look_over(book, (0, (98, 0)), 2000), "again")
        self.assertEqual(from_stand(book, (0, (98, 0))), ("again", [], [0] * 98 + [1, 2]))

    def test_great_numbers(self):
        line = (4, 2, ((0, 1, (99, -99)), (1, 2, (-99, 0)), (2, 3, (-1, -1)), (1, 3, (0, 0))))
        for number in (GREAT, GREAT - 98, 10 ** 99):
            self.assertEqual(from_stand(line, (0, (number, number))), ("ends", [0, 1, 2]))
        self.assertEqual(from_stand(line, (0, (0, GREAT))), ("ends", [0, 1]))
        book = (1, 2, ((0, 0, (-99, 99)), (0, 0, (99, -99))))
        with self.assertRaises(TooMany):
            from_stand(book, (0, (GREAT, GREAT)))
        self.assertEqual(self.look_over(book, (0, (98, GREAT)), 3), "TooMany")
        book = (1, 1, ((0, 0, (99,)),))
        self.assertEqual(from_stand(book, (0, (GREAT,)), 2), ("again", [], [0]))

    def test_made_books(self):
        source = random.Random(181)
        words = []
        for book in made_books(300, 182) + sparse_books(300, 183) + self.costly_books(source):
            for _ in range(3):
                stand = (source.randrange(book[0]), tuple(source.randint(0, 5) for _ in range(book[1])))
                words.append(self.look_over(book, stand, source.choice((300, 120, 40, 10))))
        self.assertEqual([words.count(word) > 100 for word in ("ends", "again", "TooMany")], [True] * 3)

    def costly_books(self, source):
        """Books of which most ways cost something, so that walks end or come again late."""
        gains = (-2, -1, -1, 0, 0, 1, 2)
        return [
            book_by_chance(source, source.randint(1, 3), 2, source.randint(2, 4), lambda: source.choice(gains))
            for _ in range(400)
        ]

    def test_just_as_many_knots_as_the_limit(self):
        source = random.Random(184)
        for book in self.costly_books(source)[:200]:
            stand = (source.randrange(book[0]), tuple(source.randint(0, 4) for _ in range(book[1])))
            knots = grown_tree(book, stand, 400)
            if knots is not None:
                self.assertNotEqual(self.look_over(book, stand, len(knots)), "TooMany")
                if len(knots) > 1:
                    self.assertEqual(self.look_over(book, stand, len(knots) - 1), "TooMany")

    def test_books_at_the_bounds(self):
        source = random.Random(185)
        for book in [WIDE] + wide_books(16, 186):
            for most in (50, 150, GREAT):
                stand = (source.randrange(12), tuple(source.randint(0, most) for _ in range(6)))
                began = time.monotonic()
                self.look_over(book, stand, 2000)
                self.assertLess(time.monotonic() - began, 60)

    def test_a_book_that_ends_never_comes_again(self):
        source = random.Random(187)
        for book in [SWAP] + made_books(200, 188):
            if ends(book)[0] == "ends":
                stand = (source.randrange(book[0]), tuple(source.randint(0, 3) for _ in range(book[1])))
                self.assertIn(self.look_over(book, stand, 500), ("ends", "TooMany"))


class NothingIsChangedOrKept(unittest.TestCase):

    def test_what_is_handed_in(self):
        for book, stand, due, _ in BY_HAND:
            held = copy.deepcopy((book, stand))
            from_stand(*held)
            self.assertEqual(held, (book, stand))

    def test_the_told_lists_are_the_askers_own(self):
        for book, stand, due, _ in BY_HAND:
            told = from_stand(book, stand)
            for part in told[1:]:
                if part is not None:
                    part.append(0)
                    part.reverse()
            self.assertEqual(from_stand(book, stand), due)

    def test_the_same_whatever_was_asked_ahead(self):
        for book, stand, due, _ in BY_HAND:
            with self.assertRaises(TooMany):
                from_stand(CHAIN, (0, (GREAT,)), 5)
            self.assertEqual(from_stand(book, stand), due)
            self.assertEqual(from_stand(book, stand), due)
