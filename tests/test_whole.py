"""Point 3, over the whole program: what is told of small books is held against one another and against all walks."""

import itertools
import random
import unittest

from fallsum.books import is_book
from fallsum.either import greatest, sum_or_round
from fallsum.ends import are_layers, ends, goes_on
from fallsum.errors import NoEnd, TooMany
from fallsum.held import held, is_held
from fallsum.lines import line_or_square, steps_at_most, turned
from fallsum.often import how_often
from fallsum.purses import kept_or_raised
from fallsum.rings import rings_of
from fallsum.rounds import is_round, parts_of, round_gain, round_of, walk_of
from fallsum.sums import fall, is_kept, is_sum, worth
from fallsum.texts import book_text, read_book
from fallsum.toldwalks import is_told, opened, told_done, told_ends, told_gain, told_length, told_need
from fallsum.trees import from_stand
from fallsum.walks import done, is_walk
from fallsum.words import is_word, word_book
from tests.looks import most_along, stands_behind
from tests.samples import GREAT, SWAP, made_books, made_word, sparse_books


def all_small_books():
    """All books of two rooms and a purse, or a room and two purses, with gains of -1, 0, 1 and at most three ways."""
    one_purse = [(a, b, (gain,)) for a in (0, 1) for b in (0, 1) for gain in (-1, 0, 1)]
    two_purses = [(0, 0, gains) for gains in itertools.product((-1, 0, 1), repeat=2)]
    books = []
    for many in range(4):
        books += [(2, 1, ways) for ways in itertools.combinations(one_purse, many)]
        books += [(1, 2, ways) for ways in itertools.combinations(two_purses, many)]
    return books


def small_stands(book, most):
    """All stands with no number above most."""
    return [(room, numbers) for room in range(book[0])
            for numbers in itertools.product(range(most + 1), repeat=book[1])]


class Whole(unittest.TestCase):

    def look_over(self, book, stands):
        """All that is told of a book, held against one another; its words."""
        every = list(range(len(book[2])))
        told = ends(book)
        words = {told[0]}
        if told[0] == "never":
            self.look_over_never(book, told)
        else:
            self.assertIs(are_layers(book, told[1]), True)
            words.add(self.look_over_line(book))
        for stand in stands:
            words.add(self.look_over_stand(book, stand, words))
        for ring in rings_of(book, every):
            self.look_over_ring(book, ring, words)
        self.assertTrue(all(is_held(book, part) for part in held(book)))
        self.assertEqual(read_book(book_text(book)), book)
        return words

    def look_over_never(self, book, told):
        word, walk, stand = told
        self.assertIs(goes_on(book, walk, stand), True)
        self.assertTrue(is_told(book, walk))
        self.assertEqual(told_done(book, stand, ("times", GREAT, walk))[0], stand[0])
        with self.assertRaises(NoEnd):
            line_or_square(book)
        try:
            self.assertEqual(from_stand(book, stand)[0], "again")
        except TooMany:
            pass

    def look_over_line(self, book):
        told = line_or_square(book)
        if told[0] == "square":
            word, turns, most = told
            for k in (1, 2, 3):
                walk = turned(turns, k)
                stand = (told_ends(book, walk)[0], (most * k,) * book[1])
                done(book, stand, opened(walk))
                self.assertGreater(told_length(walk), k * k)
        else:
            self.assertTrue(all(fall(book, part, k) >= 1 for ways, part in told[1] for k in ways))
        return told[0]

    def look_over_ring(self, book, ring, words):
        best, counts = greatest(book, ring)
        for k in ring:
            word, thing = sum_or_round(book, ring, k)
            self.assertEqual(word == "sum", best is not None and fall(book, best, k) >= 1)
            self.assertEqual(word == "round", counts is not None and counts[k] > 0)
        if counts is not None:
            self.assertNotIn("line", words)
            # A round of one part is a walk that comes back no lower.
            if len(parts_of(book, counts)) == 1:
                self.assertIn("never", words)
        for p in range(book[1]):
            word, thing = kept_or_raised(book, ring, p)
            if word == "raised":
                self.assertTrue(is_round(book, thing) and round_gain(book, thing)[p] > 0)
                self.assertTrue(all(sum_or_round(book, ring, k)[0] == "round" for k in ring if thing[k]))
            else:
                self.assertTrue(is_sum(book, thing) and is_kept(book, thing, ring))

    def look_over_stand(self, book, stand, words):
        """What is told from a stand; its first word, or TooMany."""
        try:
            told = from_stand(book, stand, 300)
        except TooMany:
            return "TooMany"
        if told[0] == "again":
            self.assertIn("never", words)
            lead, loop = told[1:]
            first = done(book, stand, lead)
            then = done(book, first, loop)
            self.assertTrue(first[0] == then[0] and all(x <= y for x, y in zip(first[1], then[1])))
            self.assertTrue(all(how_often(book, stand, k)[0] == "none" for k in loop))
        else:
            self.look_over_longest(book, stand, told[1] or [], words)
        return told[0]

    def look_over_longest(self, book, stand, walk, words):
        every = range(len(book[2]))
        self.assertEqual(len(walk), most_along(book, stand, every, 5000))
        if "line" in words:
            sums = line_or_square(book)[1]
            self.assertLessEqual(len(walk), steps_at_most(book, sums, max(stand[1])))
        for k in every:
            told = how_often(book, stand, k)
            if told[0] == "most":
                word, n, d, best, u, counts, e = told
                self.assertLessEqual(most_along(book, stand, (k,), 5000) * d, n)
                self.assertEqual(worth(best, stand) * d, n * u)
            elif "line" in words:
                # No ring alone has such a round then.
                rings = rings_of(book, list(every))
                self.assertGreater(len([ring for ring in rings if any(told[1][k] for k in ring)]), 1)

    def test_all_small_books(self):
        words = [self.look_over(book, small_stands(book, 2)) for book in all_small_books()]
        told = [sum(word in found for found in words) for word in ("ends", "never", "line", "again")]
        self.assertGreater(min(told), 50)

    def test_made_books(self):
        source = random.Random(231)
        for book in made_books(150, 232) + sparse_books(150, 233) + [SWAP]:
            stands = small_stands(book, 2)
            self.look_over(book, source.sample(stands, min(6, len(stands))))

    def test_a_square(self):
        self.assertIn("square", self.look_over(SWAP, small_stands(SWAP, 1)))

    def test_a_book_goes_on_just_where_a_stand_comes_again(self):
        # In these books a walk that goes on for ever can be done with 2 in each purse.
        for book in all_small_books():
            words = {self.word_from(book, stand) for stand in small_stands(book, 2)}
            self.assertEqual("again" in words, ends(book)[0] == "never")

    def word_from(self, book, stand):
        try:
            return from_stand(book, stand, 300)[0]
        except TooMany:
            return "TooMany"


class WordsAsBooks(unittest.TestCase):

    def test_looked_over_as_any_book(self):
        source = random.Random(234)
        found = set()
        whole = Whole()
        for _ in range(150):
            word = made_word(source, source.randint(1, 3), source.randint(1, 7), 5)
            self.assertTrue(is_word(word, len(word_book(word)[0][2][0][2])))
            book, over = word_book(word)
            self.assertTrue(is_book(book))
            stands = [(0, tuple(source.randint(0, 3) for _ in range(book[1]))) for _ in range(3)]
            found |= whole.look_over(book, stands)
        self.assertTrue({"ends", "never", "line", "again"} <= found)

    def test_loops_within_loops(self):
        # Purse 0 is given for purse 1 and back, at the cost of purse 2 each time.
        down, up, cost = ("put", (-1, 1, 0)), ("put", (1, -1, 0)), ("put", (0, 0, -1))
        inner = ("row", (("again", down), ("again", up), cost))
        book, over = word_book(("again", inner))
        self.assertEqual(ends(book)[0], "ends")
        self.assertEqual(line_or_square(book)[0], "square")
        book, over = word_book(("again", ("row", (("again", down), cost))))
        self.assertEqual(line_or_square(book)[0], "line")
        book, over = word_book(("again", ("row", (("again", down), up))))
        self.assertEqual(ends(book)[0], "never")


class HandedOn(unittest.TestCase):
    """What a function tells may be handed to the others, also where it is greater than told."""

    def test_great_walks_and_stands(self):
        told = turned(line_or_square(SWAP)[1], GREAT)
        for _ in range(3):
            told = ("times", GREAT, told)
        self.assertEqual(told_length(told), GREAT ** 3 * GREAT * (2 * GREAT + 2))
        stand = (told_ends(SWAP, told)[0], told_need(SWAP, told))
        then = told_done(SWAP, stand, told)
        self.assertEqual(then[1], tuple(x + y for x, y in zip(stand[1], told_gain(SWAP, told))))
        told = how_often(SWAP, then, 2)
        self.assertEqual((told[0], told[1], told[2]), ("most", then[1][2], 1))
        self.assertEqual(steps_at_most((1, 1, ((0, 0, (-1,)),)), [((0,), ((1,), (0,)))], GREAT ** 9), GREAT ** 9)

    def test_great_rounds(self):
        counts = tuple(GREAT * many for many in (3, 5, 7, 7))
        told = walk_of(SWAP, counts, 1)
        self.assertEqual(told_length(told), 22 * GREAT)
        again = tuple(GREAT * many for many in counts)
        self.assertTrue(is_round(SWAP, again))
        told = walk_of(SWAP, again, 0)
        self.assertEqual(told_length(told), 22 * GREAT ** 2)
        self.assertEqual(told_gain(SWAP, told), round_gain(SWAP, again))
        self.assertEqual(told_ends(SWAP, told), (0, 0))

    def test_a_longest_walk_is_a_walk(self):
        for stand in small_stands(SWAP, 1):
            walk = from_stand(SWAP, stand)[1]
            if walk is not None:
                self.assertTrue(is_walk(SWAP, walk))
                self.assertEqual(stands_behind(SWAP, done(SWAP, stand, walk)), [])
        closed = opened(turned(line_or_square(SWAP)[1], 3))
        self.assertTrue(is_round(SWAP, round_of(SWAP, closed)))
