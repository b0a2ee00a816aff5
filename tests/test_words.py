"""Point 19, and what of 2 and 3 bears on it: words, their rows of puts, and the book with the same walks."""

import copy
import random
import time
import unittest

from fallsum.books import is_book
from fallsum.words import is_word, word_book
from tests.samples import GREAT, any_things, made_word, within

A, B, C = ("put", (1, 0)), ("put", (-2, 5)), ("put", (0, 99))


def row(*words):
    return ("row", words)


def either(*words):
    return ("either", words)


def again(word):
    return ("again", word)


def laid_within(word, many, kind):
    """A word laid so often within rows or choices of one part, or repeats."""
    for _ in range(many):
        word = ("again", word) if kind == "again" else (kind, (word,))
    return word


# Word, its ways as tuples (i, j), its ends: worked out by hand.
BY_HAND = (
    (A, [(0, 1)], [1]),
    (row(A), [(0, 1)], [1]),
    (either(A), [(0, 1)], [1]),
    (again(A), [(0, 1), (1, 1)], [0, 1]),
    (again(again(A)), [(0, 1), (1, 1)], [0, 1]),
    (row(again(A)), [(0, 1), (1, 1)], [0, 1]),
    (row(A, B), [(0, 1), (1, 2)], [2]),
    (row(A, A), [(0, 1), (1, 2)], [2]),
    (either(A, B), [(0, 1), (0, 2)], [1, 2]),
    (either(A, A), [(0, 1), (0, 2)], [1, 2]),
    (row(again(A), B), [(0, 1), (0, 2), (1, 1), (1, 2)], [2]),
    (row(A, again(B)), [(0, 1), (1, 2), (2, 2)], [1, 2]),
    (row(again(A), again(B)), [(0, 1), (0, 2), (1, 1), (1, 2), (2, 2)], [0, 1, 2]),
    (again(row(A, B)), [(0, 1), (1, 2), (2, 1)], [0, 2]),
    (again(either(A, B)), [(0, 1), (0, 2), (1, 1), (1, 2), (2, 1), (2, 2)], [0, 1, 2]),
    (either(again(A), B), [(0, 1), (0, 2), (1, 1)], [0, 1, 2]),
    (row(A, again(B), C), [(0, 1), (1, 2), (1, 3), (2, 2), (2, 3)], [3]),
    (row(either(A, B), either(B, C)), [(0, 1), (0, 2), (1, 3), (1, 4), (2, 3), (2, 4)], [3, 4]),
    (row(A, either(again(B), C), A), [(0, 1), (1, 2), (1, 3), (1, 4), (2, 2), (2, 4), (3, 4)], [4]),
    # A row that can be none, over and over: from each of its parts to each.
    (again(row(again(A), again(B))), [(0, 1), (0, 2), (1, 1), (1, 2), (2, 1), (2, 2)], [0, 1, 2]),
    (again(row(again(A), B)), [(0, 1), (0, 2), (1, 1), (1, 2), (2, 1), (2, 2)], [0, 2]),
    (row(again(again(A)), again(row(B, again(C)))),
     [(0, 1), (0, 2), (1, 1), (1, 2), (2, 2), (2, 3), (3, 2), (3, 3)], [0, 1, 2, 3]),
    (row(again(A), again(B), again(C), A),
     [(0, 1), (0, 2), (0, 3), (0, 4), (1, 1), (1, 2), (1, 3), (1, 4), (2, 2), (2, 3), (2, 4), (3, 3), (3, 4)], [4]),
)


def puts_of(word):
    """The gains of a word's puts, as it is read."""
    if word[0] == "put":
        return [word[1]]
    parts = [word[1]] if word[0] == "again" else word[1]
    return [gains for part in parts for gains in puts_of(part)]


def rows_of(word, longest, ahead=0):
    """The rows of a word with at most so many puts, a set of tuples of their numbers, from 1 on."""
    if word[0] == "put":
        return {(ahead + 1,)} if longest else set()
    if word[0] == "again":
        once, told, fresh = rows_of(word[1], longest, ahead), {()}, {()}
        while fresh:
            fresh = {one + other for one in fresh for other in once if len(one + other) <= longest} - told
            told |= fresh
        return told
    told = {()} if word[0] == "row" else set()
    for part in word[1]:
        then = rows_of(part, longest, ahead)
        ahead += len(puts_of(part))
        if word[0] == "row":
            told = {one + other for one in told for other in then if len(one + other) <= longest}
        else:
            told |= then
    return told


def rows_by_walks(book, over, longest):
    """The rooms to which walks from room 0 to an end lead, in turn, of at most so many ways."""
    told, walks = set(), {()}
    for _ in range(longest + 1):
        told |= {walk for walk in walks if (walk[-1] if walk else 0) in over}
        walks = {walk + (way[1],) for walk in walks for way in book[2] if way[0] == (walk[-1] if walk else 0)}
    return told


class IsWord(unittest.TestCase):

    def are(self, *things):
        for thing in things:
            self.assertIs(is_word(thing, 2), True, thing)

    def are_none(self, *things):
        for thing in things:
            self.assertIs(is_word(thing, 2), False)

    def test_each_kind(self):
        self.are(A, B, C, row(A), row(A, B, C), either(A), either(A, B), again(A), again(again(B)))
        self.are(*[word for word, _, _ in BY_HAND])

    def test_no_part(self):
        self.are_none((), ("put",), ("row",), ("either",), ("again",), ("row", ()), ("either", ()), ("again", ()))
        self.are_none(("put", ()), again(row()), row(A, row()), either(either(), A))

    def test_a_part_more_or_fewer(self):
        self.are_none(A + (1,), ("put", 1, 0), ("row", A, B), ("row", (A,), (B,)), ("either", A, B))
        self.are_none(("again", A, A), ("again", A, 2), ("again", (A,)), ("again", (A, B)), ("row", A), ("either", A))
        self.are_none((A,), (A, B), ((A, B),), A[:1], A[1:])

    def test_lists_for_tuples(self):
        self.are_none(list(A), ("put", [1, 0]), ("row", [A, B]), ["row", (A, B)], ("either", [A]), ["either", (A,)])
        self.are_none(["again", A], ("again", list(A)), row(A, list(B)), either(list(A)), again(("put", [1, 0])))

    def test_other_words(self):
        others = ("", "Put", "put ", "puts", "way", "times", "rows", "AGAIN", None, 0, True, (), ("put",), ["put"])
        for word in others:
            self.are_none((word, (1, 0)), (word, (A,)), (word, A), row(A, (word, A)), again((word, (A, B))))
        self.are_none("put", "row", ("put", "ab"), ("row", "ab"), ("again", "ab"), ("either", "a"))

    def test_gains(self):
        for gain in (-99, -98, 0, 98, 99):
            self.are(("put", (gain, 0)), row(A, ("put", (0, gain))))
        for gain in (-100, 100, GREAT, -GREAT, True, False, None, "1", (1,), [1], ()):
            self.are_none(("put", (gain, 0)), ("put", (0, gain)), row(A, ("put", (0, gain))), again(("put", (gain, 0))))
        self.are_none(("put", (1,)), ("put", (1, 0, 0)), ("put", 1), ("put", None), row(A, ("put", (1,))))

    def test_of_so_many_purses(self):
        for purses in range(1, 7):
            for many in range(8):
                put = ("put", (0,) * many)
                for word in (put, row(put, put), again(put)):
                    self.assertIs(is_word(word, purses), many == purses)

    def test_just_seven_puts_and_eight(self):
        for many, due in ((1, True), (6, True), (7, True), (8, False), (9, False), (1000, False)):
            for word in (row(*[A] * many), either(*[A] * many), again(row(*[again(B)] * many))):
                self.assertIs(is_word(word, 2), due)
        for more, due in ((3, True), (4, False)):
            self.assertIs(is_word(row(row(A, B), either(A, again(C)), row(*[A] * more)), 2), due)
            self.assertIs(is_word(row(row(*[A] * more), either(A, again(C)), row(A, B)), 2), due)

    def test_just_ten_within_one_another_and_eleven(self):
        for kind in ("row", "either", "again"):
            for many, due in ((8, True), (9, True), (10, False), (11, False), (149, False)):
                word = laid_within(A, many, kind)
                self.assertIs(is_word(word, 2), due)
                # Beside others, ahead of them and behind them, one deeper.
                for beside in (("row", (B, word)), ("either", (word, B)), again(word)):
                    self.assertIs(is_word(beside, 2), many <= 8)

    def test_any_thing(self):
        for thing in any_things():
            self.are_none(thing, ("row", thing), ("row", (thing,)), ("either", (A, thing)), ("again", thing))
            self.are_none((thing, A), ("put", (thing, 0)) if thing not in (0, 1, 2, 3, -1) else ())
            self.assertIs(is_word(("put", thing), 2), thing in ((1, 1), (0, 0)))

    def test_things_within_one_another(self):
        for kind in (tuple, list):
            for many in (1, 9, 10, 148, 150):
                thing = within(A, many, kind)
                self.are_none(thing, ("row", thing) if many > 1 else (), ("again", thing), ("put", thing))
        for many in (20, 148):
            deep = laid_within(None, many, "row")
            self.are_none(deep, ("again", deep), ("row", (A, deep)), ("row", (deep, A)))

    def test_a_great_many_parts(self):
        word = A
        for _ in range(140):
            word = ("row", (word, word))
        began = time.monotonic()
        self.assertIs(is_word(word, 2), False)
        self.assertIs(is_word(("again", word), 2), False)
        wide = ("row", (A,) * 5000)
        self.assertIs(is_word(("row", (wide,) * 5000), 2), False)
        self.assertLess(time.monotonic() - began, 10)

    def test_made_ones(self):
        source = random.Random(201)
        for _ in range(500):
            word = made_word(source, 2, source.randint(1, 7), 10)
            self.are(word)
            self.assertIs(is_word(word, 3), False)
            self.assertIs(is_word(word, 1), False)


class WordBook(unittest.TestCase):

    def look_over(self, word):
        """The book of a word, looked over but for its walks."""
        told = word_book(word)
        self.assertEqual((type(told), len(told)), (tuple, 2))
        book, over = told
        self.assertIs(is_book(book), True)
        puts = puts_of(word)
        self.assertEqual(book[:2], (len(puts) + 1, len(puts[0])))
        leads = [(i, j) for i, j, _ in book[2]]
        self.assertEqual(leads, sorted(set(leads)))
        self.assertTrue(all(gains == puts[j - 1] for _, j, gains in book[2]))
        self.assertEqual((type(over), over), (list, sorted(set(over))))
        return book, over

    def test_by_hand(self):
        for word, leads, over in BY_HAND:
            with self.subTest(word):
                book, told = self.look_over(word)
                self.assertEqual([(i, j) for i, j, _ in book[2]], leads)
                self.assertEqual(told, over)

    def test_written_out(self):
        word = row(again(A), either(B, C))
        self.assertEqual(word_book(word), ((4, 2, (
            (0, 1, (1, 0)), (0, 2, (-2, 5)), (0, 3, (0, 99)),
            (1, 1, (1, 0)), (1, 2, (-2, 5)), (1, 3, (0, 99)),
        )), [2, 3]))

    def test_rows_are_walks(self):
        for word, _, _ in BY_HAND:
            with self.subTest(word):
                book, over = self.look_over(word)
                self.assertEqual(rows_by_walks(book, over, 5), rows_of(word, 5))

    def test_made_words(self):
        source = random.Random(202)
        with_none = 0
        for _ in range(400):
            word = made_word(source, source.randint(1, 6), source.randint(1, 7), source.randint(3, 10))
            book, over = self.look_over(word)
            self.assertEqual(rows_by_walks(book, over, 4), rows_of(word, 4))
            with_none += 0 in over
            self.leads_by_all_rooms(book, over)
        self.assertGreater(with_none, 50)
        self.assertLess(with_none, 350)

    def leads_by_all_rooms(self, book, over):
        """Each room can be come to from room 0, and leads on to an end: so walks tell of each way."""
        reached, leading = {0}, set(over)
        for _ in range(book[0]):
            reached |= {j for i, j, _ in book[2] if i in reached}
            leading |= {i for i, j, _ in book[2] if j in leading}
        self.assertEqual((reached, leading), (set(range(book[0])), set(range(book[0]))))

    def test_the_greatest_book(self):
        word = again(either(*[("put", (k,) * 6) for k in range(7)]))
        book, over = self.look_over(word)
        self.assertEqual((book[0], book[1], len(book[2]), over), (8, 6, 56, list(range(8))))
        word = laid_within(either(*[A] * 7), 8, "again")
        book, over = self.look_over(word)
        self.assertEqual((len(book[2]), over), (56, list(range(8))))

    def test_the_deepest_words(self):
        for kind in ("row", "either"):
            self.assertEqual(word_book(laid_within(B, 9, kind)), ((2, 2, ((0, 1, (-2, 5)),)), [1]))
        due = ((2, 2, ((0, 1, (-2, 5)), (1, 1, (-2, 5)))), [0, 1])
        self.assertEqual(word_book(laid_within(B, 9, "again")), due)


class NothingIsChangedOrKept(unittest.TestCase):

    def test_what_is_handed_in(self):
        for word, _, _ in BY_HAND:
            held = copy.deepcopy(word)
            is_word(held, 2)
            word_book(held)
            self.assertEqual(held, word)
        things = any_things()
        for thing, due in zip(things, copy.deepcopy(things)):
            is_word(thing, 2)
            self.assertEqual(thing, due)

    def test_the_told_list_is_the_askers_own(self):
        for word, leads, over in BY_HAND:
            told = word_book(word)
            due = copy.deepcopy(told)
            told[1].append(9)
            told[1].reverse()
            self.assertEqual(word_book(word), due)
