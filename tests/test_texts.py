"""Point 21, and what of 2 bears on it: a book written as a text and read from it, NoRow and its field row."""

import copy
import random
import unittest

from fallsum.books import is_book
from fallsum.errors import FallError, NoRow
from fallsum.texts import book_text, read_book
from tests.samples import PAIR, SWAP, TWO, VALLEY, WIDE, made_books, sparse_books, tight_books, wide_books

BY_HAND = (
    ((1, 1, ()), "rooms 1 / purses 1"),
    ((12, 6, ()), "rooms 12 / purses 6"),
    ((2, 2, ((0, 1, (-1, 2)),)), "rooms 2 / purses 2 / 0 -> 1 : -1 2"),
    ((1, 1, ((0, 0, (0,)), (0, 0, (0,)))), "rooms 1 / purses 1 / 0 -> 0 : 0 / 0 -> 0 : 0"),
    ((11, 3, ((10, 0, (99, -99, 10)), (9, 10, (-9, 0, 9)))),
     "rooms 11 / purses 3 / 10 -> 0 : 99 -99 10 / 9 -> 10 : -9 0 9"),
    ((12, 6, ((11, 11, (-99, 99, 0, -10, 10, -1)),)), "rooms 12 / purses 6 / 11 -> 11 : -99 99 0 -10 10 -1"),
)

# Signs that aren't a whole number as the document writes it.
NO_NUMBERS = (
    "", " ", "-", "--1", "+1", "-0", "00", "01", "-01", "1-", "1.0", "1,", "a", "0x1", "1_0", "1e1", "1 ", " 1", "- 1",
    "1" * 101, "0" * 101, "-" + "1" * 101, "1" * 5000, "-" + "9" * 5000, "0" * 5000, "None", "True", "~", "!",
)

# Whole numbers that are no number of rooms, of purses, no room of two, and no gain.
BEYOND = ("-1", "-12", "100", "1000", "9" * 100, "-" + "9" * 100, "1" + "0" * 99)


class Written(unittest.TestCase):

    def test_by_hand(self):
        for book, text in BY_HAND:
            with self.subTest(text):
                self.assertEqual(book_text(book), text)
                self.assertIs(type(book_text(book)), str)

    def test_back_and_forth(self):
        books = [PAIR, SWAP, TWO, VALLEY, WIDE] + made_books(100, 211) + sparse_books(100, 212)
        for book in books + wide_books(8, 213) + tight_books(8, 214):
            text = book_text(book)
            self.assertLess(len(text), 20000)
            self.assertEqual(read_book(text), book)
            self.assertIs(is_book(read_book(text)), True)

    def test_all_kinds_of_rows_at_the_bounds(self):
        for rooms in range(1, 13):
            for purses in range(1, 7):
                ways = tuple((a, rooms - 1 - a, (a - 99,) * purses) for a in range(rooms))
                for book in ((rooms, purses, ()), (rooms, purses, ways)):
                    self.assertEqual(read_book(book_text(book)), book)

    def test_every_gain(self):
        for gain in range(-99, 100):
            self.assertEqual(read_book(f"rooms 1 / purses 1 / 0 -> 0 : {gain}"), (1, 1, ((0, 0, (gain,)),)))


class Read(unittest.TestCase):

    def test_by_hand(self):
        for book, text in BY_HAND:
            with self.subTest(text):
                self.assertEqual(read_book(text), book)

    def refused(self, row, *texts):
        for text in texts:
            with self.subTest(text):
                with self.assertRaises(NoRow) as caught:
                    read_book(text)
                self.assertIs(type(caught.exception), NoRow)
                self.assertIsInstance(caught.exception, FallError)
                self.assertEqual((type(caught.exception.row), caught.exception.row), (int, row))

    def test_the_first_row(self):
        rest = " / purses 1 / 0 -> 0 : 1"
        for word in NO_NUMBERS + BEYOND + ("0", "13", "14", "99"):
            self.refused(0, f"rooms {word}", f"rooms {word}{rest}")
        for row in (
            "room 1", "Rooms 1", "rooms", "rooms1", "rooms  1", " rooms 1", "rooms 1 ", "rooms 1 1", "1", "1 rooms",
            "rooms: 1", "rooms 1/", "/rooms 1", "purses 1", "0 -> 0 : 1", "x",
        ):
            self.refused(0, row, row + rest)

    def test_the_second_row(self):
        for word in NO_NUMBERS + BEYOND + ("0", "7", "8", "12"):
            self.refused(1, f"rooms 2 / purses {word}", f"rooms 2 / purses {word} / 0 -> 0 : 1")
        for row in (
            "purse 1", "Purses 1", "purses", "purses1", "purses  1", " purses 1", "purses 1 ", "purses 1 1", "1",
            "rooms 1", "0 -> 0 : 1", "x", "purses 1/", "/ purses 1",
        ):
            self.refused(1, f"rooms 2 / {row}", f"rooms 2 / {row} / 0 -> 0 : 1")

    def test_a_row_of_a_way(self):
        ahead = "rooms 2 / purses 2 / 0 -> 1 : 1 2 / "
        self.assertEqual(len(read_book(ahead + "1 -> 0 : -3 0")[2]), 2)
        for row in (
            "1 -> 0 : -3", "1 -> 0 : -3 0 0", "1 -> 0 :", "1 -> 0", "1 ->", "1", "->", "-> 0 : -3 0", "1 -> : -3 0",
            "1 0 : -3 0", "1 -> 0 -3 0", "1 -> 0 -3 : 0", "1 - > 0 : -3 0", "1 => 0 : -3 0", "1 > 0 : -3 0",
            "1->0 : -3 0", "1 ->0 : -3 0", "1 -> 0: -3 0", "1 -> 0 :-3 0", "1 -> 0 ; -3 0", "1 : 0 -> -3 0",
            "1  -> 0 : -3 0", "1 ->  0 : -3 0", "1 -> 0  : -3 0", "1 -> 0 :  -3 0", "1 -> 0 : -3  0", "1 -> 0 : -3 0 ",
            " 1 -> 0 : -3 0", "1 -> 0 : -3,0", "1 -> 0 : - 3 0", "1 -> 0 : (-3 0)", "way 1 -> 0 : -3 0", "rooms 2",
            "purses 2", "1 -> 0 : -3 0 : ", "1 -> 0 : -3 0/", "/ 1 -> 0 : -3 0", "1 -> 0 : : -3 0", "1 -> -> 0 : 3", "",
        ):
            self.refused(3, ahead + row, ahead + row + " / 0 -> 0 : 0 0", ahead + row + " / x")

    def test_numbers_of_a_way(self):
        ahead = "rooms 2 / purses 2 / "
        for word in NO_NUMBERS + BEYOND:
            self.refused(2, f"{ahead}{word} -> 0 : 1 2", f"{ahead}0 -> {word} : 1 2")
            if word not in ("-1", "-12"):
                self.refused(2, f"{ahead}0 -> 1 : {word} 2", f"{ahead}0 -> 1 : 2 {word}")
        for room in ("2", "3", "11", "12", "13"):
            self.refused(2, f"{ahead}{room} -> 0 : 1 2", f"{ahead}0 -> {room} : 1 2")
        for gain in ("-100", "100", "-101", "999"):
            self.refused(2, f"{ahead}0 -> 1 : {gain} 2", f"{ahead}0 -> 1 : 1 {gain}")

    def test_sixty_ways_and_sixty_one(self):
        rows = ["rooms 1", "purses 1"] + ["0 -> 0 : 1"] * 60
        self.assertEqual(len(read_book(" / ".join(rows))[2]), 60)
        for more in (["0 -> 0 : 1"], ["0 -> 0 : 1"] * 9, ["x"], [""], ["x", "0 -> 0 : 1"]):
            self.refused(62, " / ".join(rows + more))
        for at in range(2, 62):
            self.refused(at, " / ".join(rows[:at] + ["0 -> 1 : 1"] + rows[at + 1:] + ["x"]))

    def test_a_row_is_missing(self):
        self.refused(0, "")
        self.refused(1, "rooms 1", "rooms 12")
        self.refused(0, "purses 1", "purses 1 / 0 -> 0 : 1", "0 -> 0 : 1")
        self.refused(1, "rooms 1 / 0 -> 0 : 1", "rooms 1 / rooms 1 / purses 1")
        self.refused(0, "purses 1 / rooms 1")

    def test_rows_of_no_signs(self):
        self.refused(0, " / ", " / rooms 1 / purses 1", " /  / ", "  /  ")
        self.refused(1, "rooms 1 / ", "rooms 1 /  / purses 1", "rooms 1 /  / ")
        self.refused(2, "rooms 1 / purses 1 / ", "rooms 1 / purses 1 /  / 0 -> 0 : 1", "rooms 1 / purses 1 /  / ")
        self.refused(3, "rooms 1 / purses 1 / 0 -> 0 : 1 / ")

    def test_what_parts_the_rows(self):
        self.refused(0, "rooms 1/purses 1", "rooms 1 /purses 1", "rooms 1/ purses 1", "rooms 1 // purses 1")
        self.refused(0, "rooms 1  / purses 1", "/ rooms 1 / purses 1", "rooms 1, purses 1", "rooms 1 purses 1")
        self.refused(0, "rooms 1 | purses 1", "rooms 1 - purses 1")
        self.refused(1, "rooms 1 /  purses 1", "rooms 1 / purses 1 /", "rooms 1 / / purses 1")
        self.refused(1, "rooms 1 / purses 1 /0 -> 0 : 1", "rooms 1 / purses 1 0 -> 0 : 1")

    def test_the_first_of_several(self):
        self.refused(0, "x / y / z", "rooms 0 / purses 0 / 0 -> 0 : 1")
        self.refused(1, "rooms 1 / y / z", "rooms 1 / purses 0 / 0 -> 7 : 1")
        self.refused(2, "rooms 1 / purses 1 / 0 -> 1 : 1 / 0 -> 0 : 100")
        self.refused(4, "rooms 1 / purses 1 / 0 -> 0 : 1 / 0 -> 0 : 1 / 1 -> 0 : 1 / x")

    def test_long_texts(self):
        self.refused(0, "x" * 20000, " " * 20000, "/" * 20000, "9" * 20000, "-" * 20000, " / " * 6666)
        self.refused(0, "rooms " + "1" * 19000, "rooms -" + "1" * 19000, "rooms " + "0" * 19000)
        self.refused(2, "rooms 1 / purses 1 / 0 -> 0 :" + " 1" * 9000, "rooms 1 / purses 1 / 0 -> 0 : " + "1" * 19000)

    def test_changed_by_chance(self):
        source = random.Random(215)
        for book in made_books(40, 216):
            text = book_text(book)
            for _ in range(60):
                at = source.randrange(len(text))
                sign = source.choice(("", " ", "/", "-", "0", "1", "9", ":", ">", "x"))
                self.looked_over(text[:at] + sign + text[at + source.randrange(2):])

    def looked_over(self, text):
        """A text is read just where it is the text of a book, and that one is told; else its rows ahead are right."""
        try:
            book = read_book(text)
        except NoRow as refused:
            rows = text.split(" / ")
            self.assertLessEqual(refused.row, len(rows))
            if refused.row >= 2:
                self.assertEqual(book_text(read_book(" / ".join(rows[:refused.row]))), " / ".join(rows[:refused.row]))
                self.refused(refused.row, " / ".join(rows[:refused.row + 1]))
        else:
            self.assertIs(is_book(book), True)
            self.assertEqual(book_text(book), text)


class NothingIsChangedOrKept(unittest.TestCase):

    def test_what_is_handed_in(self):
        for book, text in BY_HAND:
            held = copy.deepcopy(book)
            book_text(held)
            self.assertEqual(held, book)
            self.assertEqual(read_book(text), read_book(text))

    def test_the_same_behind_a_refusal(self):
        for book, text in BY_HAND:
            with self.assertRaises(NoRow):
                read_book(text + " / x")
            self.assertEqual(read_book(text), book)
