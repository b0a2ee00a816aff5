"""Point 22, and what of 2 bears on it: a desk's rows, what it answers, what it refuses and in which order."""

import random
import unittest

from fallsum.desk import Desk
from fallsum.ends import ends
from fallsum.errors import FallError, NoEnd, NoLine, NoPurse, NoRing, NoRow, NoStand, NoWay, TooMany
from fallsum.held import held
from fallsum.lines import line_or_square
from fallsum.often import how_often
from fallsum.purses import kept_or_raised
from fallsum.texts import book_text
from fallsum.trees import from_stand
from tests.looks import rings_by_walks
from tests.samples import GREAT, PAIR, SWAP, TWO, VALLEY, WIDE, made_books, sparse_books, wide_books

# Ways 0 and 1 go round at a cost, 2 leads on, 3 raises purse 0 in room 2 for purse 1, 4 lowers both there.
DESK = (3, 2, ((0, 1, (7, 0)), (1, 0, (-8, 0)), (1, 2, (0, 3)), (2, 2, (2, -1)), (2, 2, (-1, -1))))

# Book, then rows and their answers, worked out by hand.
ANSWERS = (
    (DESK, (
        ("ends", "ends"),
        ("line", "line"),
        ("sums", "1"),
        ("often 0 0 5 0", "19/1"),
        ("often 1 1 7 0", "13/1"),
        ("often 2 4 1 9", "19/3"),
        ("often 2 0 9 9", "0/1"),
        ("often 2 1 0 0", "0/1"),
        ("purse 0 0", "kept"),
        ("purse 1 1", "kept"),
        ("purse 3 0", "kept"),
        ("purse 4 1", "kept"),
        ("from 0 0 0", "ends 5"),
        ("from 2 0 0", "ends 0"),
        ("from 2 1 1", "ends 1"),
        ("from 1 0 0", "ends 4"),
    )),
    (SWAP, (
        ("ends", "ends"),
        ("line", "square"),
        ("sums", "2"),
        ("often 0 0 0 0 0", "none"),
        ("often 0 2 5 5 5", "5/1"),
        ("often 0 3 5 5 5", "5/1"),
        ("often 1 3 5 5 5", "6/1"),
        ("purse 0 0", "kept"),
        ("purse 2 1", "kept"),
        ("purse 3 2", "kept"),
        ("from 0 1 1 1", "ends 7"),
        ("from 1 0 0 0", "ends 1"),
        ("from 0 0 0 0", "ends 0"),
    )),
    ((1, 1, ((0, 0, (-2,)), (0, 0, (-4,)))), (
        ("ends", "ends"),
        ("line", "line"),
        ("sums", "1"),
        ("often 0 0 7", "7/2"),
        ("often 0 1 6", "3/2"),
        ("often 0 1 0", "0/1"),
        (f"often 0 0 {GREAT}", f"{GREAT}/2"),
        ("from 0 7", "ends 3"),
        ("from 0 1", "ends 0"),
        ("from 0 0", "ends 0"),
        ("purse 0 0", "kept"),
    )),
    ((1, 1, ((0, 0, (1,)),)), (
        ("ends", "never"),
        ("sums", "1"),
        ("often 0 0 0", "none"),
        ("purse 0 0", "raised"),
        ("from 0 0", "again"),
        (f"from 0 {GREAT}", "again"),
    )),
    (TWO, (
        ("ends", "never"),
        ("purse 0 0", "kept"),
        ("purse 1 0", "kept"),
        ("purse 3 0", "kept"),
        ("from 3 0", "ends 1"),
        ("from 3 1", "again"),
        ("from 2 0", "again"),
        ("often 2 0 9", "0/1"),
        ("often 0 2 9", "1/1"),
        ("often 0 3 0", "none"),
    )),
    (PAIR, (("ends", "never"), ("purse 0 0", "raised"), ("purse 4 1", "raised"), ("sums", "1"))),
    ((12, 6, ()), (("ends", "ends"), ("line", "line"), ("sums", "18"), ("from 11 0 1 2 3 4 5", "ends 0"))),
    (WIDE, (("ends", "ends"), ("line", "line"), ("purse 59 5", "kept"), ("purse 0 0", "kept"))),
)

# Rows that are none that a desk knows, whatever its book.
NO_LINES = (
    "", " ", "  ", "x", "book", "Book x", "books", "BOOK x", "end", "Ends", "ends ", " ends", "ends 1", "ends ends",
    "line ", "line 0", "lines", "sums ", "sums 0", "sum", "often", "often ", "often 0", "often 0 0", "often 0 0 ",
    "often  0 0 1", "often 0  0 1", "often 0 0 1 ", "often 0 0 1  1", " often 0 0 1 1", "often 0 0 x", "often x 0 1",
    "often 0 x 1", "often 0 0 1 -", "often 0 0 +1 1", "often 0 0 01 1", "often 0 0 -0 1", "often 00 0 1 1",
    "often 0 -0 1 1", "often 0 0 1.0 1", "often 0,0,1,1", "often 0 0 1/1", "often 0 0 1 None", "purse", "purse ",
    "purse 0", "purse 0 ", "purse 0 0 ", "purse 0 0 0", "purse  0 0", "purse 0  0", "purse x 0", "purse 0 x",
    "purse 00 0", "purse 0 -0", "purse 0 +0", "purse 0 01", "Purse 0 0", "purses 0 0", "from", "from ", "from 0",
    "from 0 ", "from  0 1 1", "from 0  1 1", "from 0 1 1 ", "from x 1 1", "from 0 x 1", "from 0 1 1x", "from 0 01 1",
    "from 0 -0 1", "from +0 1 1", "form 0 1 1", "never", "line square", "ok", "held", "greatest 0", "steps 5",
    "from 0 " + "1" * 101, "from 0 -" + "1" * 101, "from 0 1 " + "1" * 5000, "often 0 " + "1" * 101 + " 1 1",
    "purse 0 " + "9" * 101, "purse " + "9" * 4999 + " 0", "from " + "0" * 5000 + " 1 1", "x" * 20000, " " * 20000,
    "ends,", "ends.", "0 -> 1 : 1", "rooms 1 / purses 1", "bookrooms 1 / purses 1", "book-rooms 1", "0",
    "-1", "often 0 0 1 1 x", "often 0 0 1 1 1 1 1 1 1 x",
)


def desk_with(book):
    desk = Desk()
    assert desk.say("book " + book_text(book)) == "ok"
    return desk


def as_words(numbers):
    return " ".join(str(number) for number in numbers)


class Spoken(unittest.TestCase):

    def answers(self, desk, row, due):
        told = desk.say(row)
        self.assertEqual((type(told), told), (str, due), row[:80])

    def refused(self, error, desk, *rows):
        for row in rows:
            with self.subTest(row[:80]):
                with self.assertRaises(FallError) as caught:
                    desk.say(row)
                self.assertIs(type(caught.exception), error)


class Answers(Spoken):

    def test_by_hand(self):
        for book, rows in ANSWERS:
            desk = desk_with(book)
            for row, due in rows:
                with self.subTest((book[:2], row)):
                    self.answers(desk, row, due)
            for row, due in rows[::-1]:
                self.answers(desk, row, due)

    def test_a_book(self):
        desk = Desk()
        self.answers(desk, "book rooms 1 / purses 1", "ok")
        self.answers(desk, "book rooms 2 / purses 2 / 0 -> 1 : -1 2", "ok")
        self.answers(desk, "book " + book_text(WIDE), "ok")

    def test_a_second_book_in_the_first_ones_stead(self):
        desk = Desk()
        for _ in range(2):
            for book, rows in ANSWERS:
                self.answers(desk, "book " + book_text(book), "ok")
                for row, due in rows:
                    self.answers(desk, row, due)

    def test_two_desks_side_by_side(self):
        one, other = desk_with(SWAP), desk_with(ANSWERS[3][0])
        for _ in range(2):
            self.assertEqual((one.say("ends"), other.say("ends")), ("ends", "never"))
            self.assertEqual((one.say("sums"), other.say("sums")), ("2", "1"))
        third = Desk()
        self.refused(NoLine, third, "ends", "sums")
        self.answers(other, "book " + book_text(DESK), "ok")
        self.assertEqual((one.say("line"), other.say("line")), ("square", "line"))
        self.refused(NoLine, third, "line")

    def test_as_the_points_tell(self):
        source = random.Random(221)
        for book in made_books(120, 222) + sparse_books(80, 223) + wide_books(4, 224):
            desk = desk_with(book)
            self.answers(desk, "ends", ends(book)[0])
            self.answers(desk, "sums", str(len(held(book))))
            if ends(book)[0] == "ends":
                self.answers(desk, "line", line_or_square(book)[0])
            else:
                self.refused(NoEnd, desk, "line")
            for _ in range(4):
                self.purse_and_stand(desk, book, source)

    def purse_and_stand(self, desk, book, source):
        k, p = source.randrange(len(book[2])), source.randrange(book[1])
        rings = [ring for ring in rings_by_walks(book, range(len(book[2]))) if k in ring]
        if rings:
            self.answers(desk, f"purse {k} {p}", kept_or_raised(book, rings[0], p)[0])
        else:
            self.refused(NoRing, desk, f"purse {k} {p}")
        room, numbers = source.randrange(book[0]), tuple(source.randint(0, 4) for _ in range(book[1]))
        told = how_often(book, (room, numbers), k)
        due = f"{told[1]}/{told[2]}" if told[0] == "most" else "none"
        self.answers(desk, f"often {room} {k} {as_words(numbers)}", due)
        try:
            told = from_stand(book, (room, numbers))
        except TooMany:
            self.refused(TooMany, desk, f"from {room} {as_words(numbers)}")
        else:
            due = "again" if told[0] == "again" else f"ends {len(told[1] or ())}"
            self.answers(desk, f"from {room} {as_words(numbers)}", due)

    def test_great_numbers(self):
        desk = desk_with((1, 6, ((0, 0, (-7, -9, -11, -13, -97, -98)),)))
        numbers = (GREAT, GREAT - 1, GREAT - 2, GREAT - 3, GREAT, GREAT)
        self.answers(desk, f"often 0 0 {as_words(numbers)}", f"{GREAT}/98")
        self.answers(desk, "from 0 " + as_words((GREAT,) * 5 + (97,)), "ends 0")

    def test_walks_of_just_as_many_knots(self):
        desk = desk_with((1, 1, ((0, 0, (-1,)),)))
        self.answers(desk, "from 0 1999", "ends 1999")
        self.refused(TooMany, desk, "from 0 2000", f"from 0 {GREAT}")


class Refused(Spoken):

    def test_rows_that_are_none(self):
        for book in (DESK, SWAP, (1, 1, ()), (1, 2, ((0, 0, (-1, -1)),))):
            self.refused(NoLine, desk_with(book), *NO_LINES)

    def test_rows_that_are_none_with_no_book(self):
        self.refused(NoLine, Desk(), *NO_LINES)

    def test_no_book_yet(self):
        desk = Desk()
        rows = (
            "ends", "line", "sums", "often 0 0 1", "purse 0 0", "from 0 0", "often -1 -1 -1", "purse -1 -1",
            "from -1 -1", "often 99 99 99 99 99 99 99 99 99", "from 99 99 99 99 99 99 99 99 99",
        )
        self.refused(NoLine, desk, *rows)
        # Behind a refused book there is still none.
        self.refused(NoRow, desk, "book x")
        self.refused(NoLine, desk, *rows)

    def test_no_book(self):
        for desk in (Desk(), desk_with(DESK)):
            for text, row in (
                ("", 0), ("x", 0), (" rooms 1 / purses 1", 0), ("rooms 1 / purses 1 ", 1), ("rooms 1", 1),
                ("rooms 13 / purses 1", 0), ("rooms 1 / purses 7", 1), ("rooms 1 / purses 1 / ", 2),
                ("rooms 1 / purses 1 / 0 -> 0 : 1 / 0 -> 1 : 1", 3),
                (" ", 0), ("book rooms 1 / purses 1", 0), ("rooms 1 / purses 1" + " / 0 -> 0 : 1" * 61, 62),
            ):
                with self.assertRaises(NoRow) as caught:
                    desk.say("book " + text)
                self.assertEqual((type(caught.exception), caught.exception.row), (NoRow, row))

    def test_no_stand(self):
        desk = desk_with(DESK)
        for stand in (
            "3 0 0", "-1 0 0", "0 -1 0", "0 0 -1", "0 0", "0 0 0 0", f"{GREAT} 0 0", f"0 0 -{GREAT}", "2 0 0 0 0 0 0",
        ):
            self.refused(NoStand, desk, f"from {stand}")
            room, numbers = stand.split(" ", 1)
            self.refused(NoStand, desk, f"often {room} 0 {numbers}")
            # NoWay is due, too, but told later.
            self.refused(NoStand, desk, f"often {room} 5 {numbers}", f"often {room} -1 {numbers}")

    def test_no_way(self):
        desk = desk_with(DESK)
        for k in (-1, 5, 6, 60, GREAT, -GREAT):
            self.refused(NoWay, desk, f"often 0 {k} 0 0", f"often 2 {k} 9 9")
            self.refused(NoWay, desk, f"purse {k} 0", f"purse {k} 1")
            # NoPurse is due, too, but told later.
            self.refused(NoWay, desk, f"purse {k} 2", f"purse {k} -1", f"purse {k} {GREAT}")
        self.refused(NoWay, desk_with((1, 1, ())), "often 0 0 0", "purse 0 0", "purse 0 9")

    def test_no_ring(self):
        desk = desk_with(DESK)
        self.refused(NoRing, desk, "purse 2 0", "purse 2 1")
        self.refused(NoRing, desk, "purse 2 2", "purse 2 -1", f"purse 2 {GREAT}")
        self.refused(NoRing, desk_with(TWO), "purse 2 0", "purse 4 0", "purse 4 1")

    def test_no_purse(self):
        desk = desk_with(DESK)
        for k in (0, 1, 3, 4):
            self.refused(NoPurse, desk, f"purse {k} 2", f"purse {k} -1", f"purse {k} {GREAT}", f"purse {k} -{GREAT}")

    def test_no_end(self):
        for book in (TWO, PAIR, VALLEY, ANSWERS[3][0]):
            self.refused(NoEnd, desk_with(book), "line")

    def test_too_many(self):
        self.refused(TooMany, desk_with(DESK), f"from 0 {GREAT} 0", "from 0 2000 0", f"from 2 {GREAT} {GREAT}")
        # A walk that comes again is found, but the tree is too great.
        self.refused(TooMany, desk_with((1, 1, ((0, 0, (0,)), (0, 0, (-1,))))), "from 0 1000")

    def test_nothing_is_changed_by_a_refusal(self):
        rows = NO_LINES[:40] + (
            "book ", "book x", "book rooms 1", "book rooms 1 / purses 1 / x", "book rooms 9 / purses 9", "from 9 0 0",
            "often 9 0 0 0", "often 0 9 0 0", "purse 9 0", "purse 2 0", "purse 0 9", f"from 0 {GREAT} 0",
        )
        desk = desk_with(DESK)
        for row in rows:
            with self.assertRaises(FallError):
                desk.say(row)
            for asked, due in ANSWERS[0][1]:
                self.answers(desk, asked, due)
        self.answers(desk, "book " + book_text(PAIR), "ok")
        self.refused(NoEnd, desk, "line")
        self.answers(desk, "ends", "never")
