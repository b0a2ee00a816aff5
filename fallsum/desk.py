"""A desk: it is told rows, keeps a book, and answers each row with a text."""

from fallsum.books import has_way, is_stand
from fallsum.ends import ends, rings_of_all
from fallsum.errors import NoLine, NoRing, NoStand, NoWay
from fallsum.held import held
from fallsum.lines import line_or_square
from fallsum.often import how_often
from fallsum.purses import kept_or_raised
from fallsum.texts import read_book, read_numbers
from fallsum.trees import from_stand


def make_stand(book, room, numbers):
    """The stand in a room with a list of numbers; NoStand where it is none of the book."""
    stand = (room, tuple(numbers))
    if not is_stand(book, stand):
        raise NoStand("the book has no such stand")
    return stand


def ring_of(book, k):
    """The ring of the book that has way k; NoWay where there is no such way, NoRing where it is of none."""
    if not has_way(book, k):
        raise NoWay("the book has no way of this number")
    rings = [ring for ring in rings_of_all(book) if k in ring]
    if not rings:
        raise NoRing(f"way {k} is of no ring")
    return rings[0]


def answer_ends(book, numbers):
    """Whether the book ends."""
    return ends(book)[0]


def answer_line(book, numbers):
    """Whether the book is a line or a square."""
    return line_or_square(book)[0]


def answer_often(book, numbers):
    """How often a way can be done at most; the numbers are a room, a way and those of the purses."""
    stand = make_stand(book, numbers[0], numbers[2:])
    told = how_often(book, stand, numbers[1])
    return f"{told[1]}/{told[2]}" if told[0] == "most" else "none"


def answer_purse(book, numbers):
    """Whether a purse is kept or raised; the numbers are a way of its ring and the purse."""
    k, p = numbers
    return kept_or_raised(book, ring_of(book, k), p)[0]


def answer_from(book, numbers):
    """How many steps the longest walk has, or that one comes again; the numbers are a room and those of the purses."""
    told = from_stand(book, make_stand(book, numbers[0], numbers[1:]))
    if told[0] == "again":
        return "again"
    return f"ends {len(told[1] or [])}"


def answer_sums(book, numbers):
    """How many sums the least list has."""
    return str(len(held(book)))


ANSWERS = {
    "ends": answer_ends,
    "line": answer_line,
    "often": answer_often,
    "purse": answer_purse,
    "from": answer_from,
    "sums": answer_sums,
}

# How many numbers stand behind a word, and whether there may be more.
NUMBERS = {
    "ends": (0, False),
    "line": (0, False),
    "often": (3, True),
    "purse": (2, False),
    "from": (2, True),
    "sums": (0, False),
}


def is_line(word, numbers):
    """Whether a row of this word and these numbers, None where they are none, is one that a desk knows."""
    if word not in NUMBERS or numbers is None:
        return False
    many, may_be_more = NUMBERS[word]
    return len(numbers) == many or (may_be_more and len(numbers) > many)


class Desk:
    """A desk with the book that it was told last, or none."""

    def __init__(self):
        self.book = None

    def say(self, row):
        """The answer to a row, a text; a refusal changes nothing."""
        word, blank, text = row.partition(" ")
        if word == "book" and blank:
            self.book = read_book(text)
            return "ok"
        numbers = read_numbers(text.split(" ") if blank else [])
        if not is_line(word, numbers) or self.book is None:
            raise NoLine("the desk doesn't know this row, or has no book yet")
        answer = ANSWERS[word]
        return answer(self.book, numbers)
