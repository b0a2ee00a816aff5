"""Texts: a book written as rows, and read from them."""

from fallsum.books import MOST_PURSES, MOST_ROOMS, MOST_WAYS, is_between, is_way
from fallsum.errors import NoRow

BETWEEN_ROWS = " / "
FIGURES = "0123456789"
MOST_FIGURES = 100


def is_number(text):
    """Whether a text is a whole number, as books are written."""
    figures = text[1:] if text.startswith("-") else text
    if not is_between(len(figures), 1, MOST_FIGURES) or not all([sign in FIGURES for sign in figures]):
        return False
    return figures[0] != "0" or text == "0"


def read_numbers(words):
    """The whole numbers of which these are the texts, a list; None where one isn't."""
    if not all([is_number(word) for word in words]):
        return None
    return [int(word) for word in words]


def row_of_way(way):
    """The row of a way."""
    a, b, gains = way
    return " ".join([str(a), "->", str(b), ":"] + [str(more) for more in gains])


def book_text(book):
    """The text of a book."""
    rooms, purses, ways = book
    return BETWEEN_ROWS.join([f"rooms {rooms}", f"purses {purses}"] + [row_of_way(way) for way in ways])


def read_many(rows, at, word, most):
    """The number, from 1 on, behind the word in a row; NoRow where it isn't such a row."""
    words = rows[at].split(" ") if at < len(rows) else []
    numbers = read_numbers(words[1:])
    if words[:1] != [word] or numbers is None or len(numbers) != 1 or not is_between(numbers[0], 1, most):
        raise NoRow(at)
    return numbers[0]


def read_way(row):
    """The way of a row, wherever it leads; None where the row isn't such a one."""
    words = row.split(" ")
    if len(words) < 4 or words[1] != "->" or words[3] != ":":
        return None
    numbers = read_numbers(words[:1] + words[2:3] + words[4:])
    if numbers is None:
        return None
    return (numbers[0], numbers[1], tuple(numbers[2:]))


def read_book(text):
    """The book of a text; NoRow, its field row the number of the first row that no book has there."""
    rows = text.split(BETWEEN_ROWS)
    rooms = read_many(rows, 0, "rooms", MOST_ROOMS)
    purses = read_many(rows, 1, "purses", MOST_PURSES)
    ways = []
    for at, row in enumerate(rows[2:], start=2):
        way = read_way(row)
        if len(ways) == MOST_WAYS or not is_way(way, rooms, purses):
            raise NoRow(at)
        ways.append(way)
    return (rooms, purses, tuple(ways))
