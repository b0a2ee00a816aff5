"""Held sums: those that no way changes, and a least list of them."""

from fallsum.divisors import without_divisor
from fallsum.sums import fall


def is_held(book, tally):
    """Whether each way of the book falls by 0 by a tuple (weights, heights)."""
    return all([fall(book, tally, k) == 0 for k in range(len(book[2]))])


def falls_of(book, way):
    """By how much a way falls for each weight and then for each height, a list."""
    a, b, gains = way
    return [-more for more in gains] + [int(room == a) - int(room == b) for room in range(book[0])]


def cleared(row, by, place):
    """A row that has 0 at the place: so many times itself less another row, which hasn't 0 there."""
    if row[place] == 0:
        return row
    fresh = [by[place] * number - row[place] * more for number, more in zip(row, by)]
    return without_divisor(fresh) if any(fresh) else fresh


def settled_rows(rows, width):
    """Rows with the same held sums, by the last place that they settle: a dict, all others 0 at these places."""
    settled = {}
    # From the right: so a sum of the least list begins with a place that no row settles.
    for place in range(width - 1, -1, -1):
        using = [row for row in rows if row[place] != 0]
        if using:
            by = using[0]
            rows = [cleared(row, by, place) for row in rows if row != by]
            settled = {other: cleared(row, by, place) for other, row in settled.items()}
            settled[place] = by
    return settled


def row_from(settled, place, width):
    """The row of the least list that begins at this place, which no row settles."""
    scale = 1
    for at, row in settled.items():
        scale *= row[at]
    told = [0] * width
    told[place] = scale
    for at, row in settled.items():
        told[at] = -scale * row[place] // row[at]
    least = without_divisor(told)
    return least if least[place] > 0 else [-number for number in least]


def held(book):
    """The least list of held sums, tuples (weights, heights)."""
    rooms, purses, ways = book
    width = purses + rooms
    settled = settled_rows([falls_of(book, way) for way in ways], width)
    rows = [row_from(settled, place, width) for place in range(width) if place not in settled]
    return [(tuple(row[:purses]), tuple(row[purses:])) for row in rows]
