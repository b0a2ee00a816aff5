"""Sums: weights for the purses and heights for the rooms, by which ways fall or rise."""

from fallsum.books import are_numbers, is_tuple_of, is_whole, put_to


def is_sum(book, thing):
    """Whether any thing is a sum of the book."""
    if not is_tuple_of(thing, 2):
        return False
    weights, heights = thing
    rooms, purses, ways = book
    return are_numbers(weights, purses) and is_tuple_of(heights, rooms) and all([is_whole(part) for part in heights])


def weighed(weights, numbers):
    """Each number times its weight, together."""
    return sum([weight * number for weight, number in zip(weights, numbers)])


def worth(tally, stand):
    """The worth of a sum at a stand."""
    weights, heights = tally
    room, numbers = stand
    return heights[room] + weighed(weights, numbers)


def fall(book, tally, k):
    """By how much way k falls by a sum."""
    weights, heights = tally
    a, b, gains = book[2][k]
    return heights[a] - heights[b] - weighed(weights, gains)


def is_kept(book, tally, some):
    """Whether none of the ways falls by less than 0 by a sum."""
    return all([fall(book, tally, k) >= 0 for k in some])


def falling(book, tally, some):
    """Those of the ways that fall by more than 0 by a sum, a rising list."""
    return [k for k in some if fall(book, tally, k) > 0]


def together(one, other):
    """Two sums put together, a sum."""
    return (put_to(one[0], other[0]), put_to(one[1], other[1]))
