"""How often a way can be done from a stand, by a sum and a flow that come to one number."""

from fallsum.books import has_way
from fallsum.divisors import without_divisor
from fallsum.errors import NoWay
from fallsum.rings import rooms_reached
from fallsum.tables import Table


def ways_met(book, room):
    """The ways that a walk from the room has, whatever the purses, a rising list."""
    ways = book[2]
    reached = rooms_reached(book, list(range(len(ways))))[room]
    return [k for k, way in enumerate(ways) if reached[way[0]]]


def not_met(book):
    """What is told of a way that isn't met."""
    rooms, purses, ways = book
    return ("most", 0, 1, ((0,) * purses, (0,) * rooms), 1, (0,) * len(ways), 1)


def read_most(table, k):
    """What is told of way k by a table in which no free number raises its count."""
    counts = table.counts_now()
    n, d = without_divisor([counts[k], table.divisor])
    u_and_shares = without_divisor([table.divisor] + table.shares([k]))
    e_and_counts = without_divisor([table.divisor] + counts)
    return ("most", n, d, table.as_sum(u_and_shares[1:]), u_and_shares[0], tuple(e_and_counts[1:]), e_and_counts[0])


def how_often(book, stand, k):
    """("most", n, d, S, u, F, e), at most n over d times, or ("none", R), a round with way k; NoWay."""
    if not has_way(book, k):
        raise NoWay("the book has no way of this number")
    met = ways_met(book, stand[0])
    if k not in met:
        return not_met(book)
    table = Table(book, met, stand)
    counts = table.find_round([k])
    if counts is None:
        return read_most(table, k)
    return ("none", counts)
