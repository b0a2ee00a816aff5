"""Of ways of one ring: a sum that none of them raises, or a round that lowers no purse."""

from fallsum.books import has_way, is_whole, put_to
from fallsum.errors import NoRing, NoWay
from fallsum.rings import rings_of
from fallsum.tables import Table


def is_ring(book, some):
    """Whether it is a rising list of ways all of which are of one ring of just these."""
    if not all([has_way(book, k) for k in some]) or not all([k < then for k, then in zip(some, some[1:])]):
        return False
    return rings_of(book, some) == [some]


def ring_table(book, some):
    """The table of ways of one ring; NoRing where they aren't."""
    if not is_ring(book, some):
        raise NoRing("the ways aren't all of one ring of just these")
    return Table(book, some)


def sum_or_round(book, some, k):
    """("sum", S), a sum kept by the ways by which way k falls, or ("round", R), a round with it; NoRing, NoWay."""
    table = ring_table(book, some)
    if not is_whole(k) or k not in some:
        raise NoWay("the way isn't one of these")
    counts = table.find_round([k])
    if counts is None:
        return ("sum", table.read_sum([k]))
    return ("round", counts)


def greatest(book, some):
    """(S, R), a sum by which every way falls that can, and a round with every other one, or None; NoRing."""
    table = ring_table(book, some)
    # No way of a round found falls by any sum, so the sum that is left at the end lowers all others.
    left = list(some)
    all_rounds = None
    while left:
        counts = table.find_round(left)
        if counts is None:
            return (table.read_sum(left), all_rounds)
        all_rounds = counts if all_rounds is None else put_to(all_rounds, counts)
        left = [k for k in left if counts[k] == 0]
    return (None, all_rounds)
