"""Of ways of one ring and a purse: a sum above which it never comes, or a round that raises it."""

from fallsum.books import is_between
from fallsum.either import ring_table
from fallsum.errors import NoPurse


def kept_or_raised(book, some, p):
    """("kept", S), S with a weight for purse p, or ("raised", R), R with a gain of it; NoRing, NoPurse."""
    table = ring_table(book, some)
    if not is_between(p, 0, book[1] - 1):
        raise NoPurse("the book has no such purse")
    wanted = [table.first_purse + p]
    counts = table.find_round(wanted)
    if counts is None:
        return ("kept", table.read_sum(wanted))
    return ("raised", counts)
