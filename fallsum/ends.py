"""Whether a book ends, by layers of sums, or goes on for ever, by a walk that comes back no lower."""

from fallsum.books import has_way
from fallsum.either import greatest
from fallsum.rings import rings_of
from fallsum.rounds import walk_of
from fallsum.sums import falling, is_kept, is_sum
from fallsum.toldwalks import told_ends, told_gain, told_need


def rings_of_all(book):
    """The rings of the book."""
    return rings_of(book, list(range(len(book[2]))))


def rings_left(book, ways, tally):
    """The rings of those of the ways that don't fall by the sum."""
    gone = falling(book, tally, ways)
    return rings_of(book, [k for k in ways if k not in gone])


def never(book, counts, room):
    """What is told of a book with a round of one part, with no gain below 0, that comes by the room."""
    told = walk_of(book, counts, room)
    return ("never", told, (room, told_need(book, told)))


def ends(book):
    """("ends", layers), or ("never", P, stand) with a told walk that can be done there for ever."""
    layers = []
    pending = rings_of_all(book)
    while pending:
        ring = pending.pop()
        tally, counts = greatest(book, ring)
        if tally is None:
            return never(book, counts, book[2][ring[0]][0])
        layers.append((tuple(ring), tally))
        pending.extend(rings_left(book, ring, tally))
    return ("ends", layers)


def is_layer(book, ways, tally):
    """Whether the sum is kept by the ways and one of them falls by it."""
    if not all([has_way(book, k) for k in ways]) or not is_sum(book, tally):
        return False
    return is_kept(book, tally, ways) and len(falling(book, tally, ways)) > 0


def are_layers(book, layers):
    """Whether a list of tuples (a tuple of whole numbers, a sum) is layers by which the book ends."""
    if not all([is_layer(book, ways, tally) for ways, tally in layers]):
        return False
    tallies = {ways: tally for ways, tally in layers}
    pending = rings_of_all(book)
    met = 0
    while pending:
        ring = tuple(pending.pop())
        if ring not in tallies:
            return False
        met += 1
        pending.extend(rings_left(book, ring, tallies[ring]))
    # Rings told here are never alike, as in each layer a way falls: so none is left out, doubled or too many.
    return met == len(layers)


def goes_on(book, told, stand):
    """Whether the told walk is closed, has no gain below 0 and can be done at the stand."""
    room, numbers = stand
    if told_ends(book, told) != (room, room):
        return False
    if min(told_gain(book, told)) < 0:
        return False
    return all([number >= least for number, least in zip(numbers, told_need(book, told))])
