"""Rounds: how often each way is counted, so that as many lead into each room as out of it."""

from fallsum.books import are_numbers, is_whole
from fallsum.errors import NoRound
from fallsum.rings import rings_of


def is_balanced(book, counts):
    """Whether as many ways lead into each room as out of it, counted so often."""
    rooms, purses, ways = book
    more = [0] * rooms
    for (a, b, gains), count in zip(ways, counts):
        more[a] -= count
        more[b] += count
    return not any(more)


def is_round(book, counts):
    """Whether a tuple of whole numbers, one for each way, is a round."""
    return are_numbers(counts, len(book[2])) and any(counts) and is_balanced(book, counts)


def round_gain(book, counts):
    """Each way's gains as often as counted, put together, a tuple."""
    rooms, purses, ways = book
    return tuple([sum([count * way[2][p] for count, way in zip(counts, ways)]) for p in range(purses)])


def parts_of(book, counts):
    """The rings of the ways with a count above 0, a list of rising lists."""
    return rings_of(book, [k for k, count in enumerate(counts) if count > 0])


def round_of(book, walk):
    """How often a closed walk has each way, a tuple."""
    counts = [0] * len(book[2])
    for k in walk:
        counts[k] += 1
    return tuple(counts)


def short_turn(book, counts):
    """A closed walk of ways with a count above 0 that leads from no room twice."""
    ways = book[2]
    onward = {ways[k][0]: k for k, count in enumerate(counts) if count > 0}
    room = min(onward)
    places = {}
    walk = []
    while room not in places:
        places[room] = len(walk)
        walk.append(onward[room])
        room = ways[onward[room]][1]
    return walk[places[room]:]


def turns_of(book, counts):
    """Short closed walks, and how often each, that have together just the counts: a list of tuples."""
    left = list(counts)
    turns = []
    while any(left):
        walk = short_turn(book, left)
        # As often as can be, so a way is used up each time: no more turns than ways.
        many = min([left[k] for k in walk])
        for k in walk:
            left[k] -= many
        turns.append((walk, many))
    return turns


def lay_turn(book, row, rooms, turn):
    """Lay a turn into a row of parts at a room that both come by; whether there is one.

    The rooms are those at which the parts begin, and behind them that at which the last one ends.
    """
    walk, many = turn
    starts = [book[2][k][0] for k in walk]
    common = [at for at, room in enumerate(starts) if room in rooms]
    if not common:
        return False
    first = common[0]
    place = rooms.index(starts[first])
    parts = [("way", k) for k in walk[first:] + walk[:first]]
    begins = starts[first:] + starts[:first]
    if many > 1:
        # Only the first time way by way, as other turns may have to be laid in between.
        parts.append(("times", many - 1, ("row", tuple(parts))))
        begins.append(starts[first])
    row[place:place] = parts
    rooms[place:place] = begins
    return True


def walk_of(book, counts, room):
    """A told walk with both ends in the room whose round is told by counts; NoRound where there is none."""
    if len(parts_of(book, counts)) != 1:
        raise NoRound("the round isn't of one part")
    if not is_whole(room) or room not in [way[0] for way, count in zip(book[2], counts) if count > 0]:
        raise NoRound("no way of the round leads from this room")
    row = []
    rooms = [room]
    pending = turns_of(book, counts)
    while pending:
        # A turn that has no room in common with the row yet has one later, as the round is of one part.
        later = []
        for turn in pending:
            if not lay_turn(book, row, rooms, turn):
                later.append(turn)
        pending = later
    return ("row", tuple(row))
