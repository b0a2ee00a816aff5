"""A line or a square: how the most steps of a book that ends rise with the greatest purse."""

from fallsum.books import put_to
from fallsum.either import greatest
from fallsum.ends import ends, rings_of_all
from fallsum.errors import NoEnd
from fallsum.rings import rooms_reached
from fallsum.rounds import parts_of, walk_of
from fallsum.toldwalks import told_need
from fallsum.walks import need


def in_order(book, sums):
    """The tuples (ways, S), each ahead of all to which a walk leads from it."""
    ways = book[2]
    leads = rooms_reached(book, list(range(len(ways))))
    # From a ring that leads to another one more rooms are reached than from that, which doesn't lead back.
    return sorted(sums, key=lambda part: -sum(leads[ways[part[0][0]][0]]))


def way_between(book, some, first, last):
    """A shortest walk of some of the ways from a room to one to which they lead, empty where it is the same."""
    ways = book[2]
    walks = {first: []}
    pending = [first]
    while last not in walks:
        onward = []
        for k in some:
            a, b, gains = ways[k]
            if a in pending and b not in walks:
                walks[b] = walks[a] + [k]
                onward.append(b)
        pending = onward
    return walks[last]


def turns_by(book, ring, counts):
    """The tuples (walk, link) of a round of ways of the ring, one for each of its parts."""
    parts = parts_of(book, counts)
    begins = [book[2][part[0]][0] for part in parts]
    turns = []
    for part, room, then in zip(parts, begins, begins[1:] + begins[:1]):
        alone = tuple([count if k in part else 0 for k, count in enumerate(counts)])
        turns.append((walk_of(book, alone, room), way_between(book, ring, room, then)))
    return turns


def bound_of(book, turns):
    """A number C such that the turns, turned k times, need at most C * k in each purse."""
    needs = (0,) * book[1]
    for told, link in turns:
        needs = put_to(put_to(needs, told_need(book, told)), need(book, link))
    # One behind the other, walks need no more than their needs together. Turned k times, each walk is done k times
    # in a turn, and all walks together lower no purse; so only the links lower one from turn to turn.
    return max(needs)


def line_or_square(book):
    """("line", sums), or ("square", turns, C), of a book that ends; NoEnd where it doesn't."""
    if ends(book)[0] == "never":
        raise NoEnd("the book goes on for ever")
    sums = []
    for ring in rings_of_all(book):
        tally, counts = greatest(book, ring)
        if counts is not None:
            turns = turns_by(book, ring, counts)
            return ("square", turns, bound_of(book, turns))
        sums.append((tuple(ring), tally))
    return ("line", in_order(book, sums))


def turned(turns, k):
    """The told walk of tuples (told walk, link), turned k times."""
    parts = []
    for told, link in turns:
        parts.append(("times", k, told))
        if link:
            parts.append(("row", tuple([("way", way) for way in link])))
    return ("times", k, ("row", tuple(parts)))


def steps_at_most(book, sums, N):
    """The most steps that a walk from a stand with no number above N has, by the sums of a line."""
    rooms, purses, ways = book
    most_gain = max([0] + [max(gains) for a, b, gains in ways])
    most = N + most_gain * (rooms - 1)
    steps = rooms - 1
    for some, (weights, heights) in sums:
        levels = [heights[ways[k][0]] for k in some]
        more = sum(weights) * most + max(levels) - min(levels)
        steps += more
        most += most_gain * more
    return steps
