"""Books, things and small helpers that several tests use."""

import random

from tests.looks import rings_by_walks

GREAT = 10 ** 100 - 1

# Two rooms, two purses: 0 and 1 go round, 2 stays in room 0, 3 in room 1, 4 is like 3.
PAIR = (2, 2, (
    (0, 1, (-3, 1)),
    (1, 0, (2, 0)),
    (0, 0, (-1, -1)),
    (1, 1, (5, -2)),
    (1, 1, (5, -2)),
))

# Four rooms in a row with a way back, one purse that comes lowest in the middle.
VALLEY = (4, 1, (
    (0, 1, (4,)),
    (1, 2, (-9,)),
    (2, 3, (-1,)),
    (3, 0, (7,)),
    (3, 3, (1,)),
))

# Two rooms: 0 gives the first purse for the second, 1 the second for the first, 2 and 3 lead there and back at a cost.
SWAP = (2, 3, (
    (0, 0, (-1, 1, 0)),
    (1, 1, (1, -1, 0)),
    (0, 1, (0, 0, -1)),
    (1, 0, (0, 0, 0)),
))

# The ring of rooms 0 and 1, a way on, the ring of room 2, and room 3 to which no way leads.
TWO = (4, 1, (
    (0, 1, (-1,)),
    (1, 0, (0,)),
    (1, 2, (5,)),
    (2, 2, (0,)),
    (3, 0, (0,)),
))

WIDE = (12, 6, tuple(
    (k % 12, (k + 1) % 12, (99, -99, 0, k - 30, 1, -1)) for k in range(60)
))


def within(inner, many, kind):
    """inner, laid so often within tuples or lists of one part."""
    for _ in range(many):
        inner = kind([inner])
    return inner


def any_things():
    """Things of every sort that "of any thing" names."""
    plain = [None, True, False, 0, 1, 2, 3, -1, GREAT, -GREAT, "", "book", " ~", "0 -> 1"]
    rows = [(), [], (1,), [1], (1, 1), [1, 1], (1, 1, 1), [1, 1, 1], (1, 1, ()), [1, 1, ()],
            (1, 1, []), (1, 1, (1,)), (1, 1, ((),)), (1, 1, (((),),)), (1, 1, "a"), (1, 1, None),
            ("a", "b", "c"), (None, None, None), (True, True, ()), (1, 1, ((0, 0, 0),)),
            (1, 1, ((0, 0, (0,), 0),)), (1, 1, ((0, 0),)), (1, 1, (None,)), (1, 1, ("abc",)),
            (1, 1, ((0, 0, "a"),)), (1, 1, ((0, 0, ("a",)),)), (1, 1, ((0, 0, (None,)),)),
            (1, 1, ((0, 0, ((),)),)), (GREAT, GREAT, ()), (0, ()), (0, (None,)), (0, ("a",)),
            (0, [0]), (0, "a"), (None, (0,)), ("0", (0,)), ((), ()), ([], []), (0, 0)]
    deep = [within(inner, 150, kind) for inner in (None, 0, "", ()) for kind in (tuple, list)]
    held = [(1, 1, thing) for thing in deep] + [(0, thing) for thing in deep]
    held += [(1, 1, (thing,)) for thing in deep] + [(1, 1, ((0, 0, thing),)) for thing in deep]
    return plain + rows + deep + held


def made_books(many, seed):
    """So many books, always the same ones for a seed."""
    source = random.Random(seed)
    return [made_book(source) for _ in range(many)]


def made_book(source):
    rooms = source.randint(1, 4)
    purses = source.randint(1, 3)
    return book_by_chance(source, rooms, purses, source.randint(1, 9), lambda: source.randint(-3, 3))


def book_by_chance(source, rooms, purses, many, gain):
    """A book of so many ways between any rooms, each gain drawn by a function."""
    ways = []
    for _ in range(many):
        gains = tuple(gain() for _ in range(purses))
        ways.append((source.randrange(rooms), source.randrange(rooms), gains))
    return (rooms, purses, tuple(ways))


def made_walk(source, book, length):
    """A walk of at most so many ways, one at least."""
    ways = book[2]
    walk = [source.randrange(len(ways))]
    while len(walk) < length:
        onward = [k for k, way in enumerate(ways) if way[0] == ways[walk[-1]][1]]
        if not onward:
            break
        walk.append(source.choice(onward))
    return walk


def wide_books(many, seed):
    """So many books at the bounds, always the same ones for a seed: from such that end to such that never do."""
    source = random.Random(seed)
    return [wide_book(source, least=-99, most=most) for most in [99, 80, 70, 65, 60, 55, 50, 20] * many][:many]


def wide_book(source, least, most):
    """Twelve rooms, six purses, sixty ways, gains within these."""
    return book_by_chance(source, 12, 6, 60, lambda: source.randint(least, most))


def made_told(source, book, room, within):
    """A told walk from the room, at most so many within one another; None where no way leads from there."""
    onward = [k for k, way in enumerate(book[2]) if way[0] == room]
    if not onward:
        return None
    sort = source.choice(("way", "row", "row", "times", "times")) if within > 1 else "way"
    if sort == "way":
        return ("way", source.choice(onward))
    if sort == "row":
        return made_row(source, book, room, within)
    part = made_told(source, book, room, within - 1)
    first, last = told_rooms(book, part)
    return ("times", source.randint(1, 4) if first == last else 1, part)


def made_row(source, book, room, within):
    parts = []
    for _ in range(source.randint(1, 4)):
        part = made_told(source, book, room, within - 1)
        if part is None:
            break
        parts.append(part)
        room = told_rooms(book, part)[1]
    return ("row", tuple(parts))


def told_rooms(book, told):
    """The ends of a told walk, by its first way and its last one."""
    first = last = told
    while first[0] != "way":
        first = first[1][0] if first[0] == "row" else first[2]
    while last[0] != "way":
        last = last[1][-1] if last[0] == "row" else last[2]
    return (book[2][first[1]][0], book[2][last[1]][1])


def spread(told):
    """The walk for which a told walk stands, part by part."""
    if told[0] == "way":
        return [told[1]]
    if told[0] == "row":
        return [k for part in told[1] for k in spread(part)]
    return [k for _ in range(told[1]) for k in spread(told[2])]


def times_each_way(book, told):
    """How often a told walk has each way, a list, without going along."""
    if told[0] == "way":
        return [int(k == told[1]) for k in range(len(book[2]))]
    if told[0] == "times":
        return [told[1] * many for many in times_each_way(book, told[2])]
    return [sum(column) for column in zip(*(times_each_way(book, part) for part in told[1]))]


def row_of(*numbers):
    """The told walk of these ways, one behind the other."""
    return ("row", tuple(("way", k) for k in numbers))


def made_rounds(source, book, many):
    """Up to so many rounds of the book, each of some closed walks, each of these so often as may be."""
    rounds = []
    for _ in range(many):
        counts = [0] * len(book[2])
        for _ in range(source.randint(1, 12)):
            often = source.choice((1, 2, source.randint(3, 99), source.randint(1, 10 ** 98)))
            for k in made_turn(source, book):
                counts[k] += often
        if any(counts):
            rounds.append(tuple(counts))
    return rounds


def made_turn(source, book):
    """A closed walk, or none where chance finds none."""
    walk = made_walk(source, book, 40)
    rooms = [book[2][k][0] for k in walk]
    for at in range(len(walk)):
        last = book[2][walk[at]][1]
        if last in rooms[:at + 1]:
            return walk[rooms.index(last):at + 1]
    return []


def tight_books(many, seed):
    """So many books at the bounds, always the same ones for a seed: hardly a round of them gains much or loses much."""
    source = random.Random(seed)
    makers = (drifting_gains, small_gains, weighed_gains, layered_gains)
    return [tight_book(source, makers[at % 4](source)) for at in range(many)]


def tight_book(source, gains_of):
    ways = []
    for k in range(60):
        a = k % 12
        b = (a + 1) % 12 if k < 12 else source.choice((a, source.randrange(12)))
        ways.append((a, b, tuple(gains_of(a, b))))
    return (12, 6, tuple(ways))


def drifting_gains(source):
    heights = [[source.randint(-40, 40) for _ in range(12)] for _ in range(6)]
    return lambda a, b: [level[a] - level[b] + source.choice((0, 0, 0, -1, 1)) for level in heights]


def small_gains(source):
    return lambda a, b: [source.choice((-1, -1, -1, 0, 0, 1)) for _ in range(6)]


def weighed_gains(source):
    """Rounds lose one thing, a weighed one, by little."""
    weights = [source.randint(1, 4) for _ in range(5)]

    def gains_of(a, b):
        gains = [source.randint(-4, 4) for _ in range(5)]
        return gains + [-sum(x * y for x, y in zip(weights, gains)) - source.choice((0, 0, 1))]
    return gains_of


def layered_gains(source):
    """In each room one purse is given for the next, from room to room the last one is lowered."""
    def gains_of(a, b):
        gains = [0] * 6
        if a != b:
            gains[5] = -source.randint(1, 99)
        else:
            gains[a % 5] = -source.randint(1, 3)
            gains[(a + 1) % 5] = source.randint(3, 99)
        return gains
    return gains_of


def sparse_books(many, seed):
    """So many small books, always the same ones for a seed, of which not a few have layers within layers."""
    source = random.Random(seed)
    books = []
    for _ in range(many):
        rooms, purses, many = source.randint(2, 5), source.randint(2, 4), source.randint(4, 12)
        books.append(book_by_chance(source, rooms, purses, many, lambda: source.choice((-1, -1, 0, 0, 0, 1))))
    return books


def some_rings(source, book):
    """Rings of the book, and rings of some of its ways."""
    every = range(len(book[2]))
    rings = rings_by_walks(book, every)
    for _ in range(3):
        rings += rings_by_walks(book, [k for k in every if source.random() < 0.7])
    return rings


def made_word(source, purses, puts, deepest):
    """A word of so many puts, at most so many within one another."""
    sort = source.choice(("row", "row", "either", "either", "again")) if deepest > 2 else "row"
    if sort == "again":
        return ("again", made_word(source, purses, puts, deepest - 1))
    if puts == 1 and (deepest == 1 or source.random() < 0.7):
        return ("put", tuple(source.choice((source.randint(-3, 3), source.randint(-99, 99))) for _ in range(purses)))
    parts = []
    while puts > 0:
        many = source.randint(1, puts) if deepest > 2 else 1
        parts.append(made_word(source, purses, many, deepest - 1))
        puts -= many
    return (sort, tuple(parts))
