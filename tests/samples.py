"""Books, things and small helpers that several tests use."""

import random

GREAT = 10 ** 100 - 1

# Two rooms, two purses: 0 and 1 go round, 2 stays in room 0, 3 in room 1, 4 is like 3.
PAIR = (2, 2, (
    (0, 1, (-3, 1)),
    (1, 0, (2, 0)),
    (0, 0, (-1, -1)),
    (1, 1, (5, -2)),
    (1, 1, (5, -2)),
))

# Four rooms in a row with a way back, one purse that comes lowest in the middle.
VALLEY = (4, 1, (
    (0, 1, (4,)),
    (1, 2, (-9,)),
    (2, 3, (-1,)),
    (3, 0, (7,)),
    (3, 3, (1,)),
))

WIDE = (12, 6, tuple(
    (k % 12, (k + 1) % 12, (99, -99, 0, k - 30, 1, -1)) for k in range(60)
))


def within(inner, many, kind):
    """inner, laid so often within tuples or lists of one part."""
    for _ in range(many):
        inner = kind([inner])
    return inner


def any_things():
    """Things of every sort that "of any thing" names."""
    plain = [None, True, False, 0, 1, 2, 3, -1, GREAT, -GREAT, "", "book", " ~", "0 -> 1"]
    rows = [(), [], (1,), [1], (1, 1), [1, 1], (1, 1, 1), [1, 1, 1], (1, 1, ()), [1, 1, ()],
            (1, 1, []), (1, 1, (1,)), (1, 1, ((),)), (1, 1, (((),),)), (1, 1, "a"), (1, 1, None),
            ("a", "b", "c"), (None, None, None), (True, True, ()), (1, 1, ((0, 0, 0),)),
            (1, 1, ((0, 0, (0,), 0),)), (1, 1, ((0, 0),)), (1, 1, (None,)), (1, 1, ("abc",)),
            (1, 1, ((0, 0, "a"),)), (1, 1, ((0, 0, ("a",)),)), (1, 1, ((0, 0, (None,)),)),
            (1, 1, ((0, 0, ((),)),)), (GREAT, GREAT, ()), (0, ()), (0, (None,)), (0, ("a",)),
            (0, [0]), (0, "a"), (None, (0,)), ("0", (0,)), ((), ()), ([], []), (0, 0)]
    deep = [within(inner, 150, kind) for inner in (None, 0, "", ()) for kind in (tuple, list)]
    held = [(1, 1, thing) for thing in deep] + [(0, thing) for thing in deep]
    held += [(1, 1, (thing,)) for thing in deep] + [(1, 1, ((0, 0, thing),)) for thing in deep]
    return plain + rows + deep + held


def made_books(many, seed):
    """So many books, always the same ones for a seed."""
    source = random.Random(seed)
    return [made_book(source) for _ in range(many)]


def made_book(source):
    rooms = source.randint(1, 4)
    purses = source.randint(1, 3)
    ways = []
    for _ in range(source.randint(1, 9)):
        gains = tuple(source.randint(-3, 3) for _ in range(purses))
        ways.append((source.randrange(rooms), source.randrange(rooms), gains))
    return (rooms, purses, tuple(ways))


def made_walk(source, book, length):
    """A walk of at most so many ways, one at least."""
    ways = book[2]
    walk = [source.randrange(len(ways))]
    while len(walk) < length:
        onward = [k for k, way in enumerate(ways) if way[0] == ways[walk[-1]][1]]
        if not onward:
            break
        walk.append(source.choice(onward))
    return walk
