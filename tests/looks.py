"""What is told is looked over here by the document's own words, without the package."""


def whole(thing):
    return type(thing) is int


def is_such_sum(book, thing):
    """Whether it is a sum of the book, point 10."""
    rooms, purses, _ = book
    if type(thing) is not tuple or len(thing) != 2:
        return False
    weights, heights = thing
    if type(weights) is not tuple or len(weights) != purses or type(heights) is not tuple or len(heights) != rooms:
        return False
    return all(whole(x) and x >= 0 for x in weights) and all(whole(x) for x in heights)


def fall_by(book, told, k):
    """By how much a way falls by a sum."""
    a, b, gains = book[2][k]
    return told[1][a] - told[1][b] - sum(x * y for x, y in zip(told[0], gains))


def is_such_round(book, counts, some):
    """Whether it is a round of these ways alone with no gain below 0, points 9 and 11."""
    rooms, purses, ways = book
    if type(counts) is not tuple or len(counts) != len(ways):
        return False
    if not all(whole(x) and x >= 0 for x in counts) or not any(counts):
        return False
    if any(count > 0 and k not in some for k, count in enumerate(counts)):
        return False
    for room in range(rooms):
        out_of = sum(count for count, way in zip(counts, ways) if way[0] == room)
        into = sum(count for count, way in zip(counts, ways) if way[1] == room)
        if out_of != into:
            return False
    return all(sum(count * way[2][p] for count, way in zip(counts, ways)) >= 0 for p in range(purses))


def led_to(book, some, k):
    """The ways of some to which a walk of ways of some leads from way k."""
    met, pending = set(), [k]
    while pending:
        last = pending.pop()
        onward = {then for then in some if book[2][then][0] == book[2][last][1]} - met
        met |= onward
        pending.extend(onward)
    return met


def rings_by_walks(book, some):
    """The rings as the document says them: which ways lead to one another."""
    leads = {k: led_to(book, some, k) for k in some}
    rings, placed = [], set()
    for k in some:
        if k in leads[k] and k not in placed:
            rings.append([other for other in some if other in leads[k] and k in leads[other]])
            placed.update(rings[-1])
    return rings


def are_such_layers(book, layers):
    """Whether these are layers, point 13: by taking off the list what is due, tuple by tuple."""
    left = list(layers)
    due = rings_by_walks(book, range(len(book[2])))
    while due:
        ring = due.pop()
        alike = [layer for layer in left if layer[0] == tuple(ring)]
        if len(alike) != 1:
            return False
        left.remove(alike[0])
        told = alike[0][1]
        falls = [fall_by(book, told, k) for k in ring]
        if not is_such_sum(book, told) or min(falls) < 0 or max(falls) < 1:
            return False
        due.extend(rings_by_walks(book, [k for k, by in zip(ring, falls) if by == 0]))
    return left == []


def met_from(book, room):
    """The ways that a walk from the room has, whatever the purses, point 16."""
    met, rooms = set(), [room]
    while rooms:
        at = rooms.pop()
        for k, way in enumerate(book[2]):
            if way[0] == at and k not in met:
                met.add(k)
                rooms.append(way[1])
    return sorted(met)


def gains_of_counts(book, counts):
    """Each way's gains as often as counted, put together, a list."""
    return [sum(count * way[2][p] for count, way in zip(counts, book[2])) for p in range(book[1])]


def stands_behind(book, stand):
    """The ways that can be done at a stand and the stands behind them, point 5, a list of tuples."""
    told = []
    for k, (a, b, gains) in enumerate(book[2]):
        numbers = tuple(x + y for x, y in zip(stand[1], gains))
        if a == stand[0] and min(numbers) >= 0:
            told.append((k, (b, numbers)))
    return told


def most_along(book, stand, counted, limit):
    """How many of the counted ways, at most, a walk from the stand of a book that ends has.

    None where more stands are met than the limit.
    """
    onward, most, pending = {}, {}, [stand]
    while pending:
        now = pending[-1]
        if now not in onward:
            onward[now] = stands_behind(book, now)
            if len(onward) > limit:
                return None
        later = [then for _, then in onward[now] if then not in most]
        if later:
            pending.extend(later)
            continue
        pending.pop()
        most[now] = max([int(k in counted) + most[then] for k, then in onward[now]], default=0)
    return most[stand]


def grown_tree(book, stand, most):
    """The knots of a stand's tree, point 18: tuples (walk, stands, place), the place of the last stand ahead at which
    the branch ends, or None; None where there are more knots than most.
    """
    knots, at = [([], [stand])], 0
    told = []
    while at < len(knots):
        if len(knots) > most:
            return None
        walk, stands = knots[at]
        at += 1
        room, numbers = stands[-1]
        ahead = [
            place for place, (other, before) in enumerate(stands[:-1])
            if other == room and all(x >= y for x, y in zip(numbers, before))
        ]
        told.append((walk, stands, ahead[-1] if ahead else None))
        if not ahead:
            knots += [(walk + [k], stands + [then]) for k, then in stands_behind(book, stands[-1])]
    return told


def told_of_tree(book, stand, limit):
    """What is told of a stand by its tree; None where it has more knots than the limit."""
    knots = grown_tree(book, stand, limit)
    if knots is None:
        return None
    again = [(len(walk), walk, place) for walk, _, place in knots if place is not None]
    if again:
        _, walk, place = min(again)
        return ("again", walk[:place], walk[place:])
    _, walk = min((-len(walk), walk) for walk, _, _ in knots)
    return ("ends", walk or None)
