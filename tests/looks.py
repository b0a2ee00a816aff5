"""What is told is looked over here by the document's own words, without the package."""


def whole(thing):
    return type(thing) is int


def is_such_sum(book, thing):
    """Whether it is a sum of the book, point 10."""
    rooms, purses, _ = book
    if type(thing) is not tuple or len(thing) != 2:
        return False
    weights, heights = thing
    if type(weights) is not tuple or len(weights) != purses or type(heights) is not tuple or len(heights) != rooms:
        return False
    return all(whole(x) and x >= 0 for x in weights) and all(whole(x) for x in heights)


def fall_by(book, told, k):
    """By how much a way falls by a sum."""
    a, b, gains = book[2][k]
    return told[1][a] - told[1][b] - sum(x * y for x, y in zip(told[0], gains))


def is_such_round(book, counts, some):
    """Whether it is a round of these ways alone with no gain below 0, points 9 and 11."""
    rooms, purses, ways = book
    if type(counts) is not tuple or len(counts) != len(ways):
        return False
    if not all(whole(x) and x >= 0 for x in counts) or not any(counts):
        return False
    if any(count > 0 and k not in some for k, count in enumerate(counts)):
        return False
    for room in range(rooms):
        out_of = sum(count for count, way in zip(counts, ways) if way[0] == room)
        into = sum(count for count, way in zip(counts, ways) if way[1] == room)
        if out_of != into:
            return False
    return all(sum(count * way[2][p] for count, way in zip(counts, ways)) >= 0 for p in range(purses))


def led_to(book, some, k):
    """The ways of some to which a walk of ways of some leads from way k."""
    met, pending = set(), [k]
    while pending:
        last = pending.pop()
        onward = {then for then in some if book[2][then][0] == book[2][last][1]} - met
        met |= onward
        pending.extend(onward)
    return met


def rings_by_walks(book, some):
    """The rings as the document says them: which ways lead to one another."""
    leads = {k: led_to(book, some, k) for k in some}
    rings, placed = [], set()
    for k in some:
        if k in leads[k] and k not in placed:
            rings.append([other for other in some if other in leads[k] and k in leads[other]])
            placed.update(rings[-1])
    return rings


def are_such_layers(book, layers):
    """Whether these are layers, point 13: by taking off the list what is due, tuple by tuple."""
    left = list(layers)
    due = rings_by_walks(book, range(len(book[2])))
    while due:
        ring = due.pop()
        alike = [layer for layer in left if layer[0] == tuple(ring)]
        if len(alike) != 1:
            return False
        left.remove(alike[0])
        told = alike[0][1]
        falls = [fall_by(book, told, k) for k in ring]
        if not is_such_sum(book, told) or min(falls) < 0 or max(falls) < 1:
            return False
        due.extend(rings_by_walks(book, [k for k, by in zip(ring, falls) if by == 0]))
    return left == []
