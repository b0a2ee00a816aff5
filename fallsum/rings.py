"""Rings: ways by which a walk leads round."""


def rooms_reached(book, some):
    """For each room a list of truths: to which rooms ways of these lead from it, itself always counted."""
    rooms, purses, ways = book
    leads = [[room == other for other in range(rooms)] for room in range(rooms)]
    for k in some:
        a, b, gains = ways[k]
        leads[a][b] = True
    for middle in range(rooms):
        for room in range(rooms):
            if leads[room][middle]:
                leads[room] = [now or then for now, then in zip(leads[room], leads[middle])]
    return leads


def rings_of(book, some):
    """The rings of a rising list of ways: rising lists, in the order of their first numbers."""
    rooms, purses, ways = book
    leads = rooms_reached(book, some)
    rings = {}
    for k in some:
        a, b, gains = ways[k]
        if leads[b][a]:
            # The least of the ring's rooms stands for the ring.
            least = min([room for room in range(rooms) if leads[a][room] and leads[room][a]])
            rings.setdefault(least, []).append(k)
    return list(rings.values())
