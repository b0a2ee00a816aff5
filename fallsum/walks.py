"""Walks: lists of numbers of ways, each leading on from the one ahead."""

from fallsum.books import behind, has_way


def is_walk(book, some):
    """Whether a list of whole numbers is a walk of the book."""
    if not isinstance(some, list) or len(some) == 0:
        return False
    if not all([has_way(book, k) for k in some]):
        return False
    ways = book[2]
    return all([ways[ahead][1] == ways[k][0] for ahead, k in zip(some, some[1:])])


def ends_of(book, walk):
    """The room from which the walk leads, and that to which it leads."""
    ways = book[2]
    return (ways[walk[0]][0], ways[walk[-1]][1])


def gains_along(book, walk, p):
    """What each way of the walk in turn puts to purse p."""
    ways = book[2]
    return [ways[k][2][p] for k in walk]


def lowest_along(steps):
    """The lowest that a number comes to from 0 on by the steps, 0 at most."""
    number = lowest = 0
    for step in steps:
        number += step
        lowest = min(lowest, number)
    return lowest


def gain(book, walk):
    """The gains of the walk's ways put together, a tuple."""
    return tuple([sum(gains_along(book, walk, p)) for p in range(book[1])])


def need(book, walk):
    """For each purse the least number with which the walk can be done, a tuple."""
    return tuple([-lowest_along(gains_along(book, walk, p)) for p in range(book[1])])


def done(book, stand, walk):
    """The stand behind the walk, done from the stand; NoWay where it can't be done there."""
    reached = stand
    for k in walk:
        reached = behind(book, reached, k)
    return reached
