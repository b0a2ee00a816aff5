"""The tree of a stand: of all walks from there the longest, or one that comes again no lower."""

from fallsum.books import behind, can_do
from fallsum.errors import TooMany

MOST_KNOTS = 2000


def is_no_lower(stand, ahead):
    """Whether a stand is no lower, in each purse, than one ahead of it in the same room."""
    if stand[0] != ahead[0]:
        return False
    for number, before in zip(stand[1], ahead[1]):
        if number < before:
            return False
    return True


class Knot:
    """A walk of the tree: the knot of all but its last way, this way, and the stand behind it."""

    def __init__(self, parent, way, stand):
        self.parent = parent
        self.way = way
        self.stand = stand

    def steps_round(self):
        """How many ways lead here from the last stand ahead, in this room, that isn't higher; 0 where none does."""
        steps = 1
        knot = self.parent
        while knot is not None:
            if is_no_lower(self.stand, knot.stand):
                return steps
            steps += 1
            knot = knot.parent
        return 0

    def walk(self):
        """The walk, a list, empty for the first knot."""
        ways = []
        knot = self
        while knot.parent is not None:
            ways.append(knot.way)
            knot = knot.parent
        return ways[::-1]


def branches(book, knot):
    """The knots of the walks that are one way longer, in the order of these ways."""
    return [Knot(knot, k, behind(book, knot.stand, k)) for k in can_do(book, knot.stand)]


def part_again(knot, steps):
    """What is told of a walk that comes again no lower, by its last ways, so many."""
    walk = knot.walk()
    return ("again", walk[:-steps], walk[-steps:])


def from_stand(book, stand, limit=MOST_KNOTS):
    """("ends", walk), the longest walk or None, or ("again", lead, loop); TooMany where the tree is too great."""
    again = None
    longest = Knot(None, None, stand)
    level = [longest]
    many = 1
    # Level by level, each in the order of its walks: so what is found first is the shortest and the first of these.
    while level:
        longest = level[0]
        onward = []
        for knot in level:
            if many > limit:
                raise TooMany(f"the tree has more than {limit} knots")
            steps = knot.steps_round()
            if steps == 0:
                fresh = branches(book, knot)
                many += len(fresh)
                onward.extend(fresh)
            elif again is None:
                again = part_again(knot, steps)
        level = onward
    if again is not None:
        return again
    return ("ends", longest.walk() if longest.parent is not None else None)
