"""Told walks: walks told by parts and counts, added up and judged without going along."""

from fallsum.books import has_way, is_between, is_tuple_of, put_to
from fallsum.errors import NoWay, TooMany

MOST_PARTS = 2000
MOST_WITHIN = 20
# A hundred figures.
MOST_TIMES = 10 ** 50 * 10 ** 50 - 1
MOST_OPENED = 10000


def is_part(book, thing):
    """Whether thing is made as a told walk is, whatever lies in it."""
    if not isinstance(thing, tuple) or len(thing) == 0:
        return False
    word = thing[0]
    if word == "way":
        return len(thing) == 2 and has_way(book, thing[1])
    if word == "row":
        return len(thing) == 2 and isinstance(thing[1], tuple) and len(thing[1]) > 0
    return word == "times" and is_tuple_of(thing, 3) and is_between(thing[1], 1, MOST_TIMES)


def inner_parts(part):
    """The parts right within a part, a list."""
    if part[0] == "way":
        return []
    if part[0] == "row":
        return list(part[1])
    return [part[2]]


def is_made_of_parts(book, thing):
    """Whether thing is parts within parts, within the bounds, wherever they lead."""
    pending = [(thing, 1)]
    many = 1
    while pending:
        part, within = pending.pop()
        if within > MOST_WITHIN or not is_part(book, part):
            return False
        inner = inner_parts(part)
        # Counted before they are looked at: one row may lie a great many times in another.
        many += len(inner)
        if many > MOST_PARTS:
            return False
        pending.extend([(more, within + 1) for more in inner])
    return True


def ends_of_row(ends):
    """The ends of parts in a row, each with these ends, or None where one doesn't lead on or has none."""
    if None in ends:
        return None
    if not all([ahead[1] == then[0] for ahead, then in zip(ends, ends[1:])]):
        return None
    return (ends[0][0], ends[-1][1])


def told_ends(book, told):
    """The room from which the told walk leads, and that to which it leads; None where a part doesn't lead on."""
    if told[0] == "way":
        a, b, gains = book[2][told[1]]
        return (a, b)
    if told[0] == "row":
        return ends_of_row([told_ends(book, part) for part in told[1]])
    ends = told_ends(book, told[2])
    if ends is None or (told[1] > 1 and ends[0] != ends[1]):
        return None
    return ends


def is_told(book, thing):
    """Whether any thing is a told walk of the book."""
    return is_made_of_parts(book, thing) and told_ends(book, thing) is not None


def told_length(told):
    """How many ways the told walk has."""
    if told[0] == "way":
        return 1
    if told[0] == "row":
        return sum([told_length(part) for part in told[1]])
    return told[1] * told_length(told[2])


def over_and_over(gains, needs, many):
    """The gain and the need of a walk with these, done so many times."""
    whole = tuple([many * more for more in gains])
    # A purse that each turn lowers comes lowest in the last one, any other in the first one.
    lowest = tuple([least - (many - 1) * min(more, 0) for least, more in zip(needs, gains)])
    return (whole, lowest)


def gain_and_need(book, told):
    """The gain and the need of the told walk."""
    if told[0] == "way":
        gains = book[2][told[1]][2]
        return (gains, tuple([max(0, -more) for more in gains]))
    if told[0] == "times":
        gains, needs = gain_and_need(book, told[2])
        return over_and_over(gains, needs, told[1])
    gains = needs = (0,) * book[1]
    for part in told[1]:
        then, least = gain_and_need(book, part)
        needs = tuple([max(ahead, now - more) for ahead, now, more in zip(needs, least, gains)])
        gains = put_to(gains, then)
    return (gains, needs)


def told_gain(book, told):
    """The gains of the told walk's ways put together, a tuple."""
    gains, needs = gain_and_need(book, told)
    return gains


def told_need(book, told):
    """For each purse the least number with which the told walk can be done, a tuple."""
    gains, needs = gain_and_need(book, told)
    return needs


def told_done(book, stand, told):
    """The stand behind the told walk, done from the stand; NoWay where it can't be done there."""
    room, numbers = stand
    first, last = told_ends(book, told)
    gains, needs = gain_and_need(book, told)
    if room != first or not all([number >= least for number, least in zip(numbers, needs)]):
        raise NoWay("the told walk can't be done at this stand")
    return (last, put_to(numbers, gains))


def ways_along(told):
    """The numbers of the told walk's ways, one behind the other, a list."""
    if told[0] == "way":
        return [told[1]]
    if told[0] == "times":
        return ways_along(told[2]) * told[1]
    ways = []
    for part in told[1]:
        ways.extend(ways_along(part))
    return ways


def opened(told, limit=MOST_OPENED):
    """The walk for which the told walk stands, a list; TooMany where it has more ways than the limit."""
    if told_length(told) > limit:
        raise TooMany(f"the told walk has more than {limit} ways")
    return ways_along(told)
