"""Books and stands: what they are, and the ways that can be done at a stand."""

from fallsum.errors import NoWay

MOST_ROOMS = 12
MOST_PURSES = 6
MOST_WAYS = 60
MOST_GAIN = 99


def is_whole(thing):
    """Whether thing is a whole number."""
    # A truth is an int to Python, but no whole number to the document.
    return isinstance(thing, int) and not isinstance(thing, bool)


def is_between(thing, least, most):
    """Whether thing is a whole number from least to most."""
    return is_whole(thing) and least <= thing <= most


def is_tuple_of(thing, many):
    """Whether thing is a tuple of so many parts."""
    return isinstance(thing, tuple) and len(thing) == many


def are_gains(thing, purses):
    """Whether thing is the gains of a way in a book of so many purses."""
    return is_tuple_of(thing, purses) and all([is_between(part, -MOST_GAIN, MOST_GAIN) for part in thing])


def are_numbers(thing, many):
    """Whether thing is a tuple of so many whole numbers from 0 on."""
    return is_tuple_of(thing, many) and all([is_whole(part) and part >= 0 for part in thing])


def is_way(thing, rooms, purses):
    """Whether thing is a way of a book of so many rooms and purses."""
    if not is_tuple_of(thing, 3):
        return False
    a, b, gains = thing
    return is_between(a, 0, rooms - 1) and is_between(b, 0, rooms - 1) and are_gains(gains, purses)


def is_book(thing):
    """Whether any thing is a book."""
    if not is_tuple_of(thing, 3):
        return False
    rooms, purses, ways = thing
    if not is_between(rooms, 1, MOST_ROOMS) or not is_between(purses, 1, MOST_PURSES):
        return False
    if not isinstance(ways, tuple) or len(ways) > MOST_WAYS:
        return False
    return all([is_way(way, rooms, purses) for way in ways])


def is_stand(book, thing):
    """Whether any thing is a stand of the book."""
    if not is_tuple_of(thing, 2):
        return False
    rooms, purses, ways = book
    room, numbers = thing
    return is_between(room, 0, rooms - 1) and are_numbers(numbers, purses)


def has_way(book, k):
    """Whether k is the number of a way of the book."""
    # Python would take a number below 0 as a place from the end.
    return is_between(k, 0, len(book[2]) - 1)


def put_to(numbers, gains):
    """The numbers behind the gains, some perhaps below 0."""
    return tuple([number + more for number, more in zip(numbers, gains)])


def leads_on(way, stand):
    """Whether the way can be done at the stand."""
    a, b, gains = way
    room, numbers = stand
    return a == room and all([number >= 0 for number in put_to(numbers, gains)])


def can_do(book, stand):
    """The numbers of the ways that can be done at the stand, a rising list."""
    return [k for k, way in enumerate(book[2]) if leads_on(way, stand)]


def behind(book, stand, k):
    """The stand behind way k, done at the stand; NoWay where it can't be done there."""
    if not has_way(book, k):
        raise NoWay("the book has no way of this number")
    way = book[2][k]
    if not leads_on(way, stand):
        raise NoWay(f"way {k} can't be done at this stand")
    a, b, gains = way
    return (b, put_to(stand[1], gains))
