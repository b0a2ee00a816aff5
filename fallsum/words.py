"""Words: puts in rows, choices and repeats, and the book whose walks are just their rows.

A reading of a word is a tuple (gains, none, firsts, lasts, pairs): the gains of its puts, as they are read; whether a
row of none is one; the rooms behind the puts that can come first, and last, in a row; and the tuples (i, j) of rooms
such that the put of j can come right behind that of i.
"""

from fallsum.books import are_gains, is_tuple_of

MOST_PUTS = 7
MOST_WITHIN = 10


def is_made_as_word(thing, purses):
    """Whether thing is made as a word is, whatever words lie in it."""
    if not is_tuple_of(thing, 2):
        return False
    word, inner = thing
    if word == "put":
        return are_gains(inner, purses)
    if word == "again":
        return True
    return word in ("row", "either") and isinstance(inner, tuple) and len(inner) > 0


def inner_words(word):
    """The words right within a word, a list."""
    if word[0] == "put":
        return []
    if word[0] == "again":
        return [word[1]]
    return list(word[1])


def is_word(thing, purses):
    """Whether any thing is a word of so many purses."""
    pending = [(thing, 1)]
    puts = 0
    while pending:
        part, within = pending.pop()
        if within > MOST_WITHIN or not is_made_as_word(part, purses):
            return False
        inner = inner_words(part)
        if not inner:
            puts += 1
        # Each word has a put at least; so it is over soon, however many parts lie in one another.
        if puts + len(pending) + len(inner) > MOST_PUTS:
            return False
        pending.extend([(more, within + 1) for more in inner])
    return True


def every_pair(lasts, firsts):
    """All tuples of a last room and a first one, a list."""
    return [(i, j) for i in lasts for j in firsts]


def one_behind_other(one, other):
    """The reading of two words in a row, of their readings."""
    gains, none, firsts, lasts, pairs = one
    more_gains, then_none, then_firsts, then_lasts, then_pairs = other
    return (
        gains + more_gains,
        none and then_none,
        firsts + then_firsts if none else firsts,
        lasts + then_lasts if then_none else then_lasts,
        pairs + then_pairs + every_pair(lasts, then_firsts),
    )


def one_or_other(one, other):
    """The reading of a choice of two words, of their readings."""
    gains, none, firsts, lasts, pairs = one
    more_gains, then_none, then_firsts, then_lasts, then_pairs = other
    return (
        gains + more_gains,
        none or then_none,
        firsts + then_firsts,
        lasts + then_lasts,
        pairs + then_pairs,
    )


def over_and_over(reading):
    """The reading of any number of a word, of its reading."""
    gains, none, firsts, lasts, pairs = reading
    return (gains, True, firsts, lasts, pairs + every_pair(lasts, firsts))


def read_word(word, ahead):
    """The reading of a word with so many puts ahead of it."""
    if word[0] == "put":
        room = ahead + 1
        return ([word[1]], False, [room], [room], [])
    if word[0] == "again":
        return over_and_over(read_word(word[1], ahead))
    # To begin with, what changes nothing: a row of none, or no row at all to choose.
    reading = ([], word[0] == "row", [], [], [])
    for part in word[1]:
        then = read_word(part, ahead + len(reading[0]))
        reading = one_behind_other(reading, then) if word[0] == "row" else one_or_other(reading, then)
    return reading


def word_book(word):
    """(book, ends): the book of a word, and the rooms behind which a row can be over, a rising list."""
    gains, none, firsts, lasts, pairs = read_word(word, 0)
    leads = sorted(set(every_pair([0], firsts) + pairs))
    ways = tuple([(i, j, gains[j - 1]) for i, j in leads])
    over = sorted(lasts + [0] if none else lasts)
    return ((len(gains) + 1, len(gains[0]), ways), over)
