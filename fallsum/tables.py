"""Tables: of some ways a round that lowers no purse, or a sum where there is none; from a stand the most of one way.

A table has a number for each of the ways, its count; one for each purse, what it has by the counts; and one for each
room, how many more lead into it than out of it. None may come below 0. At first the purses have 0, or, from a stand,
its numbers, and its room has one more. Some of the table's numbers are free, the others bound: the divisor times a
bound one and its row's numbers times the free ones come to the row's last number.
"""

from fallsum.divisors import without_divisor


def first_numbers(book, stand):
    """What the purses have and then the rooms, where all counts are 0; the stand perhaps None."""
    rooms, purses, ways = book
    if stand is None:
        return [0] * (purses + rooms)
    room, numbers = stand
    return list(numbers) + [int(other == room) for other in range(rooms)]


class Table:
    """The bound numbers of some ways, told by the free ones."""

    def __init__(self, book, some, stand=None):
        rooms, purses, ways = book
        # A way's name is its number; those of the purses come behind all ways, those of the rooms behind the purses.
        self.first_purse = len(ways)
        self.first_room = len(ways) + purses
        self.behind_all = len(ways) + purses + rooms
        self.free = list(some)
        self.bound = list(range(self.first_purse, self.behind_all))
        rows = [[-ways[k][2][p] for k in some] for p in range(purses)]
        rows += [[int(ways[k][0] == room) - int(ways[k][1] == room) for k in some] for room in range(rooms)]
        self.rows = [row + [first] for row, first in zip(rows, first_numbers(book, stand))]
        self.divisor = 1

    def exchange(self, at, place):
        """Make the bound number of this row free, and the free one of this place bound."""
        row = self.rows[at]
        rows = [self.without(other, row, place) for other in self.rows]
        rows[at] = list(row)
        rows[at][place] = self.divisor
        self.rows = rows
        self.divisor = row[place]
        self.free[place], self.bound[at] = self.bound[at], self.free[place]

    def without(self, other, row, place):
        """Another row behind the exchange of the row and the place."""
        by, times = row[place], other[place]
        # Nothing is left over: up to its sign each number is a determinant of numbers of the first table.
        fresh = [(by * number - times * more) // self.divisor for number, more in zip(other, row)]
        fresh[place] = -times
        return fresh

    def rises(self, wanted):
        """For each free number by how much the wanted ones together, times the divisor, rise with it."""
        told = [self.divisor if name in wanted else 0 for name in self.free]
        for name, row in zip(self.bound, self.rows):
            if name in wanted:
                told = [rise - number for rise, number in zip(told, row)]
        return told

    def place_to_raise(self, wanted):
        """The place of a free number with which the wanted ones rise; None where there is none."""
        # Always the first name, here and in row_to_free: so no exchange ever leads back to an earlier table.
        names = [(self.free[place], place) for place, rise in enumerate(self.rises(wanted)) if rise > 0]
        return min(names)[1] if names else None

    def comes_first(self, at, other, place):
        """Whether the bound number of a row comes to 0 ahead of another row's, as the free one rises."""
        row, than = self.rows[at], self.rows[other]
        soon, late = row[-1] * than[place], than[-1] * row[place]
        return soon < late or (soon == late and self.bound[at] < self.bound[other])

    def row_to_free(self, place):
        """The row of the bound number that comes to 0 first as the free one rises; None where there is none."""
        first = None
        for at, row in enumerate(self.rows):
            if row[place] > 0 and (first is None or self.comes_first(at, first, place)):
                first = at
        return first

    def counts_by(self, place):
        """The least whole counts where of the free numbers that of this place alone is above 0, a tuple."""
        told = [0] * self.behind_all
        told[self.free[place]] = self.divisor
        for name, row in zip(self.bound, self.rows):
            told[name] = -row[place]
        return tuple(without_divisor(told[:self.first_purse]))

    def find_round(self, wanted):
        """A round with no gain below 0 and a wanted number above 0, a tuple; None where the wanted ones have a most."""
        place = self.place_to_raise(wanted)
        while place is not None:
            at = self.row_to_free(place)
            if at is None:
                # Without end no room's number falls, nor does one rise then, as together they stay the same.
                return self.counts_by(place)
            self.exchange(at, place)
            place = self.place_to_raise(wanted)
        return None

    def shares(self, wanted):
        """Where no round was found: the weights of a sum and then its heights, a list, kept by all ways.

        By it the wanted ways fall by the divisor at least, and the wanted purses have it as weight at least.
        """
        # The wanted ones are told by the free numbers, and none of these raises them. What a purse takes from
        # them is its weight, what a room takes its height; so each way falls by 0 at least, by more if wanted.
        told = [0] * self.behind_all
        for name in wanted:
            told[name] = self.divisor
        for name, rise in zip(self.free, self.rises(wanted)):
            told[name] = -rise
        return told[self.first_purse:]

    def read_sum(self, wanted):
        """Where no round was found: a sum kept by all by which wanted ways fall, or wanted purses weigh, 1 at least."""
        return self.as_sum(without_divisor(self.shares(wanted)))

    def as_sum(self, shares):
        """A sum of its weights and then its heights."""
        purses = self.first_room - self.first_purse
        return (tuple(shares[:purses]), tuple(shares[purses:]))

    def counts_now(self):
        """The counts where all free numbers are 0, each times the divisor, a list."""
        told = [0] * self.behind_all
        for name, row in zip(self.bound, self.rows):
            told[name] = row[-1]
        return told[:self.first_purse]
