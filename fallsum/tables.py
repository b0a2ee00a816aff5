"""Tables: of some ways a round that lowers no purse, or a sum where there is none.

A table has a number for each of the ways, its count; one for each purse, what it gains by the counts; and one for each
room, how many more lead out of it than into it. Some of these numbers are free, the others bound: the divisor times a
bound one and its row's numbers times the free ones come to 0. Where none is below 0 the counts are a round or all 0,
as the rooms' numbers come to 0 together.
"""


def common_divisor(numbers):
    """The greatest common divisor of the numbers, not all of them 0."""
    divisor = 0
    for number in numbers:
        rest = abs(number)
        while rest > 0:
            divisor, rest = rest, divisor % rest
    return divisor


class Table:
    """The bound numbers of some ways, told by the free ones."""

    def __init__(self, book, some):
        rooms, purses, ways = book
        # A way's name is its number; those of the purses come behind all ways, those of the rooms behind the purses.
        self.first_purse = len(ways)
        self.first_room = len(ways) + purses
        self.behind_all = len(ways) + purses + rooms
        self.free = list(some)
        self.bound = list(range(self.first_purse, self.behind_all))
        self.rows = [[-ways[k][2][p] for k in some] for p in range(purses)]
        self.rows += [[int(ways[k][1] == room) - int(ways[k][0] == room) for k in some] for room in range(rooms)]
        self.divisor = 1

    def exchange(self, at, place):
        """Make the bound number of this row free, and the free one of this place bound."""
        row = self.rows[at]
        rows = [self.without(other, row, place) for other in self.rows]
        rows[at] = list(row)
        rows[at][place] = self.divisor
        self.rows = rows
        self.divisor = row[place]
        self.free[place], self.bound[at] = self.bound[at], self.free[place]

    def without(self, other, row, place):
        """Another row behind the exchange of the row and the place."""
        by, times = row[place], other[place]
        # Nothing is left over: up to its sign each number is a determinant of numbers of the first table.
        fresh = [(by * number - times * more) // self.divisor for number, more in zip(other, row)]
        fresh[place] = -times
        return fresh

    def rises(self, wanted):
        """For each free number by how much the wanted ones together, times the divisor, rise with it."""
        told = [self.divisor if name in wanted else 0 for name in self.free]
        for name, row in zip(self.bound, self.rows):
            if name in wanted:
                told = [rise - number for rise, number in zip(told, row)]
        return told

    def place_to_raise(self, wanted):
        """The place of a free number with which the wanted ones rise; None where there is none."""
        # Always the first name, here and in row_to_free: so no exchange ever leads back to an earlier table.
        names = [(self.free[place], place) for place, rise in enumerate(self.rises(wanted)) if rise > 0]
        return min(names)[1] if names else None

    def row_to_free(self, place):
        """The row of a bound number that comes below 0 as the free one rises; None where there is none."""
        names = [(self.bound[at], at) for at, row in enumerate(self.rows) if row[place] > 0]
        return min(names)[1] if names else None

    def counts_by(self, place):
        """The least whole counts where of the free numbers that of this place alone is above 0, a tuple."""
        told = [0] * self.behind_all
        told[self.free[place]] = self.divisor
        for name, row in zip(self.bound, self.rows):
            told[name] = -row[place]
        counts = told[:self.first_purse]
        divisor = common_divisor(counts)
        return tuple([count // divisor for count in counts])

    def find_round(self, wanted):
        """A round with no gain below 0 and a wanted count above 0, a tuple; None where there is none."""
        place = self.place_to_raise(wanted)
        while place is not None:
            at = self.row_to_free(place)
            if at is None:
                return self.counts_by(place)
            self.exchange(at, place)
            place = self.place_to_raise(wanted)
        return None

    def read_sum(self, wanted):
        """Where no round was found: a sum kept by all ways by which the wanted ones fall by 1 at least."""
        # The wanted ones are told by the free numbers, and none of these raises them. What a purse takes from
        # them is its weight, what a room takes its depth; so each way falls by 0 at least, by more if wanted.
        told = [0] * self.behind_all
        for name, rise in zip(self.free, self.rises(wanted)):
            told[name] = rise
        divisor = common_divisor(told[self.first_purse:])
        weights = [-rise // divisor for rise in told[self.first_purse:self.first_room]]
        heights = [rise // divisor for rise in told[self.first_room:]]
        return (tuple(weights), tuple(heights))
