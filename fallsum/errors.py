"""The refusals of the package: FallError, and one class right under it for each kind."""


class FallError(ValueError):
    """Above all refusals of the package."""


class NoWay(FallError):
    """A way or a walk that can't be done there, or that the book doesn't have."""


class NoRound(FallError):
    """A round that has no walk of the kind asked for."""


class NoRing(FallError):
    """Ways that aren't all of one ring of just these."""


class NoPurse(FallError):
    """A purse that the book doesn't have."""


class NoEnd(FallError):
    """A book that goes on for ever where one that ends is needed."""


class NoStand(FallError):
    """What should be a stand of the book and is none."""


class TooMany(FallError):
    """More than a limit allows."""


class NoLine(FallError):
    """A row that a desk doesn't know."""


class NoRow(FallError):
    """A row of a text that no book has there; its number is the field row."""

    def __init__(self, row):
        self.row = row
