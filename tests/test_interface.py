"""The interface, and point 2 over all of it: names and arguments, nothing changed or kept, lists of the asker's own."""

import copy
import importlib
import inspect
import unittest

from fallsum.desk import Desk
from fallsum.ends import ends
from fallsum.errors import FallError
from fallsum.lines import line_or_square
from tests.samples import GREAT, PAIR, SWAP, TWO, VALLEY, any_things, row_of

# Each function as the document names it: its module, its name, how many arguments it takes, which by name, too.
FUNCTIONS = (
    ("books", "is_book", 1, {}), ("books", "is_stand", 2, {}), ("books", "can_do", 2, {}), ("books", "behind", 3, {}),
    ("walks", "is_walk", 2, {}), ("walks", "ends_of", 2, {}), ("walks", "gain", 2, {}), ("walks", "need", 2, {}),
    ("walks", "done", 3, {}),
    ("toldwalks", "is_told", 2, {}), ("toldwalks", "told_length", 1, {}), ("toldwalks", "told_ends", 2, {}),
    ("toldwalks", "told_gain", 2, {}), ("toldwalks", "told_need", 2, {}), ("toldwalks", "told_done", 3, {}),
    ("toldwalks", "opened", 2, {"limit": 10000}),
    ("rings", "rings_of", 2, {}),
    ("rounds", "is_round", 2, {}), ("rounds", "round_gain", 2, {}), ("rounds", "parts_of", 2, {}),
    ("rounds", "round_of", 2, {}), ("rounds", "walk_of", 3, {}),
    ("sums", "is_sum", 2, {}), ("sums", "worth", 2, {}), ("sums", "fall", 3, {}), ("sums", "is_kept", 3, {}),
    ("sums", "falling", 3, {}), ("sums", "together", 2, {}),
    ("either", "sum_or_round", 3, {}), ("either", "greatest", 2, {}),
    ("ends", "ends", 1, {}), ("ends", "are_layers", 2, {}), ("ends", "goes_on", 3, {}),
    ("lines", "line_or_square", 1, {}), ("lines", "turned", 2, {}), ("lines", "steps_at_most", 3, {}),
    ("often", "how_often", 3, {}),
    ("purses", "kept_or_raised", 3, {}),
    ("trees", "from_stand", 3, {"limit": 2000}),
    ("words", "is_word", 2, {}), ("words", "word_book", 1, {}),
    ("held", "held", 1, {}), ("held", "is_held", 2, {}),
    ("texts", "book_text", 1, {}), ("texts", "read_book", 1, {}),
)

# Room 0 goes round at a cost and leads on to room 1, which does so, too.
LINE = (2, 2, ((0, 0, (-1, 0)), (0, 1, (1, 1)), (1, 1, (0, -1)), (1, 1, (-1, -1))))
TOLD = ("times", 3, ("row", (row_of(2, 1), ("times", 2, ("way", 0)), ("row", (("way", 2), ("way", 3))))))
LEVEL = ((1, 1, 1), (0, 0))
WORD = ("row", (("again", ("put", (1, -1))), ("either", (("put", (0, 2)), ("again", ("put", (-3, 0)))))))

CALLS = (
    ("is_book", SWAP), ("is_stand", SWAP, (0, (1, 2, 3))), ("can_do", SWAP, (0, (1, 2, 3))),
    ("behind", SWAP, (0, (1, 2, 3)), 0), ("behind", SWAP, (0, (0, 0, 0)), 0),
    ("is_walk", SWAP, [0, 2, 1, 3]), ("is_walk", SWAP, [0, 1, GREAT]), ("ends_of", SWAP, [0, 2, 1, 3]),
    ("gain", SWAP, [0, 2, 1, 3]), ("need", SWAP, [0, 2, 1, 3]), ("done", SWAP, (0, (1, 1, 1)), [0, 2, 1, 3]),
    ("done", SWAP, (0, (0, 0, 0)), [0, 2, 1, 3]),
    ("is_told", SWAP, row_of(0, 2)), ("told_length", TOLD), ("told_ends", SWAP, row_of(0, 2)),
    ("told_gain", SWAP, row_of(0, 2)), ("told_need", SWAP, row_of(0, 2)),
    ("told_done", SWAP, (0, (1, 1, 1)), row_of(0, 2)), ("told_done", SWAP, (0, (0, 1, 1)), row_of(0, 2)),
    ("opened", TOLD), ("opened", ("way", 0), 1), ("opened", row_of(0, 1), 1),
    ("rings_of", TWO, [0, 1, 2, 3, 4]), ("rings_of", TWO, []), ("is_round", SWAP, (1, 1, 0, 0)),
    ("round_gain", SWAP, (1, 1, 2, 2)), ("parts_of", SWAP, (1, 1, 0, 0)), ("round_of", SWAP, [0, 2, 1, 3]),
    ("walk_of", SWAP, (2, 3, 4, 4), 1), ("walk_of", SWAP, (2, 3, 0, 0), 1),
    ("is_sum", SWAP, LEVEL), ("worth", LEVEL, (1, (1, 2, 3))), ("fall", SWAP, LEVEL, 2),
    ("is_kept", SWAP, LEVEL, [0, 1, 2, 3]), ("falling", SWAP, LEVEL, [0, 1, 2, 3]), ("together", LEVEL, LEVEL),
    ("sum_or_round", SWAP, [0, 1, 2, 3], 2), ("sum_or_round", SWAP, [0, 1, 2, 3], 0),
    ("sum_or_round", SWAP, [0, 1], 0), ("sum_or_round", SWAP, [0], 1),
    ("greatest", SWAP, [0, 1, 2, 3]), ("greatest", SWAP, [0, 1]),
    ("ends", SWAP), ("ends", LINE), ("ends", PAIR), ("are_layers", SWAP, ends(SWAP)[1]),
    ("are_layers", SWAP, [((0, 1, 2, 3), LEVEL)]), ("goes_on", VALLEY, row_of(0, 1, 2, 3), (0, (6,))),
    ("line_or_square", SWAP), ("line_or_square", LINE), ("line_or_square", PAIR),
    ("turned", line_or_square(SWAP)[1], 5), ("turned", [(("way", 0), [1, 2]), (("way", 3), [])], GREAT),
    ("steps_at_most", LINE, line_or_square(LINE)[1], 7),
    ("how_often", SWAP, (0, (1, 2, 3)), 0), ("how_often", SWAP, (0, (1, 2, 3)), 2), ("how_often", TWO, (2, (3,)), 0),
    ("how_often", SWAP, (0, (1, 2, 3)), 4),
    ("kept_or_raised", SWAP, [0, 1, 2, 3], 1), ("kept_or_raised", PAIR, [0, 1, 2, 3, 4], 1),
    ("kept_or_raised", SWAP, [0, 1], 1), ("kept_or_raised", SWAP, [0, 1, 2, 3], 3),
    ("from_stand", SWAP, (0, (1, 1, 1))), ("from_stand", TWO, (3, (1,))), ("from_stand", SWAP, (0, (0, 0, 0)), 1),
    ("from_stand", SWAP, (0, (1, 1, 1)), 2),
    ("is_word", WORD, 2), ("is_word", ("row", [WORD]), 2), ("word_book", WORD),
    ("held", SWAP), ("held", (2, 1, ())), ("is_held", SWAP, ((1, 1, 0), (0, 0))),
    ("book_text", SWAP), ("read_book", "rooms 2 / purses 1 / 0 -> 1 : -1"), ("read_book", "rooms 2 / x"),
)


def find(name):
    stems = [stem for stem, other, _, _ in FUNCTIONS if other == name]
    return getattr(importlib.import_module(f"fallsum.{stems[0]}"), name)


def answer(asked, things):
    """What is told, or the name of the refusal."""
    try:
        return asked(*things)
    except FallError as refused:
        return type(refused).__name__


def spoil(thing):
    """Change each list and dict in a thing."""
    if isinstance(thing, (list, tuple)):
        for part in thing:
            spoil(part)
    if isinstance(thing, list):
        thing.append("spoilt")
        thing.reverse()
    if isinstance(thing, dict):
        thing.clear()


class Interface(unittest.TestCase):

    def test_names_and_arguments(self):
        for stem, name, many, by_name in FUNCTIONS:
            with self.subTest(name):
                asked = find(name)
                self.assertEqual((asked.__module__, asked.__name__), (f"fallsum.{stem}", name))
                taken = inspect.signature(asked).parameters
                self.assertEqual(len(taken), many)
                defaults = {key: value.default for key, value in taken.items() if value.default is not value.empty}
                self.assertEqual(defaults, by_name)
                self.assertEqual(list(taken)[many - len(by_name):], list(by_name))

    def test_the_desk(self):
        self.assertEqual(len(inspect.signature(Desk).parameters), 0)
        self.assertEqual(len(inspect.signature(Desk().say).parameters), 1)

    def test_each_function_is_called_here(self):
        self.assertEqual({call[0] for call in CALLS}, {name for _, name, _, _ in FUNCTIONS})

    def test_the_limit_by_place_and_by_its_name(self):
        for name, things, limits in (("opened", (TOLD,), (18, 17)), ("from_stand", (SWAP, (0, (1, 1, 1))), (99, 4))):
            asked = find(name)
            for limit in limits:
                by_place = answer(asked, things + (limit,))
                self.assertEqual(by_place, answer(lambda: asked(*things, limit=limit), ()))
            self.assertEqual(answer(asked, things + (limits[0],)), asked(*things))
            self.assertEqual(answer(asked, things + (limits[1],)), "TooMany")


class NothingIsChangedOrKept(unittest.TestCase):

    def test_what_is_handed_in_is_the_same_behind_each_call(self):
        for name, *things in CALLS:
            with self.subTest((name, things)):
                held = copy.deepcopy(things)
                answer(find(name), things)
                self.assertEqual(things, held)

    def test_told_lists_are_the_askers_own(self):
        for name, *things in CALLS:
            with self.subTest((name, things)):
                held = copy.deepcopy(things)
                told = answer(find(name), things)
                due = copy.deepcopy(told)
                spoil(told)
                self.assertEqual(things, held)
                self.assertEqual(answer(find(name), things), due)

    def test_handed_in_lists_that_the_asker_changes_later(self):
        for name, *things in CALLS:
            with self.subTest((name, things)):
                held = copy.deepcopy(things)
                told = answer(find(name), held)
                due = copy.deepcopy(told)
                spoil(held)
                self.assertEqual(told, due)
                self.assertEqual(answer(find(name), things), due)

    def test_the_same_in_any_order(self):
        first = [answer(find(name), things) for name, *things in CALLS]
        then = [answer(find(name), things) for name, *things in reversed(CALLS)]
        self.assertEqual(first, then[::-1])


class OfAnyThing(unittest.TestCase):

    def test_true_or_false_and_no_error(self):
        for thing in any_things():
            for asked in (lambda: find("is_book")(thing), lambda: find("is_stand")(PAIR, thing),
                          lambda: find("is_told")(PAIR, thing), lambda: find("is_sum")(PAIR, thing),
                          lambda: find("is_word")(thing, 2)):
                self.assertIn(asked(), (True, False))
                self.assertIs(type(asked()), bool)
