"""The error classes of the interface."""

import unittest

from fallsum import errors

OF_A_TEXT = ("NoWay", "NoRound", "NoRing", "NoPurse", "NoEnd", "NoStand", "TooMany", "NoLine")


class Errors(unittest.TestCase):

    def test_fall_error_is_a_value_error(self):
        self.assertEqual(errors.FallError.__bases__, (ValueError,))

    def test_each_other_stands_right_under_fall_error(self):
        for name in OF_A_TEXT + ("NoRow",):
            with self.subTest(name):
                self.assertEqual(getattr(errors, name).__bases__, (errors.FallError,))

    def test_none_is_caught_as_another(self):
        for name in OF_A_TEXT:
            for other in OF_A_TEXT + ("NoRow",):
                if name != other:
                    made = getattr(errors, name)("why")
                    self.assertNotIsInstance(made, getattr(errors, other))
        for other in OF_A_TEXT:
            self.assertNotIsInstance(errors.NoRow(1), getattr(errors, other))

    def test_each_is_made_of_a_text(self):
        for name in OF_A_TEXT + ("FallError",):
            with self.subTest(name):
                kind = getattr(errors, name)
                with self.assertRaises(errors.FallError) as caught:
                    raise kind("why so")
                self.assertIs(type(caught.exception), kind)
                self.assertEqual(str(caught.exception), "why so")

    def test_no_row_holds_its_row(self):
        for row in (0, 1, 61, 10 ** 100):
            with self.assertRaises(errors.FallError) as caught:
                raise errors.NoRow(row)
            self.assertIs(type(caught.exception), errors.NoRow)
            self.assertEqual(caught.exception.row, row)

    def test_each_no_row_has_its_own_row(self):
        one, other = errors.NoRow(1), errors.NoRow(2)
        self.assertEqual((one.row, other.row), (1, 2))

    def test_no_row_needs_its_row(self):
        with self.assertRaises(TypeError):
            errors.NoRow()
