"""Common divisors of whole numbers."""


def common_divisor(numbers):
    """The greatest common divisor of the numbers, 0 where all of them are."""
    divisor = 0
    for number in numbers:
        rest = abs(number)
        while rest > 0:
            divisor, rest = rest, divisor % rest
    return divisor


def without_divisor(numbers):
    """The numbers, not all of them 0, over their greatest common divisor, a list."""
    divisor = common_divisor(numbers)
    return [number // divisor for number in numbers]
