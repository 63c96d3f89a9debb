"""Whole amounts: fractions in lowest terms, worth by two rates, lines that come to nought."""

from math import gcd


def lowest(top, bottom):
    """The pair of the same fraction in lowest terms, bottom 1 or more, (0, 1) for nought."""
    shared = gcd(top, bottom)
    return (top // shared, bottom // shared)


def changed(amount, one, other):
    """What an amount at the rate one is worth at the rate other, rounded down."""
    top1, bottom1 = one
    top2, bottom2 = other
    # Only one division, and it comes last: rounding any earlier would lose least parts.
    return amount * top1 * bottom2 // (bottom1 * top2)


def balanced(lines):
    """Whether the amounts of the lines come to nought in each currency by itself."""
    sums = {}
    for _, currency, amount in lines:
        sums[currency] = sums.get(currency, 0) + amount
    return not any(sums.values())
