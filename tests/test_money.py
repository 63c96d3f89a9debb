"""Lowest terms, worth by two rates, and lines that come to nought."""

import copy
import math
import unittest
from fractions import Fraction

from doubleledger.money import balanced, changed, lowest

GREATEST_TOP = 10 ** 47 - 1
GREATEST_BOTTOM = 10 ** 27 - 1
GREATEST_AMOUNT = 10 ** 30 + 1
GREATEST_RATE = 10 ** 9
GREATEST_LINE = 10 ** 32 - 1


class Lowest(unittest.TestCase):
    def check(self, top, bottom, pair):
        told = lowest(top, bottom)
        self.assertEqual(told, pair)
        self.assertIs(type(told), tuple)
        self.assertEqual([type(part) for part in told], [int, int])

    def test_in_lowest_terms_already(self):
        self.check(3, 4, (3, 4))
        self.check(-3, 4, (-3, 4))
        self.check(1, 1, (1, 1))
        self.check(7, 1, (7, 1))
        self.check(1, GREATEST_BOTTOM, (1, GREATEST_BOTTOM))

    def test_not_yet_in_lowest_terms(self):
        self.check(6, 4, (3, 2))
        self.check(4, 6, (2, 3))
        self.check(12, 4, (3, 1))
        self.check(9, 9, (1, 1))
        self.check(360, 840, (3, 7))

    def test_below_nought_the_sign_is_the_tops(self):
        self.check(-6, 4, (-3, 2))
        self.check(-1, 1, (-1, 1))
        self.check(-12, 4, (-3, 1))
        self.check(-9, 9, (-1, 1))

    def test_nought_is_nought_over_one(self):
        for bottom in (1, 2, 7, 10 ** 9, GREATEST_BOTTOM):
            with self.subTest(bottom):
                self.check(0, bottom, (0, 1))

    def test_the_greatest_figures(self):
        # Ten to the power of n less one is a multiple of 9, and 47 and 27 share no more.
        self.check(GREATEST_TOP, GREATEST_BOTTOM, (GREATEST_TOP // 9, GREATEST_BOTTOM // 9))
        self.check(-GREATEST_TOP, GREATEST_BOTTOM, (-GREATEST_TOP // 9, GREATEST_BOTTOM // 9))
        self.check(GREATEST_TOP, 1, (GREATEST_TOP, 1))
        self.check(-GREATEST_TOP, 1, (-GREATEST_TOP, 1))
        self.check(10 ** 46, 10 ** 26, (10 ** 20, 1))
        self.check(-(10 ** 46), 2 * 10 ** 26, (-5 * 10 ** 19, 1))
        self.check(10 ** 46 + 1, 10 ** 26, (10 ** 46 + 1, 10 ** 26))

    def test_somewhat_beyond_the_greatest_figures(self):
        self.check(10 ** 48, 10 ** 28, (10 ** 20, 1))

    def test_is_the_same_fraction_everywhere_near_nought(self):
        for top in range(-40, 41):
            for bottom in range(1, 41):
                with self.subTest(top=top, bottom=bottom):
                    same = Fraction(top, bottom)
                    self.check(top, bottom, (same.numerator, same.denominator))


class Changed(unittest.TestCase):
    def test_comes_out_whole(self):
        self.assertEqual(changed(100, (1, 1), (1, 1)), 100)
        self.assertEqual(changed(100, (3, 2), (1, 1)), 150)
        self.assertEqual(changed(100, (1, 1), (5, 4)), 80)
        self.assertEqual(changed(84, (2, 3), (7, 5)), 40)

    def test_is_rounded_down(self):
        self.assertEqual(changed(100, (1, 3), (1, 1)), 33)
        self.assertEqual(changed(5, (1, 2), (1, 1)), 2)
        self.assertEqual(changed(200, (1, 3), (1, 1)), 66)
        self.assertEqual(changed(7, (1, 1), (4, 1)), 1)
        self.assertEqual(changed(7, (3, 7), (2, 5)), 7)

    def test_is_rounded_once_and_not_between(self):
        # Rounded down at home first, 1 // 2 would be lost: the worth is just 1.
        self.assertEqual(changed(1, (1, 2), (1, 2)), 1)
        self.assertEqual(changed(10, (1, 3), (1, 3)), 10)

    def test_nought_is_worth_nought(self):
        self.assertEqual(changed(0, (1, 1), (1, 1)), 0)
        self.assertEqual(changed(0, (GREATEST_RATE, 1), (1, GREATEST_RATE)), 0)

    def test_amounts_that_are_worth_nought(self):
        self.assertEqual(changed(1, (1, 2), (1, 1)), 0)
        self.assertEqual(changed(1, (1, 1), (2, 1)), 0)
        self.assertEqual(changed(10 ** 18 - 1, (1, GREATEST_RATE), (GREATEST_RATE, 1)), 0)
        self.assertEqual(changed(10 ** 18, (1, GREATEST_RATE), (GREATEST_RATE, 1)), 1)

    def test_the_greatest_amounts_and_rates(self):
        least = (1, GREATEST_RATE)
        most = (GREATEST_RATE, 1)
        same = (GREATEST_RATE, GREATEST_RATE)
        self.assertEqual(changed(GREATEST_AMOUNT, most, least), GREATEST_AMOUNT * 10 ** 18)
        self.assertEqual(changed(GREATEST_AMOUNT, least, most), 10 ** 12)
        self.assertEqual(changed(GREATEST_AMOUNT, same, same), GREATEST_AMOUNT)
        self.assertEqual(changed(10 ** 30 - 1, least, most), 10 ** 12 - 1)
        self.assertEqual(changed(10 ** 30, least, most), 10 ** 12)
        self.assertEqual(changed(10 ** 30 - 1, least, (1, 1)), 10 ** 21 - 1)

    def test_a_rate_need_not_be_in_lowest_terms(self):
        self.assertEqual(changed(7, (2, 4), (3, 3)), 3)
        self.assertEqual(changed(7, (10, 20), (30, 60)), 7)

    def test_is_the_worth_rounded_down_for_many_rates(self):
        sides = (1, 2, 3, 10, 999999937, GREATEST_RATE)
        rates = [(top, bottom) for top in sides for bottom in sides]
        for amount in (0, 1, 2, 99, 12345678901, 10 ** 30 - 1, GREATEST_AMOUNT):
            for one in rates:
                for other in rates:
                    with self.subTest(amount=amount, one=one, other=other):
                        told = changed(amount, one, other)
                        self.assertEqual(
                            told, math.floor(amount * Fraction(*one) / Fraction(*other))
                        )
                        self.assertIs(type(told), int)


class Balanced(unittest.TestCase):
    def check(self, lines, worth):
        """As a list and as a tuple, and the lines are as they were behind the call."""
        for told in (list(lines), tuple(lines)):
            before = copy.deepcopy(told)
            self.assertIs(balanced(told), worth)
            self.assertEqual(told, before)
            self.assertIs(type(told), type(before))

    def test_nothing_comes_to_nought(self):
        self.check([], True)

    def test_one_currency(self):
        self.check([("cash", "EUR", 5), ("bank", "EUR", -5)], True)
        self.check([("cash", "EUR", 5), ("bank", "EUR", -4)], False)
        self.check([("cash", "EUR", 5), ("bank", "EUR", 5)], False)
        self.check([("cash", "EUR", 5)], False)
        self.check([("cash", "EUR", -5)], False)

    def test_all_of_several_currencies(self):
        self.check(
            [("a", "EUR", 5), ("b", "USD", -7), ("c", "CHF", 1), ("a", "USD", 7), ("b", "CHF", -1),
             ("c", "EUR", -5)],
            True,
        )

    def test_all_but_one_currency_whichever_it_is(self):
        whole = [("a", "EUR", 5), ("b", "EUR", -5), ("a", "USD", 7), ("b", "USD", -7),
                 ("a", "CHF", 1), ("b", "CHF", -1)]
        self.check(whole, True)
        for at in range(len(whole)):
            with self.subTest(at):
                account, currency, amount = whole[at]
                self.check(whole[:at] + [(account, currency, amount + 1)] + whole[at + 1:], False)
                self.check(whole[:at] + whole[at + 1:], False)

    def test_one_of_several_currencies(self):
        self.check([("a", "EUR", 5), ("b", "EUR", -5), ("a", "USD", 7), ("a", "CHF", 2)], False)

    def test_none_of_several_currencies(self):
        self.check([("a", "EUR", 5), ("b", "USD", 7), ("c", "CHF", 1)], False)

    def test_nought_over_two_currencies_together_is_not_enough(self):
        self.check([("a", "EUR", 5), ("b", "USD", -5)], False)
        self.check([("a", "EUR", 5), ("b", "USD", -4), ("c", "CHF", -1)], False)
        self.check([("a", "EUR", 5), ("b", "EUR", -4), ("a", "USD", -5), ("b", "USD", 4)], False)

    def test_the_same_account_and_currency_in_several_lines(self):
        self.check([("a", "EUR", 2), ("a", "EUR", 3), ("b", "EUR", -5)], True)
        self.check([("a", "EUR", 5), ("a", "EUR", 5), ("b", "EUR", -5)], False)
        self.check([("a", "EUR", 5), ("a", "EUR", 5), ("b", "EUR", -5), ("b", "EUR", -5)], True)
        self.check([("a", "EUR", 5), ("a", "EUR", -5)], True)

    def test_nought_in_a_line(self):
        self.check([("a", "EUR", 0)], True)
        self.check([("a", "EUR", 0), ("b", "USD", 0)], True)
        self.check([("a", "EUR", 0), ("b", "EUR", 1)], False)
        self.check([("a", "EUR", 0), ("b", "USD", 3), ("c", "USD", -3)], True)

    def test_the_greatest_amounts(self):
        most = GREATEST_LINE
        self.check([("a", "EUR", most), ("b", "EUR", -most)], True)
        self.check([("a", "EUR", most), ("b", "EUR", 1 - most)], False)
        self.check([("a", "EUR", most)] * 60 + [("b", "EUR", -most)] * 60, True)
        self.check([("a", "EUR", most)] * 60 + [("b", "EUR", -most)] * 59, False)
        self.check([("a", "EUR", most), ("b", "EUR", -most + 1), ("c", "EUR", -1)], True)

    def test_somewhat_beyond_the_greatest_amounts(self):
        self.check([("a", "EUR", 10 ** 33), ("b", "EUR", -(10 ** 33))], True)


if __name__ == "__main__":
    unittest.main()
