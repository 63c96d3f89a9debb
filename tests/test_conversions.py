"""Conversions from one currency into another, and contrary entries."""

import unittest

from books import GREATEST, LAST, LONGEST, MOST, BookCase, pair_of, small_book
from doubleledger.book import Book
from doubleledger.errors import (
    BadAmount, BadCurrency, BadDay, BadNote, Closed, NoAccount, NoEntry, NoRate, TakenBack, TooSmall,
)


def rated_book():
    """Home EUR; from day 0 on USD at 2 / 3, GBP at 5 / 4."""
    book = Book("EUR")
    book.admit("cash")
    book.admit("bank")
    book.tell_rate("USD", 0, 2, 3)
    book.tell_rate("GBP", 0, 5, 4)
    return book


def four(giver, one, amount, other, got, taker):
    return ((giver, one, -amount), ("exchange", one, amount), ("exchange", other, -got), (taker, other, got))


class Convert(BookCase):
    def test_an_entry_with_four_lines_in_their_order(self):
        book = rated_book()
        book.post(5, "", pair_of(5))
        self.assertEqual(book.convert(7, "a note", "cash", "USD", 30, "bank", "GBP"), 2)
        lines = four("cash", "USD", 30, "GBP", 16, "bank")
        self.assertEqual(book.entry(2), (2, 7, "a note", lines, 0))
        self.assertEqual(book.many(), 2)
        self.assertEqual(book.balance("cash", "USD"), -30)
        self.assertEqual(book.balance("exchange", "USD"), 30)
        self.assertEqual(book.balance("exchange", "GBP"), -16)
        self.assertEqual(book.balance("bank", "GBP"), 16)
        self.check_nought(book)

    def test_from_home_and_into_home(self):
        book = rated_book()
        book.convert(1, "", "cash", "EUR", 10, "bank", "USD")
        book.convert(1, "", "cash", "USD", 10, "bank", "EUR")
        self.assertEqual(book.entry(1)[3], four("cash", "EUR", 10, "USD", 15, "bank"))
        self.assertEqual(book.entry(2)[3], four("cash", "USD", 10, "EUR", 6, "bank"))

    def test_rounded_down_once(self):
        book = Book("EUR")
        book.admit("cash")
        book.tell_rate("USD", 0, 1, 2)
        book.tell_rate("GBP", 0, 1, 2)
        book.tell_rate("CHF", 0, 3, 7)
        for amount, one, other, got in ((1, "USD", "GBP", 1), (3, "USD", "EUR", 1), (100, "CHF", "EUR", 42),
                                        (99, "EUR", "CHF", 231), (6, "CHF", "USD", 5), (7, "USD", "CHF", 8)):
            with self.subTest(amount=amount, one=one, other=other):
                number = book.convert(1, "", "cash", one, amount, "cash", other)
                self.assertEqual(book.entry(number)[3], four("cash", one, amount, other, got, "cash"))

    def test_the_giver_may_be_the_taker_and_either_may_be_exchange(self):
        book = rated_book()
        for giver in book.accounts():
            for taker in book.accounts():
                number = book.convert(1, "", giver, "EUR", 10, taker, "USD")
                self.assertEqual(book.entry(number)[3], four(giver, "EUR", 10, "USD", 15, taker))
        self.check_nought(book)

    def test_by_the_rates_of_the_day(self):
        book = Book("EUR")
        book.admit("cash")
        book.tell_rate("USD", 20, 3, 1)
        book.tell_rate("USD", 10, 2, 1)
        for day, got in ((10, 20), (19, 20), (20, 30), (LAST, 30)):
            number = book.convert(day, "", "cash", "USD", 10, "cash", "EUR")
            self.assertEqual(book.entry(number)[3][3], ("cash", "EUR", got))

    def test_a_rate_told_later_changes_no_entry(self):
        book = rated_book()
        book.convert(10, "", "cash", "EUR", 10, "bank", "USD")
        before = book.entry(1)
        book.tell_rate("USD", 10, 1, 1)
        book.tell_rate("USD", 5, 9, 1)
        self.assertEqual(book.entry(1), before)
        self.assertEqual(book.balance("bank", "USD"), 15)
        book.convert(10, "", "cash", "EUR", 10, "bank", "USD")
        self.assertEqual(book.balance("bank", "USD"), 25)

    def test_the_least_and_the_greatest_amounts(self):
        book = Book("EUR")
        book.admit("cash")
        book.tell_rate("USD", 0, 1, 1)
        book.convert(0, "", "cash", "EUR", 1, "cash", "USD")
        book.convert(LAST, LONGEST, "cash", "EUR", MOST, "cash", "USD")
        self.assertEqual(book.entry(1)[3], four("cash", "EUR", 1, "USD", 1, "cash"))
        self.assertEqual(book.entry(2), (2, LAST, LONGEST, four("cash", "EUR", MOST, "USD", MOST, "cash"), 0))

    def test_too_little_and_too_much_is_got(self):
        book = Book("EUR")
        book.admit("cash")
        book.tell_rate("USD", 0, 1, GREATEST)
        book.tell_rate("GBP", 0, GREATEST, 1)
        given = {"day": 1, "note": "", "giver": "cash", "taker": "cash"}
        for one, amount, other in (("USD", GREATEST - 1, "EUR"), ("USD", 1, "EUR"), ("EUR", 1, "GBP"),
                                   ("USD", 10 ** 18 - 1, "GBP")):
            with self.subTest(one=one, amount=amount, other=other):
                self.refuse(TooSmall, book, book.convert, one=one, amount=amount, other=other, **given)
        for one, amount, other in (("EUR", 10 ** 21, "USD"), ("GBP", 10 ** 12, "USD"), ("GBP", MOST, "EUR"),
                                   ("GBP", 10 ** 21, "EUR")):
            with self.subTest(one=one, amount=amount, other=other):
                self.refuse(BadAmount, book, book.convert, one=one, amount=amount, other=other, **given)
        for one, amount, other, got in (("USD", GREATEST, "EUR", 1), ("USD", 10 ** 18, "GBP", 1),
                                        ("EUR", 10 ** 21 - 1, "USD", 10 ** 30 - 10 ** 9),
                                        ("GBP", 10 ** 12 - 1, "USD", 10 ** 30 - 10 ** 18)):
            with self.subTest(one=one, amount=amount, other=other):
                number = book.convert(one=one, amount=amount, other=other, **given)
                self.assertEqual(book.entry(number)[3][3], ("cash", other, got))

    def test_just_too_much_is_got(self):
        book = Book("EUR")
        book.admit("cash")
        book.tell_rate("USD", 0, 10 ** 9 - 1, 10 ** 9)
        # 10 ** 30 - 10 ** 21 at that rate comes to just 10 ** 30 of the other, and one less below it.
        amount = 10 ** 30 - 10 ** 21
        given = {"day": 1, "note": "", "giver": "cash", "one": "EUR", "taker": "cash", "other": "USD"}
        self.refuse(BadAmount, book, book.convert, amount=amount, **given)
        book.convert(amount=amount - 1, **given)
        self.assertEqual(book.entry(1)[3][3], ("cash", "USD", (amount - 1) * 10 ** 9 // (10 ** 9 - 1)))

    def test_refusals_in_their_order(self):
        book = small_book()
        book.tell_rate("CHF", 11, 1, 1)
        book.tell_rate("ZZZ", 10, GREATEST, 1)
        book.tell_rate("AAA", 10, 1, GREATEST)
        faults = [(BadDay, {"day": day}) for day in (-1, LAST + 1)]
        faults += [(Closed, {"day": day}) for day in (0, 9)]
        faults += [(BadNote, {"note": "x" * 41}), (BadNote, {"note": "\n"})]
        faults += [(NoAccount, {"giver": "nobody"}), (NoAccount, {"giver": "Cash"}), (NoAccount, {"taker": ""})]
        faults += [(BadCurrency, {"one": "eur"}), (BadCurrency, {"other": "USDX"}), (BadCurrency, {"other": ""}),
                   (BadCurrency, {"one": "USD", "other": "USD"}), (BadCurrency, {"one": "GBP", "other": "GBP"}),
                   (BadCurrency, {"one": "x", "other": "x"})]
        faults += [(BadAmount, {"amount": amount}) for amount in (0, -1, -MOST, MOST + 1, -10 ** 40, 10 ** 40)]
        faults += [(NoRate, {"one": "GBP"}), (NoRate, {"other": "CHF"})]
        # Nothing and too much are never got at once, so each of them comes behind all others by itself.
        little = [(TooSmall, {"one": "AAA"}), (TooSmall, {"other": "ZZZ"})]
        much = [(BadAmount, {"amount": MOST, "other": "AAA"}), (BadAmount, {"amount": MOST, "one": "ZZZ"})]
        good = {"day": 10, "note": "", "giver": "cash", "one": "EUR", "amount": 10, "taker": "bank",
                "other": "USD"}
        self.refuse_in_order(book, book.convert, good, faults + little[:1])
        self.refuse_in_order(book, book.convert, good, faults + little[1:])
        for last in much:
            self.refuse_in_order(book, book.convert, good, faults + [last])
        self.assertEqual(book.convert(**good), 4)


class Contrary(BookCase):
    def test_each_amount_turned_in_the_same_order(self):
        book = rated_book()
        lines = [("cash", "EUR", 2), ("bank", "EUR", -5), ("cash", "EUR", 3), ("bank", "USD", 1),
                 ("exchange", "USD", -1)]
        book.post(10, "the note", lines)
        self.assertEqual(book.contrary(1, 12), 2)
        turned = tuple((account, unit, -amount) for account, unit, amount in lines)
        self.assertEqual(book.entry(2), (2, 12, "the note", turned, 1))
        self.assertEqual(book.many(), 2)
        for name in book.accounts():
            for unit in ("EUR", "USD"):
                self.assertEqual(book.balance(name, unit), 0)
        self.assertEqual(book.balance_on("cash", "EUR", 11), 5)
        self.assertEqual(book.balance_on("cash", "EUR", 12), 0)
        self.check_nought(book)

    def test_of_a_conversion(self):
        book = rated_book()
        book.convert(10, "changed", "cash", "EUR", 10, "bank", "USD")
        book.tell_rate("USD", 10, 1, 1)
        self.assertEqual(book.contrary(1, 20), 2)
        lines = (("cash", "EUR", 10), ("exchange", "EUR", -10), ("exchange", "USD", 15), ("bank", "USD", -15))
        self.assertEqual(book.entry(2), (2, 20, "changed", lines, 1))

    def test_on_any_open_day_also_ahead_of_the_entry(self):
        book = rated_book()
        for day in (0, 9, 10, 11, LAST):
            number = book.post(10, "", pair_of(5))
            self.assertEqual(book.contrary(number, day), number + 1)
            self.assertEqual(book.entry(number + 1)[1], day)

    def test_of_an_entry_on_a_closed_day(self):
        book = small_book()
        before = book.entry(1)
        self.assertEqual(book.contrary(1, 10), 4)
        self.assertEqual(book.entry(1), before)
        self.assertEqual(book.balance_on("cash", "EUR", 9), 90)
        self.assertEqual(book.balance_on("cash", "EUR", 10), -10)

    def test_the_greatest_amounts_are_turned(self):
        book = rated_book()
        book.post(1, "", pair_of(MOST))
        book.contrary(1, 1)
        self.assertEqual(book.entry(2)[3], tuple(pair_of(-MOST)))

    def test_whether_it_was_taken_back_no_answer_tells(self):
        book = rated_book()
        book.post(10, "", pair_of(5))
        before = book.entry(1)
        book.contrary(1, 10)
        self.assertEqual(book.entry(1), before)

    def test_taking_back_twice(self):
        book = small_book()
        for number in (1, 2, 3):
            book.contrary(number, 12)
        for number in (1, 2, 3):
            self.refuse(TakenBack, book, book.contrary, number=number, day=12)
            self.refuse(TakenBack, book, book.contrary, number=number, day=30)

    def test_taking_back_a_contrary_one(self):
        book = small_book()
        book.contrary(2, 12)
        self.refuse(TakenBack, book, book.contrary, number=4, day=12)
        self.assertEqual(book.contrary(1, 12), 5)

    def test_what_was_refused_can_still_be_taken_back(self):
        book = small_book()
        self.refuse(Closed, book, book.contrary, number=1, day=9)
        self.refuse(BadDay, book, book.contrary, number=1, day=-1)
        self.assertEqual(book.contrary(1, 10), 4)

    def test_refusals_in_their_order(self):
        book = small_book()
        book.contrary(2, 12)
        faults = [(NoEntry, {"number": number}) for number in (0, -1, -4, 5, 10 ** 40)]
        faults += [(TakenBack, {"number": number}) for number in (2, 4)]
        faults += [(BadDay, {"day": day}) for day in (-1, LAST + 1)]
        faults += [(Closed, {"day": day}) for day in (0, 9)]
        self.refuse_in_order(book, book.contrary, {"number": 1, "day": 10}, faults)
        self.assertEqual(book.contrary(1, 10), 5)


if __name__ == "__main__":
    unittest.main()
