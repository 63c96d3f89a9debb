"""How a book begins, its accounts, and its rates by days."""

import unittest

from books import DAYS, GREATEST, LAST, BookCase, pair_of, small_book
from doubleledger.book import Book
from doubleledger.errors import (
    BadCurrency, BadDay, BadName, BadRate, Closed, LedgerError, NoEntry, NoPeriod, NoRate, Taken,
)
from doubleledger.reports import journal, period, sheet

BAD_CURRENCIES = ("", "E", "EU", "EURO", "eur", "EUr", "EU1", "E R", " EUR", "EUR ", "EU-", "EU[", "EU@",
                  "123", "EU\n")
BAD_NAMES = ("", "a" * 13, "a" * 100, "A", "1", "1a", "aB", "a b", " a", "a ", "a-b", "a_b", "_a", "a.", "-",
             "exchange2exch", "a`", "a{", "a/", "a:", "a\n", "Cash")


class Beginning(BookCase):
    def test_a_book_begins_with_exchange_and_nothing_else(self):
        book = Book("EUR")
        self.assertEqual(book.home, "EUR")
        self.assertEqual(book.accounts(), ["exchange"])
        self.assertEqual(book.many(), 0)
        self.assertEqual(book.closed(), -1)
        self.assertEqual(book.periods(), 0)
        self.assertEqual(book.balance("exchange", "EUR"), 0)
        self.assertEqual(journal(book, 0, LAST), [])
        self.assertEqual(sheet(book, LAST), [])
        with self.assertRaises(NoEntry):
            book.entry(1)
        with self.assertRaises(NoPeriod):
            period(book, 1)

    def test_any_three_great_letters_are_a_home(self):
        for home in ("AAA", "ZZZ", "AZA", "USD"):
            self.assertEqual(Book(home).home, home)

    def test_a_home_that_is_no_currency(self):
        for home in BAD_CURRENCIES:
            with self.subTest(home):
                with self.assertRaises(LedgerError) as caught:
                    Book(home)
                self.assertIs(type(caught.exception), BadCurrency)

    def test_two_books_share_nothing(self):
        one, other = Book("EUR"), Book("EUR")
        one.admit("cash")
        one.admit("bank")
        one.tell_rate("USD", 0, 1, 2)
        one.post(1, "", pair_of(5))
        one.close(3)
        self.assertEqual(other.accounts(), ["exchange"])
        self.assertEqual((other.many(), other.closed(), other.periods()), (0, -1, 0))
        self.assertRaises(NoRate, other.rate, "USD", 5)


class Accounts(BookCase):
    def test_names_as_admitted_exchange_first(self):
        book = Book("EUR")
        for name in ("zoo", "b", "a", "a1", "z9z"):
            self.assertIsNone(book.admit(name))
        self.assertEqual(book.accounts(), ["exchange", "zoo", "b", "a", "a1", "z9z"])

    def test_names_of_1_and_12_signs_and_of_all_signs(self):
        book = Book("EUR")
        names = ["a", "z", "a" * 12, "abcdefghijkl", "mnopqrstuvwx", "yz0123456789", "a0", "exchange1",
                 "exchang"]
        for name in names:
            book.admit(name)
        self.assertEqual(book.accounts(), ["exchange"] + names)

    def test_a_bad_name(self):
        book = small_book()
        for name in BAD_NAMES:
            with self.subTest(name):
                self.refuse(BadName, book, book.admit, account=name)

    def test_an_account_is_admitted_once(self):
        book = small_book()
        for name in ("exchange", "cash", "bank"):
            self.refuse(Taken, book, book.admit, account=name)

    def test_the_list_told_is_the_askers_own(self):
        book = small_book()
        told = book.accounts()
        told.append("other")
        told[0] = "gone"
        self.assertEqual(book.accounts(), ["exchange", "cash", "bank"])
        told = book.accounts()
        book.admit("new")
        self.assertEqual(told, ["exchange", "cash", "bank"])


class Rates(BookCase):
    def test_holds_from_its_day_until_the_next(self):
        book = Book("EUR")
        self.assertIsNone(book.tell_rate("USD", 10, 3, 4))
        book.tell_rate("USD", 20, 5, 6)
        for day, pair in ((10, (3, 4)), (11, (3, 4)), (19, (3, 4)), (20, (5, 6)), (21, (5, 6)), (LAST, (5, 6))):
            with self.subTest(day):
                self.assertEqual(book.rate("USD", day), pair)
                self.assertIs(type(book.rate("USD", day)), tuple)

    def test_ahead_of_the_first_there_is_none(self):
        book = Book("EUR")
        book.tell_rate("USD", 10, 3, 4)
        for day in (0, 9):
            self.refuse(NoRate, book, book.rate, currency="USD", day=day)
        for day in DAYS:
            self.refuse(NoRate, book, book.rate, currency="GBP", day=day)

    def test_whatever_the_order_of_telling(self):
        told = [(5, 1), (10, 2), (20, 3), (30, 4)]
        for turn in ([0, 1, 2, 3], [3, 2, 1, 0], [2, 0, 3, 1], [1, 3, 0, 2]):
            book = Book("EUR")
            for at in turn:
                day, top = told[at]
                book.tell_rate("USD", day, top, 7)
            for day, top in ((5, 1), (9, 1), (10, 2), (15, 2), (20, 3), (29, 3), (30, 4), (LAST, 4)):
                with self.subTest(turn=turn, day=day):
                    self.assertEqual(book.rate("USD", day), (top, 7))
            self.assertRaises(NoRate, book.rate, "USD", 4)

    def test_told_again_for_the_same_day_the_last_one_counts(self):
        book = Book("EUR")
        book.tell_rate("USD", 10, 3, 4)
        book.tell_rate("USD", 20, 9, 9)
        book.tell_rate("USD", 10, 1, 8)
        self.assertEqual(book.rate("USD", 10), (1, 8))
        self.assertEqual(book.rate("USD", 19), (1, 8))
        self.assertEqual(book.rate("USD", 20), (9, 9))
        book.tell_rate("USD", 10, 3, 4)
        self.assertEqual(book.rate("USD", 10), (3, 4))

    def test_told_as_it_was_and_not_in_lowest_terms(self):
        book = Book("EUR")
        book.tell_rate("USD", 0, 6, 4)
        self.assertEqual(book.rate("USD", 0), (6, 4))

    def test_the_edges_of_days_tops_and_bottoms(self):
        book = Book("EUR")
        book.tell_rate("USD", 0, 1, GREATEST)
        book.tell_rate("USD", LAST, GREATEST, 1)
        book.tell_rate("AAA", 0, 1, 1)
        book.tell_rate("ZZZ", 0, GREATEST, GREATEST)
        self.assertEqual(book.rate("USD", 0), (1, GREATEST))
        self.assertEqual(book.rate("USD", LAST - 1), (1, GREATEST))
        self.assertEqual(book.rate("USD", LAST), (GREATEST, 1))
        self.assertEqual(book.rate("AAA", 0), (1, 1))
        self.assertEqual(book.rate("ZZZ", 0), (GREATEST, GREATEST))

    def test_the_home_currencys_rate_is_one_on_all_days(self):
        book = Book("USD")
        book.tell_rate("EUR", 0, 2, 3)
        for day in DAYS:
            self.assertEqual(book.rate("USD", day), (1, 1))
        book.close(50)
        self.assertEqual(book.rate("USD", 10), (1, 1))

    def test_rates_of_two_currencies_are_their_own(self):
        book = Book("EUR")
        book.tell_rate("USD", 5, 1, 2)
        book.tell_rate("GBP", 7, 3, 4)
        self.assertEqual(book.rate("USD", 8), (1, 2))
        self.assertEqual(book.rate("GBP", 8), (3, 4))
        self.assertRaises(NoRate, book.rate, "GBP", 6)

    def test_refusals_of_tell_rate_in_their_order(self):
        book = small_book()
        faults = [(BadCurrency, {"currency": bad}) for bad in BAD_CURRENCIES]
        faults += [(BadDay, {"day": day}) for day in (-1, LAST + 1, -10 ** 40, 10 ** 40)]
        faults += [(Closed, {"day": day}) for day in (0, 5, 9)]
        faults += [(BadRate, {"currency": "EUR"})]
        faults += [(BadRate, {"top": bad}) for bad in (0, -1, GREATEST + 1, 10 ** 40)]
        faults += [(BadRate, {"bottom": bad}) for bad in (0, -1, GREATEST + 1, 10 ** 40)]
        good = {"currency": "USD", "day": 10, "top": 3, "bottom": 4}
        self.refuse_in_order(book, book.tell_rate, good, faults)
        book.tell_rate(**good)
        self.assertEqual(book.rate("USD", 10), (3, 4))

    def test_the_home_currency_is_not_even_told_its_own_rate(self):
        book = small_book()
        self.refuse(BadRate, book, book.tell_rate, currency="EUR", day=10, top=1, bottom=1)

    def test_refusals_of_rate_in_their_order(self):
        book = small_book()
        faults = [(BadCurrency, {"currency": bad}) for bad in BAD_CURRENCIES]
        faults += [(BadDay, {"day": day}) for day in (-1, LAST + 1)]
        faults += [(NoRate, {"currency": "GBP"}), (NoRate, {"day": 1}), (NoRate, {"day": 0})]
        self.refuse_in_order(book, book.rate, {"currency": "USD", "day": 10}, faults)

    def test_a_bad_day_of_the_home_currency(self):
        book = small_book()
        self.refuse(BadDay, book, book.rate, currency="EUR", day=-1)
        self.refuse(BadDay, book, book.rate, currency="EUR", day=LAST + 1)


if __name__ == "__main__":
    unittest.main()
