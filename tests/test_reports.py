"""Journals, statements, sheets, worths and periods at chosen inputs, and their refusals."""

import unittest

from books import GREATEST, LAST, MOST, BookCase, pair_of, small_book
from doubleledger.book import Book
from doubleledger.errors import BadCurrency, BadDay, NoAccount, NoRate
from doubleledger.reports import journal, period, sheet, statement, worth

BAD_DAYS = (-1, LAST + 1, -10 ** 40, 10 ** 40)


def mixed_book():
    """Entries whose days are not in the order of their numbers."""
    book = Book("EUR")
    for name in ("cash", "bank", "box"):
        book.admit(name)
    for number, day in enumerate((20, 0, 10, 20, 5, 10, LAST), start=1):
        book.post(day, f"n{number}", pair_of(10 ** number))
    return book


def with_book(report, book):
    """The report of that book alone, so that it takes the other arguments by name as a method does."""
    return lambda **given: report(book, **given)


class Journal(BookCase):
    def numbers(self, book, first, last):
        told = journal(book, first, last)
        self.assertIs(type(told), list)
        for entry in told:
            self.assertEqual(entry, book.entry(entry[0]))
            self.assertIs(type(entry), tuple)
        return [entry[0] for entry in told]

    def test_by_day_then_number(self):
        book = mixed_book()
        self.assertEqual(self.numbers(book, 0, LAST), [2, 5, 3, 6, 1, 4, 7])

    def test_from_first_to_last_both_taken_in(self):
        book = mixed_book()
        for first, last, numbers in ((0, 0, [2]), (0, 4, [2]), (1, 4, []), (5, 10, [5, 3, 6]), (6, 9, []),
                                     (10, 10, [3, 6]), (10, 20, [3, 6, 1, 4]), (11, 19, []), (20, 20, [1, 4]),
                                     (20, LAST, [1, 4, 7]), (21, LAST - 1, []), (LAST, LAST, [7])):
            with self.subTest(first=first, last=last):
                self.assertEqual(self.numbers(book, first, last), numbers)

    def test_conversions_and_contrary_entries_are_in_it(self):
        book = small_book()
        book.contrary(1, 11)
        self.assertEqual(self.numbers(book, 0, LAST), [1, 2, 4, 3])
        self.assertEqual(journal(book, 11, 11)[0][4], 1)

    def test_what_was_told_is_the_askers_own(self):
        book = mixed_book()
        told = journal(book, 0, LAST)
        copy = list(told)
        book.post(1, "later", pair_of(1))
        self.assertEqual(told, copy)
        told.clear()
        self.assertEqual(self.numbers(book, 0, 5), [2, 8, 5])

    def test_refusals(self):
        book = small_book()
        faults = [(BadDay, {"first": day}) for day in BAD_DAYS] + [(BadDay, {"last": day}) for day in BAD_DAYS]
        faults += [(BadDay, {"last": 4}), (BadDay, {"first": 8}), (BadDay, {"first": 1, "last": 0})]
        self.refuse_in_order(book, with_book(journal, book), {"first": 5, "last": 7}, faults)


class Statement(BookCase):
    def test_by_day_then_number_then_place(self):
        book = mixed_book()
        told = statement(book, "cash", "EUR", 0, LAST)
        rows = [(0, 2, 100, 100), (5, 5, 100000, 100100), (10, 3, 1000, 101100), (10, 6, 1000000, 1101100),
                (20, 1, 10, 1101110), (20, 4, 10000, 1111110), (LAST, 7, 10000000, 11111110)]
        self.assertEqual(told, (0, rows, 11111110))
        self.assertEqual([type(part) for part in told], [int, list, int])
        self.assertEqual({type(row) for row in told[1]}, {tuple})

    def test_several_lines_of_one_entry_in_their_places(self):
        book = mixed_book()
        for day in (7, 6):
            book.post(day, "", [("box", "EUR", 5), ("cash", "EUR", -9), ("box", "EUR", -3), ("cash", "USD", -2),
                                ("box", "USD", 2), ("box", "EUR", 7)])
        rows = [(6, 9, 5, 5), (6, 9, -3, 2), (6, 9, 7, 9), (7, 8, 5, 14), (7, 8, -3, 11), (7, 8, 7, 18)]
        self.assertEqual(statement(book, "box", "EUR", 0, LAST), (0, rows, 18))
        self.assertEqual(statement(book, "box", "EUR", 7, 7), (9, rows[3:], 18))
        self.assertEqual(statement(book, "box", "EUR", 0, 6), (0, rows[:3], 9))

    def test_from_first_to_last_both_taken_in(self):
        book = mixed_book()
        self.assertEqual(statement(book, "bank", "EUR", 10, 10),
                         (-100100, [(10, 3, -1000, -101100), (10, 6, -1000000, -1101100)], -1101100))
        self.assertEqual(statement(book, "bank", "EUR", 6, 9), (-100100, [], -100100))
        self.assertEqual(statement(book, "bank", "EUR", 0, 0), (0, [(0, 2, -100, -100)], -100))
        self.assertEqual(statement(book, "bank", "EUR", 1, 1), (-100, [], -100))
        self.assertEqual(statement(book, "bank", "EUR", LAST, LAST),
                         (-1111110, [(LAST, 7, -10000000, -11111110)], -11111110))

    def test_without_lines(self):
        book = mixed_book()
        self.assertEqual(statement(book, "box", "EUR", 0, LAST), (0, [], 0))
        self.assertEqual(statement(book, "cash", "USD", 5, 20), (0, [], 0))
        self.assertEqual(statement(book, "exchange", "ZZZ", 0, 0), (0, [], 0))

    def test_what_was_told_is_the_askers_own(self):
        book = mixed_book()
        told = statement(book, "cash", "EUR", 0, 5)
        again = (0, list(told[1]), 100100)
        book.post(1, "later", pair_of(1))
        self.assertEqual(told, again)
        told[1].clear()
        self.assertEqual(len(statement(book, "cash", "EUR", 0, 5)[1]), 3)

    def test_refusals_in_their_order(self):
        book = small_book()
        faults = [(NoAccount, {"account": name}) for name in ("nobody", "", "Cash")]
        faults += [(BadCurrency, {"currency": unit}) for unit in ("eur", "", "EURO")]
        faults += [(BadDay, {"first": day}) for day in BAD_DAYS] + [(BadDay, {"last": day}) for day in BAD_DAYS]
        faults += [(BadDay, {"last": 4}), (BadDay, {"first": 8})]
        good = {"account": "cash", "currency": "EUR", "first": 5, "last": 7}
        self.refuse_in_order(book, with_book(statement, book), good, faults)


class Sheet(BookCase):
    def test_rising_by_account_then_currency(self):
        book = Book("EUR")
        for name in ("z", "b", "a", "b1", "a9", "ab"):
            book.admit(name)
        for unit in ("USD", "EUR", "CHF"):
            for number, name in enumerate(("b1", "a9", "z", "ab", "b"), start=1):
                book.post(5, "", pair_of(number, unit, name, "a"))
        told = sheet(book, 5)
        worths = {"a": -15, "a9": 2, "ab": 4, "b": 5, "b1": 1, "z": 3}
        wanted = [(name, unit, worths[name]) for name in ("a", "a9", "ab", "b", "b1", "z")
                  for unit in ("CHF", "EUR", "USD")]
        self.assertEqual(told, wanted)
        self.assertIs(type(told), list)
        self.assertEqual({type(row) for row in told}, {tuple})

    def test_balances_at_the_end_of_the_day_that_are_not_0(self):
        book = Book("EUR")
        book.admit("cash")
        book.admit("bank")
        book.post(10, "", pair_of(5))
        book.post(20, "", pair_of(-5))
        book.post(20, "", pair_of(1, "USD"))
        both = [("bank", "EUR", -5), ("cash", "EUR", 5)]
        later = [("bank", "USD", -1), ("cash", "USD", 1)]
        for day, rows in ((0, []), (9, []), (10, both), (19, both), (20, later), (LAST, later)):
            with self.subTest(day):
                self.assertEqual(sheet(book, day), rows)

    def test_what_was_told_is_the_askers_own(self):
        book = small_book()
        told = sheet(book, 9)
        copy = list(told)
        book.contrary(1, 10)
        self.assertEqual(told, copy)
        told.clear()
        self.assertEqual(sheet(book, 9), copy)

    def test_refusals(self):
        book = small_book()
        faults = [(BadDay, {"day": day}) for day in BAD_DAYS]
        self.refuse_in_order(book, with_book(sheet, book), {"day": 5}, faults)
        empty = Book("EUR")
        self.refuse_in_order(empty, with_book(sheet, empty), {"day": 5}, faults)


class Worth(BookCase):
    def rich_book(self):
        book = Book("EUR")
        book.admit("cash")
        book.admit("bank")
        book.tell_rate("USD", 10, 2, 3)
        book.tell_rate("USD", 20, 1, 6)
        book.tell_rate("GBP", 10, 5, 4)
        book.post(10, "", pair_of(7, "USD") + pair_of(-3, "GBP") + pair_of(2))
        return book

    def check(self, told, wanted):
        self.assertEqual(told, wanted)
        self.assertIs(type(told), tuple)
        self.assertEqual([type(part) for part in told], [int, int])

    def test_the_sum_over_all_currencies_in_lowest_terms(self):
        book = self.rich_book()
        # 7 * 2/3 - 3 * 5/4 + 2 = 35/12, and with the later rate 7/6 - 15/4 + 2 = -7/12.
        for day, wanted in ((10, (35, 12)), (19, (35, 12)), (20, (-7, 12)), (LAST, (-7, 12))):
            with self.subTest(day):
                self.check(worth(book, "cash", day), wanted)
                self.check(worth(book, "bank", day), (-wanted[0], 12))

    def test_one_currency_in_lowest_terms(self):
        book = Book("EUR")
        book.admit("cash")
        book.admit("bank")
        book.tell_rate("USD", 0, 6, 4)
        book.post(1, "", pair_of(10, "USD"))
        self.check(worth(book, "cash", 1), (15, 1))
        book.post(2, "", pair_of(-5, "USD"))
        self.check(worth(book, "cash", 2), (15, 2))
        self.check(worth(book, "bank", 2), (-15, 2))

    def test_home_alone(self):
        book = mixed_book()
        self.check(worth(book, "cash", 0), (100, 1))
        self.check(worth(book, "bank", 5), (-100100, 1))

    def test_nought_over_one(self):
        book = self.rich_book()
        self.check(worth(book, "cash", 9), (0, 1))
        self.check(worth(book, "exchange", 10), (0, 1))
        book.post(10, "", [("exchange", "USD", 3), ("exchange", "EUR", -2), ("bank", "USD", -3), ("bank", "EUR", 2)])
        self.check(worth(book, "exchange", 10), (0, 1))
        self.check(worth(book, "exchange", 20), (-3, 2))

    def test_the_greatest_figures(self):
        book = Book("EUR")
        book.admit("cash")
        book.admit("bank")
        wanted = [0, 1]
        for unit, top, bottom in (("AAA", GREATEST, 999999937), ("BBB", 999999929, 999999893), ("CCC", 1, GREATEST)):
            book.tell_rate(unit, 0, top, bottom)
            for _ in range(3):
                book.post(0, "", pair_of(MOST, unit))
            wanted = [wanted[0] * bottom + 3 * MOST * top * wanted[1], wanted[1] * bottom]
        top, bottom = worth(book, "cash", 0)
        self.assertEqual(top * wanted[1], wanted[0] * bottom)
        self.assertEqual(bottom, 999999937 * 999999893 * GREATEST)
        self.check(worth(book, "bank", 0), (-top, bottom))

    def test_no_rate_only_where_the_balance_is_not_0(self):
        book = self.rich_book()
        book.post(5, "", pair_of(1, "USD"))
        book.post(15, "", pair_of(1, "CHF"))
        book.post(17, "", pair_of(-1, "CHF"))
        for name in ("cash", "bank"):
            self.check(worth(book, name, 4), (0, 1))
            for day in (5, 9, 15, 16):
                self.refuse(NoRate, book, with_book(worth, book), account=name, day=day)
        self.check(worth(book, "cash", 14), (43, 12))
        self.check(worth(book, "cash", 17), (43, 12))
        self.check(worth(book, "exchange", 15), (0, 1))

    def test_refusals_in_their_order(self):
        book = small_book()
        book.post(30, "", pair_of(1, "GBP"))
        faults = [(NoAccount, {"account": name}) for name in ("nobody", "", "Cash")]
        faults += [(BadDay, {"day": day}) for day in BAD_DAYS]
        faults += [(NoRate, {"day": 30}), (NoRate, {"day": LAST})]
        self.refuse_in_order(book, with_book(worth, book), {"account": "cash", "day": 10}, faults)

    def test_a_bad_day_of_an_account_without_lines(self):
        book = Book("EUR")
        for day in BAD_DAYS:
            self.refuse(BadDay, book, with_book(worth, book), account="exchange", day=day)
            self.refuse(NoAccount, book, with_book(worth, book), account="cash", day=day)


class Period(BookCase):
    def test_the_first_and_the_next_ones(self):
        book = Book("EUR")
        for name in ("cash", "bank", "box"):
            book.admit(name)
        book.post(10, "", pair_of(5))
        book.post(0, "", pair_of(-2))
        book.post(11, "", pair_of(100))
        book.post(10, "", pair_of(3, "USD"))
        book.close(10)
        book.post(20, "", pair_of(-50))
        book.post(21, "", pair_of(9, "CHF", "box", "cash"))
        book.close(20)
        book.close(25)
        first = (0, 10, [("bank", "EUR", 0, 2, 5, -3), ("bank", "USD", 0, 0, 3, -3),
                         ("cash", "EUR", 0, 5, 2, 3), ("cash", "USD", 0, 3, 0, 3)])
        second = (11, 20, [("bank", "EUR", -3, 50, 100, -53), ("bank", "USD", -3, 0, 0, -3),
                           ("cash", "EUR", 3, 100, 50, 53), ("cash", "USD", 3, 0, 0, 3)])
        third = (21, 25, [("bank", "EUR", -53, 0, 0, -53), ("bank", "USD", -3, 0, 0, -3),
                          ("box", "CHF", 0, 9, 0, 9), ("cash", "CHF", 0, 0, 9, -9),
                          ("cash", "EUR", 53, 0, 0, 53), ("cash", "USD", 3, 0, 0, 3)])
        for number, wanted in enumerate((first, second, third), start=1):
            told = period(book, number)
            self.assertEqual(told, wanted)
            self.assertEqual([type(part) for part in told], [int, int, list])
            self.assertEqual({type(row) for row in told[2]}, {tuple})

    def test_a_row_also_where_all_is_nought(self):
        book = Book("EUR")
        book.admit("cash")
        book.admit("bank")
        book.post(1, "", [("cash", "EUR", 4), ("cash", "EUR", -4)])
        book.close(1)
        book.close(2)
        self.assertEqual(period(book, 1), (0, 1, [("cash", "EUR", 0, 4, 4, 0)]))
        self.assertEqual(period(book, 2), (2, 2, [("cash", "EUR", 0, 0, 0, 0)]))

    def test_what_was_told_is_the_askers_own(self):
        book = small_book()
        told = period(book, 1)
        copy = (told[0], told[1], list(told[2]))
        book.contrary(1, 10)
        book.close(15)
        self.assertEqual(told, copy)
        self.assertEqual(period(book, 1), copy)
        told[2].clear()
        self.assertEqual(period(book, 1), copy)


if __name__ == "__main__":
    unittest.main()
