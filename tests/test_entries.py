"""Entries that are posted, and the balances that they make."""

import unittest

from books import DAYS, LAST, LONGEST, MOST, BookCase, pair_of, small_book, told_by
from doubleledger.book import Book
from doubleledger.errors import (
    BadAmount, BadCurrency, BadDay, BadNote, Closed, NoAccount, NoEntry, NoPeriod, Unbalanced,
)

SIGNS = "".join(chr(code) for code in range(32, 127) if chr(code) != "%")


def two_accounts():
    book = Book("EUR")
    book.admit("cash")
    book.admit("bank")
    return book


class Post(BookCase):
    def test_numbers_rise_from_1_whatever_the_days(self):
        book = two_accounts()
        for number, day in enumerate((50, 3, LAST, 0, 3), start=1):
            self.assertEqual(book.many(), number - 1)
            self.assertEqual(book.post(day, f"n{number}", pair_of(number)), number)
            self.assertEqual(book.many(), number)
        for number, day in enumerate((50, 3, LAST, 0, 3), start=1):
            lines = (("cash", "EUR", number), ("bank", "EUR", -number))
            self.assertEqual(book.entry(number), (number, day, f"n{number}", lines, 0))

    def test_an_entry_is_told_as_tuples(self):
        book = two_accounts()
        book.post(1, "a note", pair_of(5))
        told = book.entry(1)
        self.assertIs(type(told), tuple)
        self.assertIs(type(told[3]), tuple)
        self.assertEqual([type(line) for line in told[3]], [tuple, tuple])

    def test_lines_as_a_list_and_as_a_tuple(self):
        book = two_accounts()
        book.post(1, "", pair_of(5))
        book.post(1, "", tuple(pair_of(5)))
        self.assertEqual(book.entry(1)[3], book.entry(2)[3])

    def test_lines_are_not_changed_and_may_be_changed_behind_the_call(self):
        book = two_accounts()
        lines = pair_of(5)
        book.post(1, "", lines)
        self.assertEqual(lines, pair_of(5))
        lines[0] = ("bank", "USD", 9)
        lines.append(("bank", "USD", 9))
        self.assertEqual(book.entry(1)[3], tuple(pair_of(5)))
        lines.clear()
        self.assertEqual(book.entry(1)[3], tuple(pair_of(5)))
        self.assertEqual(book.balance("cash", "EUR"), 5)
        self.assertEqual(book.balance("bank", "USD"), 0)

    def test_an_entry_told_stays_as_it_was(self):
        book = two_accounts()
        book.post(1, "", pair_of(5))
        told = book.entry(1)
        copy = (1, 1, "", (("cash", "EUR", 5), ("bank", "EUR", -5)), 0)
        book.post(1, "", pair_of(6))
        book.contrary(1, 8)
        book.close(9)
        self.assertEqual(told, copy)
        self.assertEqual(book.entry(1), copy)

    def test_days_0_and_99999(self):
        book = two_accounts()
        book.post(0, "", pair_of(5))
        book.post(LAST, "", pair_of(6))
        self.assertEqual((book.entry(1)[1], book.entry(2)[1]), (0, LAST))

    def test_notes_of_0_and_40_signs_and_of_all_signs(self):
        book = two_accounts()
        notes = ("", " ", "  ", " both ", "~", LONGEST, " " * 40, SIGNS[:40], SIGNS[40:80], SIGNS[80:])
        for number, note in enumerate(notes, start=1):
            book.post(1, note, pair_of(5))
            self.assertEqual(book.entry(number)[2], note)

    def test_the_greatest_amounts_either_way(self):
        book = two_accounts()
        book.post(1, "", pair_of(MOST))
        book.post(1, "", pair_of(MOST))
        book.post(1, "", pair_of(1))
        self.assertEqual(book.balance("cash", "EUR"), 2 * MOST + 1)
        self.assertEqual(book.balance("bank", "EUR"), -2 * MOST - 1)

    def test_2_and_60_lines(self):
        book = two_accounts()
        book.post(1, "", pair_of(5))
        book.post(1, "", pair_of(5) * 30)
        self.assertEqual(len(book.entry(2)[3]), 60)
        self.assertEqual(book.balance("cash", "EUR"), 155)

    def test_one_line_and_61_lines_and_none(self):
        book = small_book()
        odd = [("cash", "EUR", 2), ("bank", "EUR", -1), ("bank", "EUR", -1)]
        self.assertEqual(book.post(10, "", pair_of(5) * 28 + odd), 4)
        for lines in ([], [("cash", "EUR", 5)], pair_of(5) * 29 + odd, pair_of(5) * 31, ()):
            with self.subTest(len(lines)):
                self.refuse(Unbalanced, book, book.post, day=10, note="", lines=lines)

    def test_the_count_of_lines_comes_ahead_of_the_lines(self):
        book = small_book()
        for bad in (("nobody", "EUR", 5), ("cash", "eur", 5), ("cash", "EUR", 0)):
            self.refuse(Unbalanced, book, book.post, day=10, note="", lines=[bad])
            self.refuse(Unbalanced, book, book.post, day=10, note="", lines=[bad] * 61)

    def test_each_currency_comes_to_nought_by_itself(self):
        book = small_book()
        both = pair_of(5) + pair_of(7, "USD")
        self.assertEqual(book.post(10, "", both), 4)
        for lines in (
            [("cash", "EUR", 5), ("bank", "EUR", -4)],
            [("cash", "EUR", 5), ("bank", "USD", -5)],
            [("cash", "EUR", 5), ("bank", "EUR", 5)],
            both + [("cash", "GBP", 1)],
            [("cash", "EUR", 5), ("bank", "EUR", -4), ("cash", "USD", -1)],
            pair_of(MOST) + [("cash", "EUR", -1)],
        ):
            with self.subTest(lines):
                self.refuse(Unbalanced, book, book.post, day=10, note="", lines=lines)

    def test_a_currency_needs_no_rate(self):
        book = two_accounts()
        book.post(1, "", pair_of(5, "XYZ"))
        self.assertEqual(book.balance("cash", "XYZ"), 5)

    def test_exchange_is_an_account_as_any_other(self):
        book = two_accounts()
        book.post(1, "", pair_of(5, "EUR", "exchange", "bank"))
        self.assertEqual(book.balance("exchange", "EUR"), 5)

    def test_refusals_in_their_order(self):
        book = small_book()
        faults = [(BadDay, {"day": day}) for day in (-1, LAST + 1, 10 ** 40)]
        faults += [(Closed, {"day": day}) for day in (0, 5, 9)]
        faults += [(BadNote, {"note": note}) for note in (
            "x" * 41, " " * 41, "\n", "a\nb", "\t", "\x7f", "\x1f", "\u00e4", "x" * 40 + "\n",
        )]
        faults += [(Unbalanced, {"lines": lines}) for lines in ([], pair_of(5)[:1], pair_of(5) * 31)]
        faults += [(NoAccount, {"lines": pair_of(5, "EUR", one="nobody")})]
        faults += [(BadCurrency, {"lines": pair_of(5, "eur")})]
        faults += [(BadAmount, {"lines": pair_of(MOST + 1)})]
        faults += [(Unbalanced, {"lines": pair_of(5) + pair_of(5)[:1]})]
        good = {"day": 10, "note": "", "lines": pair_of(5)}
        self.refuse_in_order(book, book.post, good, faults)
        self.assertEqual(book.post(**good), 4)


class LineByLine(BookCase):
    BAD = (
        (NoAccount, [("nobody", "EUR", 5), ("", "EUR", 5), ("Cash", "EUR", 5), ("cash ", "EUR", 5),
                     ("nobody", "eur", 0), ("a" * 13, "EUR", 0), ("cashbox", "eur", 5)]),
        (BadCurrency, [("cash", "eur", 5), ("cash", "", 5), ("cash", "EURO", 0), ("bank", "EU1", 10 ** 30)]),
        (BadAmount, [("cash", "EUR", 0), ("cash", "USD", 10 ** 30), ("bank", "EUR", -10 ** 30),
                     ("bank", "EUR", 10 ** 40)]),
    )

    def test_each_alone_in_each_place(self):
        book = small_book()
        good = pair_of(5) + pair_of(6)
        for kind, bad in self.BAD:
            for line in bad:
                for at in range(5):
                    with self.subTest(line=line, at=at):
                        lines = good[:at] + [line] + good[at:]
                        self.refuse(kind, book, book.post, day=10, note="", lines=lines)

    def test_the_line_ahead_comes_first(self):
        book = small_book()
        for kind, bad in self.BAD:
            for _, other in self.BAD:
                for line in bad:
                    for behind in other:
                        lines = [("cash", "EUR", 5), line, behind]
                        self.refuse(kind, book, book.post, day=10, note="", lines=lines)

    def test_ahead_of_what_does_not_come_to_nought(self):
        book = small_book()
        for kind, bad in self.BAD:
            for line in bad:
                lines = [("cash", "EUR", 5), ("bank", "EUR", 6), line]
                self.refuse(kind, book, book.post, day=10, note="", lines=lines)


class Entry(BookCase):
    def test_numbers_that_no_entry_has(self):
        book = small_book()
        for number in (0, -1, -2, -3, -4, 4, 5, 10 ** 40, -10 ** 40):
            with self.subTest(number):
                self.refuse(NoEntry, book, book.entry, number=number)
        self.assertRaises(NoEntry, Book("EUR").entry, 0)
        self.assertRaises(NoEntry, Book("EUR").entry, 1)


class Balances(BookCase):
    def test_the_sum_of_all_lines_of_both(self):
        book = two_accounts()
        book.post(1, "", pair_of(5))
        book.post(2, "", pair_of(-8))
        book.post(2, "", pair_of(3, "USD"))
        book.post(2, "", pair_of(100, "EUR", "cash", "exchange"))
        self.assertEqual(book.balance("cash", "EUR"), 97)
        self.assertEqual(book.balance("bank", "EUR"), 3)
        self.assertEqual(book.balance("exchange", "EUR"), -100)
        self.assertEqual(book.balance("cash", "USD"), 3)
        self.assertEqual(book.balance("bank", "USD"), -3)
        self.check_nought(book)

    def test_the_same_account_and_currency_in_several_lines(self):
        book = two_accounts()
        lines = [("cash", "EUR", 2), ("cash", "EUR", 2), ("bank", "EUR", -5), ("cash", "EUR", 1)]
        book.post(1, "", lines)
        self.assertEqual(book.balance("cash", "EUR"), 5)
        self.assertEqual(book.balance_on("cash", "EUR", 1), 5)
        self.assertEqual(book.entry(1)[3], tuple(lines))

    def test_without_lines_it_is_0(self):
        book = two_accounts()
        self.assertEqual(book.balance("cash", "EUR"), 0)
        self.assertEqual(book.balance_on("cash", "EUR", LAST), 0)
        book.post(5, "", pair_of(5))
        self.assertEqual(book.balance("cash", "USD"), 0)
        self.assertEqual(book.balance_on("cash", "USD", 5), 0)
        self.assertEqual(book.balance("exchange", "EUR"), 0)

    def test_at_the_end_of_a_day_whatever_the_order_of_days(self):
        book = two_accounts()
        for day, amount in ((20, 1), (10, 10), (30, 100), (0, 1000), (10, 10000), (LAST, 100000)):
            book.post(day, "", pair_of(amount))
        for day, worth in ((0, 1000), (9, 1000), (10, 11010), (19, 11010), (20, 11011), (29, 11011),
                           (30, 11111), (LAST - 1, 11111), (LAST, 111111)):
            with self.subTest(day):
                self.assertEqual(book.balance_on("cash", "EUR", day), worth)
                self.assertEqual(book.balance_on("bank", "EUR", day), -worth)
        self.assertEqual(book.balance("cash", "EUR"), 111111)
        self.check_nought(book)

    def test_refusals_in_their_order(self):
        book = small_book()
        faults = [(NoAccount, {"account": name}) for name in ("nobody", "", "Cash", "1", "a" * 13)]
        faults += [(BadCurrency, {"currency": unit}) for unit in ("", "eur", "EURO", "EU", "EU1")]
        self.refuse_in_order(book, book.balance, {"account": "cash", "currency": "EUR"}, faults)
        faults += [(BadDay, {"day": day}) for day in (-1, LAST + 1, 10 ** 40)]
        good = {"account": "cash", "currency": "EUR", "day": 5}
        self.refuse_in_order(book, book.balance_on, good, faults)

    def test_asking_changes_nothing(self):
        book = small_book()
        before = [book.balance("cash", "USD"), book.entry(1), book.accounts()]
        for day in DAYS:
            book.balance_on("cash", "ZZZ", day)
            book.balance_on("cash", "USD", day)
        self.assertEqual([book.balance("cash", "USD"), book.entry(1), book.accounts()], before)


class ForReports(BookCase):
    """What a book tells its reports and its text is the asker's own, too."""

    def test_the_lists_told_are_the_askers_own(self):
        book = small_book()
        before = told_by(book)
        for told in (book.deeds(), book.moves("cash", "EUR"), book.currencies("cash")):
            self.assertGreater(len(told), 0)
            told.clear()
        self.assertEqual(told_by(book), before)

    def test_refusals(self):
        book = small_book()
        self.refuse(NoAccount, book, book.currencies, account="nobody")
        self.refuse(NoAccount, book, book.moves, account="nobody", currency="eur")
        self.refuse(BadCurrency, book, book.moves, account="cash", currency="eur")
        for number in (0, -1, 2):
            self.refuse(NoPeriod, book, book.span, number=number)


if __name__ == "__main__":
    unittest.main()
