"""Closing: periods, what is refused on a closed day, and what is done on the first open one."""

import unittest

from books import LAST, BookCase, pair_of, small_book
from doubleledger.book import Book
from doubleledger.errors import BadDay, Closed, NoPeriod
from doubleledger.notes import written
from doubleledger.reports import period


class Close(BookCase):
    def test_periods_are_numbered_from_1_and_follow_each_other(self):
        book = Book("EUR")
        for number, (day, first) in enumerate(((4, 0), (5, 5), (20, 6), (LAST, 21)), start=1):
            self.assertEqual(book.close(day), number)
            self.assertEqual(book.closed(), day)
            self.assertEqual(book.periods(), number)
            self.assertEqual(period(book, number), (first, day, []))

    def test_the_first_period_may_be_day_0_alone(self):
        book = Book("EUR")
        self.assertEqual(book.close(0), 1)
        self.assertEqual(book.closed(), 0)
        self.assertEqual(period(book, 1), (0, 0, []))
        self.assertEqual(book.close(1), 2)
        self.assertEqual(period(book, 2), (1, 1, []))

    def test_a_day_that_is_closed_already(self):
        book = small_book()
        for day in (9, 8, 0):
            self.refuse(Closed, book, book.close, day=day)
        self.assertEqual(book.close(10), 2)
        self.refuse(Closed, book, book.close, day=10)

    def test_a_day_that_is_none(self):
        book = small_book()
        for day in (-1, LAST + 1, -10 ** 40, 10 ** 40):
            self.refuse(BadDay, book, book.close, day=day)
        empty = Book("EUR")
        self.refuse(BadDay, empty, empty.close, day=-1)

    def test_all_days_closed(self):
        book = small_book()
        book.close(LAST)
        self.refuse(Closed, book, book.close, day=LAST)
        self.refuse(Closed, book, book.post, day=LAST, note="", lines=pair_of(5))
        self.refuse(BadDay, book, book.post, day=LAST + 1, note="", lines=pair_of(5))
        self.assertIsNone(book.admit("late"))

    def test_numbers_that_no_period_has(self):
        book = small_book()
        self.assertEqual(book.close(20), 2)
        for number in (0, -1, -2, 3, 10 ** 40, -10 ** 40):
            self.refuse(NoPeriod, book, lambda number: period(book, number), number=number)


class ClosedDays(BookCase):
    def deeds(self, book, day):
        return (
            lambda: book.tell_rate("USD", day, 1, 3),
            lambda: book.post(day, "", pair_of(5)),
            lambda: book.convert(day, "", "cash", "EUR", 5, "bank", "USD"),
            lambda: book.contrary(1, day),
            lambda: book.close(day),
        )

    def test_each_deed_is_refused_on_a_closed_day(self):
        book = small_book()
        for day in (0, 2, 3, 8, 9):
            for at, deed in enumerate(self.deeds(book, day)):
                with self.subTest(day=day, deed=at):
                    self.refuse(Closed, book, deed)

    def test_each_deed_is_done_on_the_first_open_one(self):
        for at in range(5):
            book = small_book()
            rows = written(book).count("\n")
            self.deeds(book, 10)[at]()
            self.assertGreater(written(book).count("\n"), rows)

    def test_day_0_is_open_until_it_is_closed(self):
        book = Book("EUR")
        book.admit("cash")
        book.admit("bank")
        for deed in self.deeds(book, 0):
            deed()
        for deed in self.deeds(book, 0)[:3]:
            self.refuse(Closed, book, deed)

    def test_accounts_are_admitted_behind_a_closing(self):
        book = small_book()
        book.admit("late")
        book.post(10, "", pair_of(5, one="late"))
        self.assertEqual(book.balance("late", "EUR"), 5)
        self.assertEqual([row[0] for row in period(book, 1)[2]], ["bank", "bank", "cash", "exchange", "exchange"])


if __name__ == "__main__":
    unittest.main()
