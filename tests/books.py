"""What the tests of books share: a book to try things on, all that it tells, and refusals."""

import unittest
from itertools import combinations

from doubleledger.book import Book
from doubleledger.errors import LedgerError
from doubleledger.notes import written
from doubleledger.reports import journal, period, sheet

LAST = 99999
MOST = 10 ** 30 - 1
GREATEST = 10 ** 9
LONGEST = "x" * 40
CURRENCIES = ("CHF", "EUR", "GBP", "USD", "ZZZ")
DAYS = (0, 1, 9, 10, 11, 20, 30, LAST)


def pair_of(amount, currency="EUR", one="cash", other="bank"):
    """Two lines that come to nought."""
    return [(one, currency, amount), (other, currency, -amount)]


def small_book():
    """Home EUR; USD is told, GBP is not; closed up to day 9, entries on and behind it."""
    book = Book("EUR")
    book.admit("cash")
    book.admit("bank")
    book.tell_rate("USD", 2, 1, 2)
    book.post(3, "first", pair_of(100))
    book.convert(4, "changed", "cash", "EUR", 10, "bank", "USD")
    book.close(9)
    book.post(12, "behind", pair_of(7, "USD"))
    return book


def rate_or_refusal(book, currency, day):
    try:
        return book.rate(currency, day)
    except LedgerError as why:
        return type(why)


def told_by(book):
    """All that a book tells that a refused deed could have changed."""
    accounts = book.accounts()
    many = book.many()
    periods = book.periods()
    return {
        "home": book.home,
        "accounts": accounts,
        "many": many,
        "entries": [book.entry(number) for number in range(1, many + 1)],
        "balances": [book.balance(name, unit) for name in accounts for unit in CURRENCIES],
        "journal": journal(book, 0, LAST),
        "sheets": [sheet(book, day) for day in DAYS],
        "rates": [rate_or_refusal(book, unit, day) for unit in CURRENCIES for day in DAYS],
        "closed": book.closed(),
        "periods": [period(book, number) for number in range(1, periods + 1)],
        "text": written(book),
    }


class BookCase(unittest.TestCase):
    def refuse(self, kind, book, act, **given):
        """The act is refused with just that class, and nothing that the book tells has changed."""
        before = told_by(book)
        with self.assertRaises(LedgerError) as caught:
            act(**given)
        self.assertIs(type(caught.exception), kind)
        self.assertEqual(told_by(book), before)

    def refuse_in_order(self, book, act, good, faults):
        """Each fault (its class, the arguments that make it) alone, then each two that can stand
        together, of which the one told first comes, then each three."""
        for many in (1, 2, 3):
            for chosen in combinations(faults, many):
                given = [name for _, fault in chosen for name in fault]
                if len(given) == len(set(given)):
                    wrong = {name: worth for _, fault in chosen for name, worth in fault.items()}
                    with self.subTest(**wrong):
                        self.refuse(chosen[0][0], book, act, **{**good, **wrong})

    def check_nought(self, book):
        """All balances of each currency come to nought, by now and at the end of each day of DAYS."""
        for unit in CURRENCIES:
            self.assertEqual(sum(book.balance(name, unit) for name in book.accounts()), 0)
            for day in DAYS:
                self.assertEqual(sum(book.balance_on(name, unit, day) for name in book.accounts()), 0)
