"""Long runs of deeds, checked against sums over plain lists that the test keeps by itself."""

import random
import unittest
from fractions import Fraction

from books import LAST, BookCase
from doubleledger.book import Book
from doubleledger.errors import Closed, LedgerError, NoRate
from doubleledger.notes import read, written
from doubleledger.reports import journal, period, sheet, statement, worth

NAMES = ("exchange", "cash", "bank", "box", "b2")
UNITS = ("CHF", "EUR", "GBP", "USD")
SPAN = 40
DAYS = (*range(SPAN), LAST)
STEPS = 260


class Plain:
    """What was done, kept as flat lists."""

    def __init__(self):
        self.lines = []
        self.entries = []
        self.rates = []
        self.ends = []
        self.rows = ["home EUR"]

    def enter(self, day, note, lines, back):
        number = len(self.entries) + 1
        self.entries.append((number, day, note, tuple(lines), back))
        self.lines += [(day, number, *line) for line in lines]

    def rate(self, unit, day):
        if unit == "EUR":
            return (1, 1)
        told = [(since, at) for at, (name, since, _) in enumerate(self.rates) if name == unit and since <= day]
        return self.rates[max(told)[1]][2] if told else None

    def amounts(self, account, unit, first, last):
        return [line[4] for line in self.lines if line[2:4] == (account, unit) and first <= line[0] <= last]

    def closed(self):
        return self.ends[-1] if self.ends else -1


class Run:
    """A book and the plain lists beside it, changed by the same deeds that chance picks."""

    def __init__(self, seed):
        self.chance = random.Random(seed)
        self.book = Book("EUR")
        self.plain = Plain()
        for name in NAMES[1:]:
            self.book.admit(name)
            self.plain.rows.append(f"account {name}")

    def open_day(self):
        return self.chance.randint(self.plain.closed() + 1, SPAN - 1)

    def post(self):
        many = self.chance.choice((1, 2, 2, 3, 29))
        lines = []
        for _ in range(many):
            unit, amount = self.chance.choice(UNITS), self.chance.choice((1, -1, 7, 10, -25, 10 ** 29))
            lines.append((self.chance.choice(NAMES), unit, amount))
            lines.append((self.chance.choice(NAMES), unit, -amount))
        self.chance.shuffle(lines)
        day, note = self.open_day(), self.chance.choice(("", "a note", "  blanks "))
        self.book.post(day, note, lines)
        self.plain.enter(day, note, lines, 0)
        self.plain.rows.append(f"entry {day} {len(lines)} {note}")
        self.plain.rows += [f"line {name} {unit} {amount}" for name, unit, amount in lines]

    def tell_rate(self):
        unit, day = self.chance.choice(("CHF", "GBP", "USD")), self.open_day()
        pair = (self.chance.randint(1, 9), self.chance.randint(1, 9))
        self.book.tell_rate(unit, day, *pair)
        self.plain.rates.append((unit, day, pair))
        self.plain.rows.append(f"rate {unit} {day} {pair[0]} {pair[1]}")

    def convert(self):
        one, other = self.chance.sample(UNITS, 2)
        giver, taker = self.chance.choice(NAMES), self.chance.choice(NAMES)
        day, amount = self.open_day(), self.chance.randint(1, 60)
        rates = self.plain.rate(one, day), self.plain.rate(other, day)
        got = int(amount * Fraction(*rates[0]) / Fraction(*rates[1])) if None not in rates else 0
        try:
            self.book.convert(day, "c", giver, one, amount, taker, other)
        except LedgerError:
            assert got == 0
            return
        self.plain.enter(day, "c", [(giver, one, -amount), ("exchange", one, amount), ("exchange", other, -got),
                                    (taker, other, got)], 0)
        self.plain.rows.append(f"change {day} {giver} {one} {amount} {taker} {other} c")

    def contrary(self):
        backs = [entry[4] for entry in self.plain.entries]
        left = [entry for entry in self.plain.entries if not entry[4] and entry[0] not in backs]
        if left:
            entry, day = self.chance.choice(left), self.open_day()
            self.book.contrary(entry[0], day)
            turned = [(name, unit, -amount) for name, unit, amount in entry[3]]
            self.plain.enter(day, entry[2], turned, entry[0])
            self.plain.rows.append(f"back {entry[0]} {day}")

    def close(self):
        day = self.plain.closed() + self.chance.randint(1, 5)
        if day < SPAN - 1:
            self.book.close(day)
            self.plain.ends.append(day)
            self.plain.rows.append(f"close {day}")

    def step(self):
        deeds = (self.post,) * 4 + (self.tell_rate,) * 3 + (self.convert,) * 3 + (self.contrary,)
        if self.chance.randint(1, 30) == 1:
            self.close()
        else:
            self.chance.choice(deeds)()


def worth_or_none(book, account, day):
    try:
        return worth(book, account, day)
    except NoRate:
        return None


def rate_or_none(book, unit, day):
    try:
        return book.rate(unit, day)
    except NoRate:
        return None


def closed_answers(book):
    """All that may never change any more: what is told of the closed days."""
    last = book.closed()
    days = range(last + 1)
    told = {
        "periods": [period(book, number) for number in range(1, book.periods() + 1)],
        "entries": {number: book.entry(number) for number in range(1, book.many() + 1)},
        "sheets": [sheet(book, day) for day in days],
        "rates": [rate_or_none(book, unit, day) for unit in UNITS for day in days],
        "worths": [worth_or_none(book, name, day) for name in NAMES for day in days],
        "balances": [book.balance_on(name, unit, day) for name in NAMES for unit in UNITS for day in days],
    }
    if last >= 0:
        told["journal"] = journal(book, 0, last)
        told["statements"] = [statement(book, name, unit, first, last)
                              for name in NAMES for unit in UNITS for first in (0, last // 2, last)]
    return told


class Whole(BookCase):
    SEEDS = (1, 2, 3)

    def runs(self):
        for seed in self.SEEDS:
            run = Run(seed)
            for _ in range(STEPS):
                run.step()
            yield run.book, run.plain

    def test_entries_and_journals(self):
        for book, plain in self.runs():
            self.assertEqual(book.many(), len(plain.entries))
            self.assertEqual([book.entry(number + 1) for number in range(book.many())], plain.entries)
            for first, last in ((0, LAST), (0, 0), (5, 20), (20, 20), (SPAN, LAST)):
                wanted = sorted((entry[1], entry) for entry in plain.entries if first <= entry[1] <= last)
                self.assertEqual(journal(book, first, last), [entry for _, entry in wanted])

    def test_rates(self):
        for book, plain in self.runs():
            for unit in UNITS:
                for day in DAYS:
                    self.assertEqual(rate_or_none(book, unit, day), plain.rate(unit, day))

    def test_balances_are_sums_of_lines_and_come_to_nought(self):
        for book, plain in self.runs():
            for unit in UNITS:
                totals = {}
                for name in NAMES:
                    self.assertEqual(book.balance(name, unit), sum(plain.amounts(name, unit, 0, LAST)))
                    for day in DAYS:
                        told = book.balance_on(name, unit, day)
                        self.assertEqual(told, sum(plain.amounts(name, unit, 0, day)))
                        totals[day] = totals.get(day, 0) + told
                self.assertEqual(totals, dict.fromkeys(DAYS, 0))
                self.assertEqual(sum(book.balance(name, unit) for name in NAMES), 0)

    def test_statements(self):
        for book, plain in self.runs():
            for name in NAMES:
                for unit in UNITS:
                    for first, last in ((0, LAST), (0, 0), (7, 19), (20, 20)):
                        # Sorting keeps the places of one entry in their order.
                        lines = sorted((line for line in plain.lines if line[2:4] == (name, unit)
                                        and first <= line[0] <= last), key=lambda line: line[:2])
                        balance = opening = sum(plain.amounts(name, unit, 0, first - 1))
                        rows = []
                        for day, number, _, _, amount in lines:
                            balance += amount
                            rows.append((day, number, amount, balance))
                        self.assertEqual(statement(book, name, unit, first, last), (opening, rows, balance))
                        self.assertEqual(balance, sum(plain.amounts(name, unit, 0, last)))

    def test_sheets_and_worths(self):
        for book, plain in self.runs():
            for day in DAYS:
                rows = [(name, unit, sum(plain.amounts(name, unit, 0, day)))
                        for name in sorted(NAMES) for unit in UNITS]
                rows = [row for row in rows if row[2]]
                self.assertEqual(sheet(book, day), rows)
                for name in NAMES:
                    parts = [(plain.rate(unit, day), balance) for account, unit, balance in rows if account == name]
                    if all(rate for rate, _ in parts):
                        total = sum((balance * Fraction(*rate) for rate, balance in parts), Fraction(0))
                        self.assertEqual(worth(book, name, day), (total.numerator, total.denominator))
                    else:
                        self.assertRaises(NoRate, worth, book, name, day)

    def test_periods(self):
        for book, plain in self.runs():
            self.assertEqual((book.periods(), book.closed()), (len(plain.ends), plain.closed()))
            self.assertGreater(book.periods(), 2)
            ahead, first = {}, 0
            for number, last in enumerate(plain.ends, start=1):
                rows = []
                for name in sorted(NAMES):
                    for unit in UNITS:
                        if plain.amounts(name, unit, 0, last):
                            amounts = plain.amounts(name, unit, first, last)
                            came, went = sum(max(n, 0) for n in amounts), sum(max(-n, 0) for n in amounts)
                            opening = ahead.get((name, unit), 0)
                            ahead[name, unit] = opening + came - went
                            rows.append((name, unit, opening, came, went, opening + came - went))
                self.assertEqual(period(book, number), (first, last, rows))
                first = last + 1

    def test_the_text_and_the_book_read_again(self):
        for book, plain in self.runs():
            text = written(book)
            self.assertEqual(text, "".join(row + "\n" for row in plain.rows))
            again = read(text)
            self.assertEqual(written(again), text)
            self.assertEqual(closed_answers(again), closed_answers(book))
            self.assertEqual(journal(again, 0, LAST), journal(book, 0, LAST))
            self.assertEqual([sheet(again, day) for day in DAYS], [sheet(book, day) for day in DAYS])

    def test_what_is_told_of_closed_days_stays(self):
        for seed in self.SEEDS:
            run = Run(seed)
            kept = []
            for _ in range(STEPS):
                periods = run.book.periods()
                run.step()
                if run.book.periods() > periods:
                    kept.append((run.book.closed(), closed_answers(run.book)))
            self.assertGreater(len(kept), 2)
            for last, told in kept:
                now = closed_answers(run.book)
                with self.subTest(seed=seed, last=last):
                    self.check_kept(run.book, told, now, last)

    def check_kept(self, book, told, now, last):
        self.assertEqual(now["periods"][:len(told["periods"])], told["periods"])
        for number, entry in told["entries"].items():
            self.assertEqual(now["entries"][number], entry)
        self.assertEqual(now["sheets"][:last + 1], told["sheets"])
        self.assertEqual(journal(book, 0, last), told["journal"])
        self.assertEqual([rate_or_none(book, unit, day) for unit in UNITS for day in range(last + 1)],
                         told["rates"])
        self.assertEqual([worth_or_none(book, name, day) for name in NAMES for day in range(last + 1)],
                         told["worths"])
        self.assertEqual([book.balance_on(name, unit, day) for name in NAMES for unit in UNITS
                          for day in range(last + 1)], told["balances"])
        self.assertEqual([statement(book, name, unit, first, last) for name in NAMES for unit in UNITS
                          for first in (0, last // 2, last)], told["statements"])

    def test_refusals_in_between_change_nothing(self):
        for book, plain in self.runs():
            text = written(book)
            day = plain.closed()
            for act in (lambda: book.post(day, "", []), lambda: book.tell_rate("USD", day, 1, 1),
                        lambda: book.close(day), lambda: book.convert(day, "", "cash", "EUR", 1, "cash", "USD")):
                self.assertRaises(Closed, act)
            self.assertEqual(written(book), text)
            self.assertEqual(book.many(), len(plain.entries))


if __name__ == "__main__":
    unittest.main()
