"""A book as a text, and a text as a book."""

import unittest

from books import GREATEST, LAST, LONGEST, MOST, BookCase, pair_of, small_book, told_by
from doubleledger.book import Book
from doubleledger.errors import (
    BadAmount, BadCurrency, BadDay, BadName, BadNote, BadRate, BadText, Closed, LedgerError, NoAccount, NoEntry,
    NoRate, Taken, TakenBack, TooSmall, Unbalanced,
)
from doubleledger.notes import read, written

# Each kind of row, in a text that is read without a refusal.
ROWS = (
    "home EUR",
    "account cash",
    "account bank",
    "rate USD 3 2 4",
    "entry 5 3 a note of  blanks ",
    "line cash EUR 5",
    "line bank EUR -4",
    "line bank EUR -1",
    "change 6 cash EUR 3 bank USD changed",
    "change 6 cash EUR 3 bank USD ",
    "entry 0 2 ",
    "line cash USD 9",
    "line bank USD -9",
    "back 1 9",
    "close 7",
    "rate USD 8 1 1",
)


def text_of(*rows):
    return "".join(row + "\n" for row in rows)


TEXT = text_of(*ROWS)
HEAD = text_of("home EUR", "account cash", "account bank", "rate USD 3 2 4")


class Written(BookCase):
    def test_a_new_book(self):
        self.assertEqual(written(Book("EUR")), "home EUR\n")
        self.assertEqual(written(Book("ZZZ")), "home ZZZ\n")

    def test_a_row_for_each_deed_in_order(self):
        book = Book("EUR")
        book.admit("cash")
        book.admit("bank")
        book.tell_rate("USD", 3, 2, 4)
        book.post(5, "a note of  blanks ", [("cash", "EUR", 5), ("bank", "EUR", -4), ("bank", "EUR", -1)])
        book.convert(6, "changed", "cash", "EUR", 3, "bank", "USD")
        book.convert(6, "", "cash", "EUR", 3, "bank", "USD")
        book.post(0, "", pair_of(9, "USD"))
        book.contrary(1, 9)
        book.close(7)
        book.tell_rate("USD", 8, 1, 1)
        self.assertEqual(written(book), TEXT)

    def test_rates_told_again_are_written_again(self):
        book = Book("EUR")
        for top in (2, 3, 2, 2):
            book.tell_rate("USD", 3, top, 4)
        self.assertEqual(written(book), text_of("home EUR", "rate USD 3 2 4", "rate USD 3 3 4", "rate USD 3 2 4",
                                                "rate USD 3 2 4"))

    def test_the_greatest_numbers(self):
        book = Book("EUR")
        book.admit("a" * 12)
        book.tell_rate("USD", LAST, GREATEST, GREATEST)
        lines = [("a" * 12, "EUR", MOST), ("exchange", "EUR", -MOST)]
        book.post(LAST, LONGEST, lines * 30)
        text = written(book)
        rows = [f"rate USD {LAST} {GREATEST} {GREATEST}", f"entry {LAST} 60 {LONGEST}"]
        rows += [f"line {'a' * 12} EUR {MOST}", f"line exchange EUR -{MOST}"] * 30
        self.assertTrue(text.endswith(text_of(*rows)))
        self.assertEqual(written(read(text)), text)

    def test_what_is_refused_is_not_written(self):
        book = small_book()
        text = written(book)
        for act in (lambda: book.admit("cash"), lambda: book.tell_rate("EUR", 20, 1, 1),
                    lambda: book.post(20, "", []), lambda: book.convert(20, "", "cash", "EUR", 1, "cash", "GBP"),
                    lambda: book.contrary(9, 20), lambda: book.close(9)):
            self.assertRaises(LedgerError, act)
        self.assertEqual(written(book), text)

    def test_asking_writes_nothing(self):
        book = small_book()
        text = written(book)
        told_by(book)
        self.assertEqual(written(book), text)


class Read(BookCase):
    def test_a_book_with_the_same_deeds(self):
        book = read(TEXT)
        self.assertIs(type(book), Book)
        self.assertEqual(book.home, "EUR")
        self.assertEqual(book.accounts(), ["exchange", "cash", "bank"])
        self.assertEqual(book.many(), 5)
        self.assertEqual(book.entry(1)[:3], (1, 5, "a note of  blanks "))
        self.assertEqual(book.entry(2), (2, 6, "changed", (
            ("cash", "EUR", -3), ("exchange", "EUR", 3), ("exchange", "USD", -6), ("bank", "USD", 6)), 0))
        self.assertEqual(book.entry(3)[2], "")
        self.assertEqual(book.entry(4), (4, 0, "", (("cash", "USD", 9), ("bank", "USD", -9)), 0))
        self.assertEqual(book.entry(5)[4], 1)
        self.assertEqual(book.closed(), 7)
        self.assertEqual((book.rate("USD", 7), book.rate("USD", 8)), ((2, 4), (1, 1)))
        self.assertEqual(written(book), TEXT)

    def test_read_again_it_tells_the_same(self):
        for book in (Book("EUR"), small_book(), read(TEXT)):
            self.assertEqual(told_by(read(written(book))), told_by(book))

    def test_either_goes_on_by_itself(self):
        one = read(TEXT)
        other = read(written(one))
        before = told_by(one)
        other.admit("late")
        other.tell_rate("USD", 9, 5, 5)
        other.post(10, "", pair_of(3))
        other.contrary(2, 10)
        other.close(20)
        self.assertEqual(told_by(one), before)
        after = told_by(other)
        one.post(10, "one", pair_of(4))
        one.contrary(2, 11)
        self.assertEqual(told_by(other), after)
        self.refuse(TakenBack, other, other.contrary, number=2, day=30)
        self.refuse(TakenBack, one, one.contrary, number=1, day=30)

    def test_home_alone(self):
        self.assertEqual(read("home USD\n").home, "USD")

    def test_numbers_of_1_and_60_figures(self):
        for number in ("0", "1", "-1", "10", "-10", "9" * 60, "-" + "9" * 60, "1" + "0" * 59):
            self.refused_deed(BadDay if number not in ("0", "1", "10") else None, f"close {number}")

    def refused_deed(self, kind, *rows):
        """A text with the form, whose deeds ahead are done: the row's own refusal goes out, or none."""
        text = HEAD + text_of(*rows)
        if kind is None:
            self.assertEqual(written(read(text)), text)
        else:
            with self.assertRaises(LedgerError) as caught:
                read(text)
            self.assertIs(type(caught.exception), kind)

    def test_what_its_deeds_refuse_goes_out(self):
        lines = ("line cash EUR 5", "line bank EUR -5")
        for kind, *rows in (
            (BadName, "account Cash"),
            (BadName, "account 1"),
            (BadName, "account " + "a" * 13),
            (BadName, "account ~!-"),
            (Taken, "account cash"),
            (Taken, "account exchange"),
            (BadCurrency, "rate usd 3 1 1"),
            (BadCurrency, "rate X 3 1 1"),
            (BadDay, "rate USD -3 1 1"),
            (BadDay, "rate USD 100000 1 1"),
            (BadRate, "rate USD 3 0 1"),
            (BadRate, "rate USD 3 1 -1"),
            (BadRate, "rate EUR 3 1 1"),
            (BadRate, "rate USD 3 1000000001 1"),
            (BadDay, "entry -1 2 x", *lines),
            (BadDay, "entry 100000 2 x", *lines),
            (BadNote, "entry 5 2 " + "x" * 41, *lines),
            (BadNote, "entry 5 2 " + " " * 41, *lines),
            (Unbalanced, "entry 5 0 x"),
            (Unbalanced, "entry 5 0 "),
            (Unbalanced, "entry 5 1 x", lines[0]),
            (Unbalanced, "entry 5 61 x", *(lines * 31)[:61]),
            (Unbalanced, "entry 5 2 x", lines[0], lines[0]),
            (NoAccount, "entry 5 2 x", "line nobody EUR 5", lines[1]),
            (NoAccount, "entry 5 2 x", "line - EUR 5", lines[1]),
            (BadCurrency, "entry 5 2 x", "line cash eur 5", lines[1]),
            (BadAmount, "entry 5 2 x", "line cash EUR 0", lines[1]),
            (BadAmount, "entry 5 2 x", "line cash EUR 1" + "0" * 30, lines[1]),
            (BadAmount, "entry 5 2 x", "line cash EUR -" + "9" * 60, lines[1]),
            (BadDay, "change -6 cash EUR 3 bank USD x"),
            (BadNote, "change 6 cash EUR 3 bank USD " + "x" * 41),
            (NoAccount, "change 6 nobody EUR 3 bank USD x"),
            (NoAccount, "change 6 cash EUR 3 nobody USD x"),
            (BadCurrency, "change 6 cash EUR 3 bank EUR x"),
            (BadCurrency, "change 6 cash EUR 3 bank usd x"),
            (BadAmount, "change 6 cash EUR 0 bank USD x"),
            (BadAmount, "change 6 cash EUR -3 bank USD x"),
            (NoRate, "change 6 cash EUR 3 bank GBP x"),
            (NoRate, "change 2 cash EUR 3 bank USD x"),
            (TooSmall, "change 6 cash USD 1 bank EUR x"),
            (NoEntry, "back 1 9"),
            (NoEntry, "back 0 9"),
            (NoEntry, "back -1 9"),
            (TakenBack, "entry 5 2 x", *lines, "back 1 9", "back 1 9"),
            (TakenBack, "entry 5 2 x", *lines, "back 1 9", "back 2 9"),
            (BadDay, "entry 5 2 x", *lines, "back 1 -1"),
            (BadDay, "close -1"),
            (BadDay, "close 100000"),
            (Closed, "close 5", "close 5"),
            (Closed, "close 5", "rate USD 5 1 1"),
            (Closed, "close 5", "entry 5 2 x", *lines),
            (Closed, "entry 9 2 x", *lines, "close 5", "back 1 5"),
            (Closed, "close 9", "change 6 cash EUR 3 bank USD x"),
            (None, "close 5", "close 6"),
            (None, "entry 5 60 x", *lines * 30),
            (None, "entry 5 2 " + LONGEST, *lines),
            (None, "entry 5 2  ", *lines),
            (None, "entry 5 2 home", *lines),
            (None, "change 6 cash EUR 3 bank USD " + " " * 40),
            (None, "account home", "account line"),
        ):
            with self.subTest(rows):
                self.refused_deed(kind, *rows)

    def test_the_first_refused_deed_goes_out(self):
        with self.assertRaises(LedgerError) as caught:
            read(HEAD + text_of("close -1", "account cash"))
        self.assertIs(type(caught.exception), BadDay)

    def test_a_home_that_is_no_currency(self):
        for home in ("eur", "EU", "EURO", "E", "1", "~"):
            with self.assertRaises(LedgerError) as caught:
                read(f"home {home}\n")
            self.assertIs(type(caught.exception), BadCurrency)


class Forms(BookCase):
    def refuse_text(self, text):
        with self.subTest(text[-200:]):
            with self.assertRaises(LedgerError) as caught:
                read(text)
            self.assertIs(type(caught.exception), BadText)

    def refuse_row(self, row, *behind):
        """Wherever it stands, also behind a deed that would be refused."""
        self.refuse_text(HEAD + text_of(row, *behind))
        self.refuse_text(TEXT + text_of(row, *behind))
        self.refuse_text(HEAD + text_of("close -1", "account cash", row, *behind))
        self.refuse_text(HEAD + text_of(row, *behind, "close 5"))

    def test_the_last_line_end(self):
        self.refuse_text("")
        self.refuse_text("home EUR")
        self.refuse_text(TEXT[:-1])
        self.refuse_text(TEXT + "account late")
        for row in ROWS:
            self.refuse_text(HEAD + row)

    def test_no_rows_between_or_behind(self):
        self.refuse_text("\n")
        self.refuse_text("\nhome EUR\n")
        self.refuse_text(TEXT + "\n")
        for at in range(1, len(ROWS)):
            self.refuse_text(text_of(*ROWS[:at], "", *ROWS[at:]))

    def test_home_first_and_once(self):
        self.refuse_text("account cash\n")
        self.refuse_text("account cash\nhome EUR\n")
        self.refuse_text(text_of(*ROWS[1:]))
        self.refuse_text("home EUR\nhome EUR\n")
        for home in ("home EUR", "home USD", "home eur"):
            for at in range(len(ROWS) + 1):
                self.refuse_text(text_of(*ROWS[:at], home, *ROWS[at:]))

    def test_rows_of_no_deed(self):
        for row in ("Home EUR", "HOME EUR", "accounts cash", "acc cash", "post 5 0 ", "x", "homeEUR", "accountcash",
                    "entry", "line", "account", "rate", "change", "back", "close", "home", "~", "5", "word number",
                    "convert 6 cash EUR 3 bank USD x", "closed 7", "#", "contrary 1 9"):
            self.refuse_row(row)

    def test_another_blank_anywhere(self):
        for at, row in enumerate(ROWS):
            ahead, behind = ROWS[:at], ROWS[at + 1:]
            self.refuse_text(text_of(*ahead, " " + row, *behind))
            if row.split(" ")[0] not in ("entry", "change"):
                self.refuse_text(text_of(*ahead, row + " ", *behind))
            blanks = [place for place, sign in enumerate(row) if sign == " "]
            # The last blank that belongs to the form: those behind it are the note's own.
            last = {"entry": 3, "change": 7}.get(row.split(" ")[0], len(blanks))
            for place in blanks[:last - 1] if last in (3, 7) else blanks:
                self.refuse_text(text_of(*ahead, row[:place] + " " + row[place:], *behind))
            for place in blanks[:last]:
                self.refuse_text(text_of(*ahead, row[:place] + row[place + 1:], *behind))

    def test_a_blank_ahead_of_the_note_is_the_notes_own(self):
        book = read(TEXT.replace("3 a note", "3  a note").replace("USD changed", "USD  changed"))
        self.assertEqual(book.entry(1)[2], " a note of  blanks ")
        self.assertEqual(book.entry(2)[2], " changed")

    def test_too_few_and_too_many_parts(self):
        for row in ("account ", "account a b", "rate USD 3 2", "rate USD 3 2 4 5", "rate 3 2 4", "entry 5 0",
                    "entry 5", "entry 5 ", "entry ", "change 6 cash EUR 3 bank USD", "change 6 cash EUR 3 bank",
                    "change ", "back 1", "back 1 2 3", "back ", "close ", "close 7 8", "close 7 "):
            self.refuse_row(row)
        for row in ("line cash EUR", "line cash EUR 5 6", "line cash 5", "line cash EUR 5 ", "line  EUR 5",
                    "line cash  5", "line ", "line cash EUR "):
            self.refuse_row("entry 5 2 x", row, "line bank EUR -5")
            self.refuse_row("entry 5 2 x", "line bank EUR -5", row)

    def test_a_number_written_otherwise(self):
        for number in ("", "-", "+5", "05", "00", "-0", "-05", "--5", "5-", "5.", "5.0", "1_0", "0x5", "5e1", "five",
                       "x", "1" * 61, "-" + "1" * 61, "0" * 61, "1,0", "1'0", "(5)", "5L"):
            for row in (f"rate USD {number} 2 4", f"rate USD 3 {number} 4", f"rate USD 3 2 {number}",
                        f"change {number} cash EUR 3 bank USD x", f"change 6 cash EUR {number} bank USD x",
                        f"back {number} 9", f"back 1 {number}", f"close {number}"):
                self.refuse_row(row)
            self.refuse_row(f"entry {number} 2 x", "line cash EUR 5", "line bank EUR -5")
            self.refuse_row(f"entry 5 {number} x", "line cash EUR 5", "line bank EUR -5")
            self.refuse_row("entry 5 2 x", f"line cash EUR {number}", "line bank EUR -5")

    def test_just_so_many_lines_as_counted(self):
        lines = ("line cash EUR 5", "line bank EUR -5", "line cash EUR 1")
        for count in ("-1", "-2", "-5", "0", "1", "2", "4", "61", "9" * 60, "-" + "9" * 60):
            self.refuse_row(f"entry 5 {count} x", *lines)
        for count in ("1", "2", "60", "-1", "-4", "9" * 60):
            self.refuse_row(f"entry 5 {count} x")
        self.refuse_row("entry 5 3 x", lines[0], "close 5", lines[1], lines[2])
        self.refuse_row("entry 5 3 x", lines[0], lines[1], "entry 5 1 x", lines[2])
        self.refuse_row("entry 5 2 x", lines[0], "account late")
        self.refuse_row("entry 5 2 x", "home EUR", lines[0])

    def test_a_line_behind_no_entry(self):
        self.refuse_row("line cash EUR 5")
        self.refuse_text("line cash EUR 5\nhome EUR\n")
        self.refuse_text("home EUR\nline cash EUR 5\n")

    def test_ahead_of_all_deeds(self):
        self.refuse_text("home eur\nx\n")
        self.refuse_text("home eur\naccount cash")
        self.refuse_text(HEAD + text_of("account cash", "close 05"))
        self.refuse_text(HEAD + text_of("close -1", "entry 5 2 x", "line cash EUR 5"))


if __name__ == "__main__":
    unittest.main()
