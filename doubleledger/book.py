"""The book: accounts, rates by days, entries, and periods that are closed."""

from doubleledger.checks import check_amount, check_currency, check_day, check_name, check_note, check_rate
from doubleledger.errors import (
    BadAmount, BadCurrency, BadRate, Closed, NoAccount, NoEntry, NoPeriod, NoRate, Taken, TakenBack,
    TooSmall, Unbalanced,
)
from doubleledger.money import balanced, changed

EXCHANGE = "exchange"
FEWEST_LINES = 2
MOST_LINES = 60


class Book:
    """A book of accounts. Each deed checks all that it may be refused for before it changes anything.

    It keeps, of each account in the order of admitting, its moves (day, number, amount) by currency, in
    the order of entering; of each currency its rates by day; the entries; the numbers of those that are
    taken back; the last day of each period; and all deeds in order.
    """

    def __init__(self, home):
        check_currency(home)
        self.home = home
        self._accounts = {EXCHANGE: {}}
        self._rates = {}
        self._entries = []
        self._taken_back = {}
        self._ends = []
        self._deeds = [("home", home)]

    def admit(self, account):
        """Take in a new account. Refuses BadName, Taken."""
        check_name(account)
        if account in self._accounts:
            raise Taken("an account of that name is admitted already")
        self._accounts[account] = {}
        self._deeds.append(("account", account))

    def accounts(self):
        """The names of the accounts as admitted, exchange first."""
        return list(self._accounts)

    def tell_rate(self, currency, day, top, bottom):
        """Set a currency's rate from a day on. Refuses BadCurrency, BadDay, Closed, BadRate."""
        check_currency(currency)
        self._check_open(day)
        if currency == self.home:
            raise BadRate("the home currency's rate is never told")
        check_rate(top, bottom)
        told = self._rates.setdefault(currency, {})
        told[day] = (top, bottom)
        self._deeds.append(("rate", currency, day, top, bottom))

    def rate(self, currency, day):
        """The pair that holds on a day. Refuses BadCurrency, BadDay, NoRate."""
        check_currency(currency)
        check_day(day)
        if currency == self.home:
            return (1, 1)
        told = self._rates.get(currency, {})
        days = [since for since in told if since <= day]
        if not days:
            raise NoRate("no rate of that currency holds on that day")
        return told[max(days)]

    def post(self, day, note, lines):
        """Make an entry; its number. Refuses BadDay, Closed, BadNote, Unbalanced (not 2 to 60 lines),
        line by line NoAccount, BadCurrency, BadAmount; then Unbalanced.
        """
        self._check_open(day)
        check_note(note)
        # The caller may change the list later, so the book keeps lines of its own.
        kept = tuple([tuple(line) for line in lines])
        if not FEWEST_LINES <= len(kept) <= MOST_LINES:
            raise Unbalanced("an entry has 2 to 60 lines")
        for account, currency, amount in kept:
            self._check_account(account)
            check_currency(currency)
            check_amount(amount)
        if not balanced(kept):
            raise Unbalanced("the amounts do not come to nought in each currency")
        self._deeds.append(("entry", day, note, kept))
        return self._enter(day, note, kept, 0)

    def convert(self, day, note, giver, one, amount, taker, other):
        """Change an amount of one currency into another; the entry's number. Refuses BadDay, Closed,
        BadNote, NoAccount, BadCurrency, BadAmount, NoRate, TooSmall, BadAmount (too much is got).
        """
        self._check_open(day)
        check_note(note)
        self._check_account(giver)
        self._check_account(taker)
        check_currency(one)
        check_currency(other)
        if one == other:
            raise BadCurrency("a conversion has two currencies")
        if amount < 1:
            raise BadAmount("a conversion takes an amount of 1 or more")
        check_amount(amount)
        got = changed(amount, self.rate(one, day), self.rate(other, day))
        if got == 0:
            raise TooSmall("the taker would get nothing")
        check_amount(got)
        lines = (
            (giver, one, -amount),
            (EXCHANGE, one, amount),
            (EXCHANGE, other, -got),
            (taker, other, got),
        )
        self._deeds.append(("change", day, giver, one, amount, taker, other, note))
        return self._enter(day, note, lines, 0)

    def contrary(self, number, day):
        """Take an entry back; the contrary entry's number. Refuses NoEntry, TakenBack, BadDay, Closed."""
        note, lines, back = self.entry(number)[2:]
        if back != 0 or number in self._taken_back:
            raise TakenBack("the entry is taken back already, or is a contrary one")
        self._check_open(day)
        turned = tuple([(account, currency, -amount) for account, currency, amount in lines])
        self._taken_back[number] = True
        self._deeds.append(("back", number, day))
        return self._enter(day, note, turned, number)

    def entry(self, number):
        """The tuple (number, day, note, lines, back). Refuses NoEntry."""
        if not 1 <= number <= len(self._entries):
            raise NoEntry("no entry has that number")
        return self._entries[number - 1]

    def many(self):
        """How many entries there are."""
        return len(self._entries)

    def balance(self, account, currency):
        """The sum of all lines of an account and currency. Refuses NoAccount, BadCurrency."""
        return sum(move[2] for move in self._moves(account, currency))

    def balance_on(self, account, currency, day):
        """The balance at the end of a day. Refuses NoAccount, BadCurrency, BadDay."""
        moves = self._moves(account, currency)
        check_day(day)
        return sum(move[2] for move in moves if move[0] <= day)

    def close(self, day):
        """Close all days up to this one; the period's number. Refuses BadDay, Closed."""
        self._check_open(day)
        self._ends.append(day)
        self._deeds.append(("close", day))
        return len(self._ends)

    def closed(self):
        """The last closed day, -1 without one."""
        return self._ends[-1] if self._ends else -1

    def periods(self):
        """How many periods there are."""
        return len(self._ends)

    def span(self, number):
        """The first and the last day of a period. Refuses NoPeriod."""
        if not 1 <= number <= len(self._ends):
            raise NoPeriod("no period has that number")
        first = 0 if number == 1 else self._ends[number - 2] + 1
        return (first, self._ends[number - 1])

    def currencies(self, account):
        """The currencies in which an account has lines, rising. Refuses NoAccount."""
        self._check_account(account)
        return sorted(self._accounts[account])

    def moves(self, account, currency):
        """The list of (day, number, amount), one for each line of an account and currency, by day,
        then number, then place. Refuses NoAccount, BadCurrency.
        """
        # They are kept by number, then place, and sorting leaves those of one day in that order.
        return sorted(self._moves(account, currency), key=lambda move: move[0])

    def deeds(self):
        """The list of all that was done, in order, home first: tuples that begin with the deed's word."""
        return list(self._deeds)

    def _moves(self, account, currency):
        self._check_account(account)
        check_currency(currency)
        return self._accounts[account].get(currency, [])

    def _enter(self, day, note, lines, back):
        number = len(self._entries) + 1
        self._entries.append((number, day, note, lines, back))
        for account, currency, amount in lines:
            self._accounts[account].setdefault(currency, []).append((day, number, amount))
        return number

    def _check_account(self, account):
        if account not in self._accounts:
            raise NoAccount("no account of that name is admitted")

    def _check_open(self, day):
        check_day(day)
        if day <= self.closed():
            raise Closed("that day is closed")
