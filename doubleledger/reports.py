"""What a book tells of a span of days: journals, statements, sheets, worths and periods."""

from doubleledger.checks import check_day, check_days
from doubleledger.money import lowest


def journal(book, first, last):
    """The list of the entries on those days, by day, then number. Refuses BadDay."""
    check_days(first, last)
    entries = [book.entry(number) for number in range(1, book.many() + 1)]
    chosen = [entry for entry in entries if first <= entry[1] <= last]
    return sorted(chosen, key=lambda entry: (entry[1], entry[0]))


def statement(book, account, currency, first, last):
    """The tuple (opening, rows, closing), a row (day, number, amount, balance behind it) for each line
    on those days. Refuses NoAccount, BadCurrency, BadDay.
    """
    moves = book.moves(account, currency)
    check_days(first, last)
    opening = sum_before(moves, first)
    balance = opening
    rows = []
    for day, number, amount in moves:
        if first <= day <= last:
            balance = balance + amount
            rows.append((day, number, amount, balance))
    return (opening, rows, balance)


def sheet(book, day):
    """The list of (account, currency, balance) for each balance at the end of a day that is not 0,
    by account, then currency. Refuses BadDay.
    """
    check_day(day)
    rows = []
    for account in sorted(book.accounts()):
        for currency in book.currencies(account):
            balance = book.balance_on(account, currency, day)
            if balance != 0:
                rows.append((account, currency, balance))
    return rows


def worth(book, account, day):
    """The pair of what an account's balances at the end of a day are worth in the home currency.
    Refuses NoAccount, BadDay, NoRate.
    """
    currencies = book.currencies(account)
    check_day(day)
    top, bottom = 0, 1
    for currency in currencies:
        balance = book.balance_on(account, currency, day)
        # A currency of which nothing is left needs no rate.
        if balance != 0:
            rate_top, rate_bottom = book.rate(currency, day)
            top, bottom = lowest(top * rate_bottom + balance * rate_top * bottom, bottom * rate_bottom)
    return (top, bottom)


def period(book, number):
    """The tuple (first, last, rows) of a closed period, a row (account, currency, opening, came, went,
    closing) for each account and currency with a line by its end. Refuses NoPeriod.
    """
    first, last = book.span(number)
    rows = []
    for account in sorted(book.accounts()):
        for currency in book.currencies(account):
            moves = [move for move in book.moves(account, currency) if move[0] <= last]
            if moves:
                opening, came, went, closing = figures(moves, first)
                rows.append((account, currency, opening, came, went, closing))
    return (first, last, rows)


def figures(moves, first):
    """Opening, what came and went from the day first on, and closing, of the moves of a period's end."""
    opening = sum_before(moves, first)
    amounts = [move[2] for move in moves if move[0] >= first]
    came = sum(amount for amount in amounts if amount > 0)
    went = -sum(amount for amount in amounts if amount < 0)
    return (opening, came, went, opening + came - went)


def sum_before(moves, first):
    # The day ahead of day 0 is no day, so the book can not be asked for its balance.
    return sum(move[2] for move in moves if move[0] < first)
