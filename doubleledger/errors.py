"""The refusals: one class for each kind, all under LedgerError, none under another."""


class LedgerError(ValueError):
    """Any refusal."""


class BadName(LedgerError):
    """An account's name is not 1 to 12 small letters and figures, a letter first."""


class BadCurrency(LedgerError):
    """A currency is not three great letters, or may not stand where it was told."""


class BadAmount(LedgerError):
    """An amount is nought or too great, or below 1 where it must be above nought."""


class BadDay(LedgerError):
    """A day is not from 0 to 99999, or a last day is below the first."""


class BadNote(LedgerError):
    """A note is longer than 40 signs, or has a sign that is not from the blank to ~."""


class BadRate(LedgerError):
    """A rate's top or bottom is out of bounds, or the rate is the home currency's."""


class Unbalanced(LedgerError):
    """An entry has not 2 to 60 lines, or does not come to nought in each currency."""


class Closed(LedgerError):
    """The day lies in a period that is closed."""


class Taken(LedgerError):
    """An account of that name is admitted already."""


class TakenBack(LedgerError):
    """The entry is taken back already, or is a contrary one itself."""


class NoAccount(LedgerError):
    """No account of that name is admitted."""


class NoEntry(LedgerError):
    """No entry has that number."""


class NoRate(LedgerError):
    """No rate of that currency holds on that day."""


class NoPeriod(LedgerError):
    """No closed period has that number."""


class TooSmall(LedgerError):
    """A conversion would give the taker nothing."""


class BadText(LedgerError):
    """A text has not the form in which a book is written."""
