"""The limits of names, currencies, days, notes, amounts and rates, and the refusals beyond them."""

from doubleledger.errors import BadAmount, BadCurrency, BadDay, BadName, BadNote, BadRate

LONGEST_NAME = 12
CURRENCY_LETTERS = 3
LAST_DAY = 99999
LONGEST_NOTE = 40
TOO_GREAT = 10 ** 30
GREATEST_RATE = 10 ** 9


def is_small_letter(sign):
    return "a" <= sign <= "z"


def is_figure(sign):
    return "0" <= sign <= "9"


def check_name(name):
    if not 1 <= len(name) <= LONGEST_NAME:
        raise BadName("an account's name has 1 to 12 signs")
    if not is_small_letter(name[0]):
        raise BadName("an account's name begins with a small letter")
    if not all(is_small_letter(sign) or is_figure(sign) for sign in name):
        raise BadName("an account's name has small letters and figures only")


def check_currency(currency):
    if len(currency) != CURRENCY_LETTERS or not all("A" <= sign <= "Z" for sign in currency):
        raise BadCurrency("a currency has three great letters")


def check_day(day):
    if not 0 <= day <= LAST_DAY:
        raise BadDay("a day is a whole number from 0 to 99999")


def check_days(first, last):
    check_day(first)
    check_day(last)
    if last < first:
        raise BadDay("the last day is below the first")


def check_note(note):
    if len(note) > LONGEST_NOTE or not all(" " <= sign <= "~" for sign in note):
        raise BadNote("a note has up to 40 signs from the blank to ~")


def check_amount(amount):
    if amount == 0 or abs(amount) >= TOO_GREAT:
        raise BadAmount("an amount is not 0 and less than 10 ** 30 either way")


def check_rate(top, bottom):
    if not (1 <= top <= GREATEST_RATE and 1 <= bottom <= GREATEST_RATE):
        raise BadRate("top and bottom of a rate are whole numbers from 1 to 10 ** 9")
