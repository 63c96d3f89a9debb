"""A book as a text, one row for each deed, and a text as the book that has had its deeds."""

from doubleledger.book import Book
from doubleledger.checks import is_figure
from doubleledger.errors import BadText

MOST_FIGURES = 60

# What stands behind the word of each row, blank by blank; a note may hold blanks of its own.
FORMS = {
    "home": ("word",),
    "account": ("word",),
    "rate": ("word", "number", "number", "number"),
    "entry": ("number", "number", "note"),
    "line": ("word", "word", "number"),
    "change": ("number", "word", "word", "number", "word", "word", "note"),
    "back": ("number", "number"),
    "close": ("number",),
}


def written(book):
    """The text of a book, a row for each deed."""
    rows = []
    for deed in book.deeds():
        rows.extend(rows_of(deed))
    return "".join([f"{row}\n" for row in rows])


def rows_of(deed):
    if deed[0] != "entry":
        return [joined(deed)]
    word, day, note, lines = deed
    head = (word, day, len(lines), note)
    return [joined(head)] + [joined(("line",) + line) for line in lines]


def joined(parts):
    return " ".join([str(part) for part in parts])


def read(text):
    """The book that has had the deeds of a text. Refuses BadText, and what its deeds refuse."""
    # All rows are read first: a text without the form is refused ahead of all deeds.
    deeds = deeds_of(rows_in(text))
    book = Book(deeds[0][1])
    for deed in deeds[1:]:
        do(book, deed)
    return book


def do(book, deed):
    match deed:
        case ("account", name):
            book.admit(name)
        case ("rate", currency, day, top, bottom):
            book.tell_rate(currency, day, top, bottom)
        case ("entry", day, note, lines):
            book.post(day, note, lines)
        case ("change", day, giver, one, amount, taker, other, note):
            book.convert(day, note, giver, one, amount, taker, other)
        case ("back", number, day):
            book.contrary(number, day)
        case ("close", day):
            book.close(day)


def rows_in(text):
    """The list of a text's rows, each the tuple of its word and what stands behind it."""
    if not text.endswith("\n"):
        raise BadText("the last row has no line end")
    return [row_in(row) for row in text[:-1].split("\n")]


def row_in(row):
    word = row.partition(" ")[0]
    if word not in FORMS:
        raise BadText("a row begins with a word that is no deed")
    kinds = FORMS[word]
    # No more splits than that: what is left of the row is its last part, blanks and all.
    parts = row.split(" ", len(kinds))[1:]
    if len(parts) != len(kinds):
        raise BadText("a row has not all its parts")
    return (word,) + tuple([part_in(kind, part) for kind, part in zip(kinds, parts)])


def part_in(kind, part):
    if kind == "note":
        return part
    if kind == "number":
        return number_in(part)
    if part == "" or " " in part:
        raise BadText("a name or a currency is a word without blanks")
    return part


def number_in(part):
    signs = part.removeprefix("-")
    if not 1 <= len(signs) <= MOST_FIGURES or not all(is_figure(sign) for sign in signs):
        raise BadText("a number has 1 to 60 figures")
    if signs[0] == "0" and part != "0":
        raise BadText("a number has no noughts ahead")
    return int(part)


def deeds_of(rows):
    """The list of the deeds of a text's rows, home first, each entry with its lines in it."""
    deeds = []
    at = 0
    while at < len(rows):
        row = rows[at]
        if (row[0] == "home") != (at == 0):
            raise BadText("home stands in the first row and in no other")
        if row[0] == "line":
            raise BadText("a line stands behind no entry that counts it")
        at += 1
        if row[0] == "entry":
            word, day, count, note = row
            lines = lines_of(rows[at:at + count], count)
            deeds.append((word, day, note, lines))
            at += count
        else:
            deeds.append(row)
    return deeds


def lines_of(rows, count):
    """The lines of an entry that counts so many, from the rows behind it."""
    if len(rows) != count or not all(row[0] == "line" for row in rows):
        raise BadText("an entry has not so many lines as it counts")
    return tuple([row[1:] for row in rows])
