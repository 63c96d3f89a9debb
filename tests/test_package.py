"""The package's files: where the interface's names stand, what they import, how large they may be."""

import ast
import builtins
import io
import pathlib
import tokenize
import unittest

ROOT = pathlib.Path(__file__).resolve().parent.parent / "doubleledger"

# The interface: each file's functions (with their arguments), classes, and the methods of Book.
FUNCTIONS = {
    "money.py": {
        "lowest": ["top", "bottom"],
        "changed": ["amount", "one", "other"],
        "balanced": ["lines"],
    },
    "reports.py": {
        "journal": ["book", "first", "last"],
        "statement": ["book", "account", "currency", "first", "last"],
        "sheet": ["book", "day"],
        "worth": ["book", "account", "day"],
        "period": ["book", "number"],
    },
    "notes.py": {
        "written": ["book"],
        "read": ["text"],
    },
}
METHODS = {
    "__init__": ["home"],
    "admit": ["account"],
    "accounts": [],
    "tell_rate": ["currency", "day", "top", "bottom"],
    "rate": ["currency", "day"],
    "post": ["day", "note", "lines"],
    "convert": ["day", "note", "giver", "one", "amount", "taker", "other"],
    "contrary": ["number", "day"],
    "entry": ["number"],
    "many": [],
    "balance": ["account", "currency"],
    "balance_on": ["account", "currency", "day"],
    "close": ["day"],
    "closed": [],
    "periods": [],
}
CLASSES = {
    "errors.py": [
        "LedgerError", "BadName", "BadCurrency", "BadAmount", "BadDay", "BadNote", "BadRate",
        "Unbalanced", "Closed", "Taken", "TakenBack", "NoAccount", "NoEntry", "NoRate", "NoPeriod",
        "TooSmall", "BadText",
    ],
    "book.py": ["Book"],
}
HELPERS = ["__init__.py", "checks.py"]
# Words that may stand in no file of the package but in comments and docstrings.
BARRED = {
    "type", "typing", "enum", "Enum", "namedtuple", "dataclass", "abstractmethod", "register", "elements",
    "open", "input", "law", "global", "async", "float", "print", "eval", "exec",
}


def tree_of(name):
    return ast.parse((ROOT / name).read_text(encoding="utf-8"))


def arguments_of(node):
    return [arg.arg for arg in node.args.args]


class Interface(unittest.TestCase):
    def test_functions_are_defined_in_their_file(self):
        for name, wanted in FUNCTIONS.items():
            found = {
                node.name: arguments_of(node)
                for node in tree_of(name).body if isinstance(node, ast.FunctionDef)
            }
            for function, arguments in wanted.items():
                with self.subTest(name, function=function):
                    self.assertEqual(found.get(function), arguments)

    def test_classes_are_defined_in_their_file(self):
        for name, wanted in CLASSES.items():
            found = [node.name for node in tree_of(name).body if isinstance(node, ast.ClassDef)]
            for kind in wanted:
                with self.subTest(name, kind=kind):
                    self.assertIn(kind, found)


    def test_methods_are_defined_in_their_class(self):
        book, = [node for node in tree_of("book.py").body if isinstance(node, ast.ClassDef)]
        found = {node.name: arguments_of(node) for node in book.body if isinstance(node, ast.FunctionDef)}
        for method, arguments in METHODS.items():
            with self.subTest(method):
                self.assertEqual(found.get(method), ["self"] + arguments)


class Words(unittest.TestCase):
    def test_imports_are_full_names_of_the_package_and_gcd(self):
        for path in sorted(ROOT.glob("*.py")):
            for node in ast.walk(tree_of(path.name)):
                with self.subTest(path.name):
                    self.assertNotIsInstance(node, ast.Import)
                    if isinstance(node, ast.ImportFrom) and node.module == "math":
                        self.assertEqual([name.name for name in node.names], ["gcd"])
                    elif isinstance(node, ast.ImportFrom):
                        self.assertTrue((ROOT.parent / (node.module.replace(".", "/") + ".py")).is_file())
                        self.assertEqual(node.level, 0)

    def test_no_barred_word_and_no_percent_sign(self):
        for path in sorted(ROOT.glob("*.py")):
            text = path.read_text(encoding="utf-8")
            for token in tokenize.generate_tokens(io.StringIO(text).readline):
                if token.type == tokenize.OP or token.type == tokenize.NAME:
                    with self.subTest(path.name, line=token.start[0]):
                        self.assertNotIn(token.string, BARRED)
                        self.assertNotIn(token.string, ("/", "%"))
                if token.type == tokenize.STRING:
                    self.assertNotIn("%", token.string)

    def test_no_name_of_a_builtin_is_given_another_meaning(self):
        for path in sorted(ROOT.glob("*.py")):
            for node in ast.walk(tree_of(path.name)):
                name = None
                if isinstance(node, ast.Name) and isinstance(node.ctx, ast.Store):
                    name = node.id
                elif isinstance(node, ast.arg):
                    name = node.arg
                elif isinstance(node, (ast.FunctionDef, ast.ClassDef, ast.MatchAs)):
                    name = node.name
                if name:
                    with self.subTest(path.name, line=node.lineno):
                        self.assertNotIn(name, vars(builtins))


class Files(unittest.TestCase):
    def test_nothing_but_python_files(self):
        wanted = {*HELPERS, *FUNCTIONS, *CLASSES}
        found = {path.name for path in ROOT.iterdir() if path.name != "__pycache__"}
        self.assertEqual(found, wanted)

    def test_plain_characters_and_sizes(self):
        for path in sorted(ROOT.glob("*.py")):
            with self.subTest(path.name):
                text = path.read_text(encoding="utf-8")
                self.assertTrue(all(sign == "\n" or " " <= sign <= "~" for sign in text))
                rows = text.split("\n")
                self.assertLess(len(rows), 400)
                self.assertLessEqual(max(len(row) for row in rows), 120)

    def test_small_functions(self):
        for path in sorted(ROOT.glob("*.py")):
            for node in ast.walk(tree_of(path.name)):
                if isinstance(node, ast.FunctionDef):
                    with self.subTest(path.name, function=node.name):
                        self.assertLessEqual(node.end_lineno - node.lineno + 1, 40)


if __name__ == "__main__":
    unittest.main()
