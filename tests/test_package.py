"""The package's files: where the interface's names stand, and how large the files may be."""

import ast
import pathlib
import unittest

ROOT = pathlib.Path(__file__).resolve().parent.parent / "doubleledger"

# The interface so far: each file's functions (with their arguments) and classes.
FUNCTIONS = {
    "money.py": {
        "lowest": ["top", "bottom"],
        "changed": ["amount", "one", "other"],
        "balanced": ["lines"],
    },
}
CLASSES = {
    "errors.py": [
        "LedgerError", "BadName", "BadCurrency", "BadAmount", "BadDay", "BadNote", "BadRate",
        "Unbalanced", "Closed", "Taken", "TakenBack", "NoAccount", "NoEntry", "NoRate", "NoPeriod",
        "TooSmall", "BadText",
    ],
}


def tree_of(name):
    return ast.parse((ROOT / name).read_text(encoding="utf-8"))


class Interface(unittest.TestCase):
    def test_functions_are_defined_in_their_file(self):
        for name, wanted in FUNCTIONS.items():
            found = {
                node.name: [arg.arg for arg in node.args.args]
                for node in tree_of(name).body if isinstance(node, ast.FunctionDef)
            }
            for function, arguments in wanted.items():
                with self.subTest(name, function=function):
                    self.assertEqual(found.get(function), arguments)

    def test_classes_are_defined_in_their_file(self):
        for name, wanted in CLASSES.items():
            found = [node.name for node in tree_of(name).body if isinstance(node, ast.ClassDef)]
            for kind in wanted:
                with self.subTest(name, kind=kind):
                    self.assertIn(kind, found)


class Files(unittest.TestCase):
    def test_nothing_but_python_files(self):
        wanted = {"__init__.py", *FUNCTIONS, *CLASSES}
        found = {path.name for path in ROOT.iterdir() if path.name != "__pycache__"}
        self.assertEqual(found, wanted)

    def test_plain_characters_and_sizes(self):
        for path in sorted(ROOT.glob("*.py")):
            with self.subTest(path.name):
                text = path.read_text(encoding="utf-8")
                self.assertTrue(all(sign == "\n" or " " <= sign <= "~" for sign in text))
                rows = text.split("\n")
                self.assertLess(len(rows), 400)
                self.assertLessEqual(max(len(row) for row in rows), 120)

    def test_small_functions(self):
        for path in sorted(ROOT.glob("*.py")):
            for node in ast.walk(tree_of(path.name)):
                if isinstance(node, ast.FunctionDef):
                    with self.subTest(path.name, function=node.name):
                        self.assertLessEqual(node.end_lineno - node.lineno + 1, 40)


if __name__ == "__main__":
    unittest.main()
