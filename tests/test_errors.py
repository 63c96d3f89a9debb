"""The errors of the interface: each is there, a LedgerError, and none of the others."""

import unittest

from doubleledger import errors

NAMES = (
    "BadName", "BadCurrency", "BadAmount", "BadDay", "BadNote", "BadRate", "Unbalanced", "Closed",
    "Taken", "TakenBack", "NoAccount", "NoEntry", "NoRate", "NoPeriod", "TooSmall", "BadText",
)


class Errors(unittest.TestCase):
    def test_ledger_error_is_a_value_error(self):
        self.assertTrue(issubclass(errors.LedgerError, ValueError))

    def test_each_is_a_ledger_error_and_a_value_error(self):
        for name in NAMES:
            with self.subTest(name):
                kind = getattr(errors, name)
                self.assertTrue(issubclass(kind, errors.LedgerError))
                self.assertTrue(issubclass(kind, ValueError))

    def test_none_is_under_another(self):
        for name in NAMES:
            for other in NAMES:
                with self.subTest(name, other=other):
                    self.assertEqual(
                        issubclass(getattr(errors, name), getattr(errors, other)), name == other
                    )

    def test_ledger_error_is_under_none_of_them(self):
        for name in NAMES:
            with self.subTest(name):
                self.assertFalse(issubclass(errors.LedgerError, getattr(errors, name)))

    def test_each_can_be_raised_and_caught_as_any_refusal(self):
        for name in ("LedgerError",) + NAMES:
            with self.subTest(name):
                kind = getattr(errors, name)
                with self.assertRaises(errors.LedgerError) as caught:
                    raise kind("why")
                self.assertIs(caught.exception.__class__, kind)
                self.assertEqual(str(caught.exception), "why")


if __name__ == "__main__":
    unittest.main()
