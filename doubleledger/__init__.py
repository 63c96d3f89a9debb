"""Doubleledger: a book of accounts that always comes to nought."""
