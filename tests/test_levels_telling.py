"""Promise 2, held against the second telling of the document's points 1 to 6."""

import itertools
import unittest

from bothwaysdesk.lines import levels_of
from helpers import Drawing
from second_telling import told_levels

SEED = 20261116
BASES = (0, 1, 2)

# A kind stands in a row as often as it is to be drawn in proportion to the others.
ROWS_TO_DRAW_FROM = {
    "each kind alike": [0, 1, 2, 3, 4, 5, 6, 7],
    "no marks": [0, 1, 2, 2, 3, 3, 4],
    "mostly marks": [5, 5, 6, 6, 7, 7, 7, 0, 1, 2],
    "marks alone": [5, 6, 7, 7],
    "deep": [5, 6, 6, 5, 6, 5, 5, 6, 7, 7, 0, 1, 2],
    "deep, seldom closed": [5, 6, 5, 6, 5, 6, 7, 1, 2, 4],
    "numbers": [2, 2, 2, 3, 3, 0, 1],
    "numbers in parts": [2, 2, 2, 3, 3, 1, 5, 6, 7, 7],
    "few letters": [2, 3, 4, 4, 5, 6, 7, 7, 2, 3, 4, 4, 5, 6, 7, 7, 0, 1],
    "without closing": [0, 1, 2, 3, 4, 5, 6],
}
TEXTS_A_ROW = 60


class SecondTelling(unittest.TestCase):
    def test_every_text_of_up_to_4_cells_with_each_base(self):
        for count in range(5):
            for cells in itertools.product(range(8), repeat=count):
                for base in BASES:
                    kinds = list(cells)
                    self.assertEqual(levels_of(base, kinds), told_levels(base, kinds), (base, kinds))

    def test_longer_texts_that_are_drawn(self):
        drawing = Drawing(SEED)
        for name, row in ROWS_TO_DRAW_FROM.items():
            for count in range(TEXTS_A_ROW):
                kinds = drawing.text(row)
                for base in BASES:
                    self.assertEqual(levels_of(base, kinds), told_levels(base, kinds), (name, base, kinds))

    def test_texts_drawn_behind_many_opening_marks(self):
        # Few drawn texts get to level 60 by themselves.
        drawing = Drawing(SEED + 1)
        for count in range(120):
            deep = [5 + drawing.below(2) for mark in range(28 + drawing.below(20))]
            kinds = deep + drawing.text(ROWS_TO_DRAW_FROM["mostly marks"])
            for base in BASES:
                self.assertEqual(levels_of(base, kinds), told_levels(base, kinds), (base, kinds))

    def test_what_is_drawn_is_worth_drawing(self):
        drawing = Drawing(SEED)
        highest = [0]
        for row in ROWS_TO_DRAW_FROM.values():
            for count in range(TEXTS_A_ROW):
                highest.append(max(told_levels(2, drawing.text(row))))
        self.assertEqual(max(highest), 62)
        self.assertGreater(len(set(highest)), 30)


if __name__ == "__main__":
    unittest.main()
