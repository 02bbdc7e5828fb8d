"""Promise 4, held against its second telling."""

import itertools
import unittest

from bothwaysdesk.lines import chosen, levels_of, order_of
from helpers import Drawing
from second_telling import told_chosen

SEED = 20261118
PLACES_TO_DRAW_FROM = {
    "few places": [0, 1, 2],
    "some places": list(range(10)),
    "places around the bounds": [4, 5, 6, 7, 8],
    "the text's first and last places": [0, 1, 4094, 4095],
    "all places": list(range(4096)),
}
SCREENS_A_ROW = 60


class ChosenTelling(unittest.TestCase):
    def check(self, i, j, most, order):
        told = told_chosen(i, j, most, order)
        self.assertEqual(chosen(i, j, most, order), told, (i, j, most, order))
        return told


class ShortScreens(ChosenTelling):
    def test_every_screen_of_up_to_4_places(self):
        for count in range(5):
            for places in itertools.product(range(4), repeat=count):
                for i, j in itertools.product(range(-1, 6), repeat=2):
                    for most in range(4):
                        self.check(i, j, most, list(places))


class LongerScreens(ChosenTelling):
    def test_screens_that_are_drawn(self):
        drawing = Drawing(SEED)
        counts = []
        for row in PLACES_TO_DRAW_FROM.values():
            for screen in range(SCREENS_A_ROW):
                order = drawing.text(row)
                i = row[drawing.below(len(row))]
                j = row[drawing.below(len(row))] + drawing.below(2)
                counts.append(self.check(i, j, 4096, order)[0])
                # Around the count itself, one less and one more is where most matters.
                for most in (max(counts[-1] - 1, 0), counts[-1], counts[-1] + 1):
                    self.check(i, j, most, order)
        self.assertGreater(len([count for count in counts if count > 1]), 100)
        self.assertGreater(len([count for count in counts if count == 0]), 50)

    def test_the_orders_of_lines_that_are_drawn(self):
        drawing = Drawing(SEED + 1)
        several = 0
        for text in range(150):
            kinds = drawing.text([0, 1, 1, 2, 3, 4, 5, 6, 7, 7])
            answer = levels_of(2, kinds)
            order = order_of(0, len(kinds), answer[0], kinds, answer[1:])
            i = drawing.below(len(kinds))
            j = i + drawing.below(len(kinds) - i + 1)
            several += self.check(i, j, 4096, order)[0] > 1
            self.check(i, j, drawing.below(4), order)
        self.assertGreater(several, 50)


if __name__ == "__main__":
    unittest.main()
