"""Promise 3, held against the second telling of "A line"."""

import itertools
import unittest

from bothwaysdesk.lines import levels_of, order_of
from helpers import Drawing
from second_telling import order_by_pairs, told_order

SEED = 20261117
BASES = (0, 1)
ALL_KINDS = list(range(8))

KINDS_TO_DRAW_FROM = {
    "each kind alike": ALL_KINDS,
    "mostly loose": [4, 4, 5, 6, 7, 7, 0],
    "firm alone": [0, 1, 2, 3],
}
LEVELS_TO_DRAW_FROM = {
    "all levels": list(range(64)),
    "low levels": [0, 1, 2, 3],
    "two levels": [1, 2],
    "no level 0": [1, 2, 3, 4, 5],
    "high levels": [60, 61, 62, 63],
    "levels far from one another": [0, 5, 63],
}
TEXTS_A_PAIR = 20


def cells_of(kinds, levels):
    return [(kind, level) for kind in kinds for level in levels]


def walk_of_levels(drawing, count):
    """Levels that go up and down by small steps, so that stretches nest deep."""
    levels = [drawing.below(4)]
    while len(levels) < count:
        levels.append(min(max(levels[-1] + drawing.below(5) - 2, 0), 63))
    return levels


def drawn_line(drawing, count):
    begin = drawing.below(count + 1)
    return begin, begin + drawing.below(count - begin + 1)


class OrderTelling(unittest.TestCase):
    def check(self, begin, to, base, kinds, levels):
        told = told_order(begin, to, base, kinds, levels)
        self.assertEqual(order_of(begin, to, base, kinds, levels), told, (begin, to, base, kinds, levels))
        return told


class ShortLines(OrderTelling):
    def each_text(self, count, kinds, levels):
        for cells in itertools.product(cells_of(kinds, levels), repeat=count):
            yield [kind for kind, level in cells], [level for kind, level in cells]

    def test_every_line_of_up_to_4_cells_with_levels_up_to_3(self):
        for count in range(5):
            for kinds, levels in self.each_text(count, (0, 3, 4, 7), range(4)):
                for base in BASES:
                    self.check(0, count, base, kinds, levels)

    def test_every_line_of_up_to_3_cells_of_each_kind(self):
        for count in range(4):
            for kinds, levels in self.each_text(count, ALL_KINDS, range(4)):
                for base in BASES:
                    self.check(0, count, base, kinds, levels)

    def test_every_line_within_a_text_of_up_to_4_cells(self):
        for count in range(5):
            for kinds, levels in self.each_text(count, (1, 3, 5), range(3)):
                for begin, to in itertools.combinations_with_replacement(range(count + 1), 2):
                    for base in BASES:
                        self.check(begin, to, base, kinds, levels)

    def test_the_second_telling_tells_the_same_by_pairs(self):
        for count in range(5):
            for kinds, levels in self.each_text(count, (2, 6), range(4)):
                for base in BASES:
                    line = (0, count, base, kinds, levels)
                    self.assertEqual(told_order(*line), order_by_pairs(*line), line)


class LongerLines(OrderTelling):
    def check_drawn(self, drawing, base, kinds, levels):
        """The whole text and a line of it. Gives back whether some cell had moved."""
        count = len(kinds)
        told = self.check(0, count, base, kinds, levels)
        begin, to = drawn_line(drawing, count)
        line = (begin, to, base, kinds, levels)
        self.assertEqual(self.check(*line), order_by_pairs(*line), line)
        return told != list(range(count))

    def test_kinds_and_levels_that_are_drawn_apart(self):
        drawing = Drawing(SEED)
        moved = 0
        for kinds_row, levels_row in itertools.product(KINDS_TO_DRAW_FROM.values(), LEVELS_TO_DRAW_FROM.values()):
            for text in range(TEXTS_A_PAIR):
                kinds = drawing.text(kinds_row)
                levels = drawing.numbers(levels_row, len(kinds))
                moved += self.check_drawn(drawing, text % 2, kinds, levels)
        self.assertGreater(moved, 300)

    def test_levels_that_go_up_and_down(self):
        drawing = Drawing(SEED + 1)
        moved = 0
        for text in range(150):
            kinds = drawing.text(ALL_KINDS)
            levels = walk_of_levels(drawing, len(kinds))
            moved += self.check_drawn(drawing, text % 2, kinds, levels)
        self.assertGreater(moved, 100)

    def test_the_levels_of_the_drawn_text_itself(self):
        drawing = Drawing(SEED + 2)
        moved = 0
        for text in range(150):
            kinds = drawing.text(ALL_KINDS + [7, 7])
            answer = levels_of(2, kinds)
            moved += self.check_drawn(drawing, answer[0], kinds, answer[1:])
        self.assertGreater(moved, 100)

    def test_lines_with_a_long_end(self):
        drawing = Drawing(SEED + 3)
        for text in range(100):
            ahead = drawing.text([0, 1, 2, 3, 4])
            loose = drawing.numbers([4, 5, 6, 7], 1 + drawing.below(40))
            kinds = ahead + loose + drawing.text([0, 1, 2, 3, 4])
            to = len(ahead) + len(loose)
            levels = drawing.numbers([0, 1, 2, 3], len(kinds))
            for base in BASES:
                self.check(0, to, base, kinds, levels)
                self.check(to // 2, to, base, kinds, levels)


if __name__ == "__main__":
    unittest.main()
