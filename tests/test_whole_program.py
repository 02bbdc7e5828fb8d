"""Levels, then lines, then what is chosen: texts whose answers are worked out by hand from the document."""

import unittest

from bothwaysdesk import lines
from bothwaysdesk.lines import base_of, chosen, levels_of, order_of
from helpers import Drawing

SEED = 20261119


class WholeProgram(unittest.TestCase):
    def check_levels(self, base, kinds, answer):
        self.assertEqual(levels_of(base, kinds), answer)
        return answer[0], answer[1:]

    def check_line(self, begin, to, base, kinds, levels, answer):
        self.assertEqual(order_of(begin, to, base, kinds, levels), answer)
        return answer

    def check_chosen(self, i, j, most, order, answer):
        self.assertEqual(chosen(i, j, most, order), answer)


class Texts(WholeProgram):
    def test_letters_of_both_directions_and_a_number(self):
        kinds = [0, 0, 4, 1, 1, 4, 2, 2]
        self.assertEqual(base_of(kinds), [0])
        base, levels = self.check_levels(2, kinds, [0, 0, 0, 0, 1, 1, 1, 2, 2])
        order = self.check_line(0, 8, base, kinds, levels, [0, 1, 2, 6, 7, 5, 4, 3])
        self.check_chosen(1, 5, 2, order, [2, 1, 3, 6, 8])
        self.check_chosen(1, 5, 1, order, [-1])
        self.check_chosen(3, 8, 1, order, [1, 3, 8])
        self.check_chosen(-1, 8, 8, order, [-1])

    def test_the_same_text_on_the_other_base(self):
        kinds = [0, 0, 4, 1, 1, 4, 2, 2]
        base, levels = self.check_levels(1, kinds, [1, 2, 2, 1, 1, 1, 1, 2, 2])
        order = self.check_line(0, 8, base, kinds, levels, [6, 7, 5, 4, 3, 2, 0, 1])
        self.check_chosen(1, 5, 2, order, [2, 3, 6, 7, 8])
        self.check_chosen(0, 2, 1, order, [1, 6, 8])
        self.check_chosen(0, 8, 1, order, [1, 0, 8])

    def test_a_number_with_a_sign_and_a_loose_end(self):
        kinds = [1, 4, 2, 3, 2, 4]
        self.assertEqual(base_of(kinds), [1])
        base, levels = self.check_levels(2, kinds, [1, 1, 1, 2, 2, 2, 1])
        order = self.check_line(0, 6, base, kinds, levels, [5, 2, 3, 4, 1, 0])
        self.check_chosen(1, 3, 2, order, [2, 1, 2, 4, 5])
        base, levels = self.check_levels(0, kinds, [0, 1, 1, 2, 2, 2, 0])
        order = self.check_line(0, 6, base, kinds, levels, [2, 3, 4, 1, 0, 5])
        self.check_chosen(1, 3, 2, order, [2, 0, 1, 3, 4])
        self.check_chosen(4, 6, 2, order, [2, 2, 3, 5, 6])

    def test_a_part_and_lines_of_its_text(self):
        kinds = [0, 4, 6, 1, 4, 0, 2, 7, 4, 1]
        base, levels = self.check_levels(2, kinds, [0, 0, 0, 0, 1, 1, 2, 2, 1, 1, 1])
        order = self.check_line(0, 10, base, kinds, levels, [0, 1, 2, 9, 8, 7, 5, 6, 4, 3])
        self.check_chosen(2, 6, 3, order, [3, 2, 3, 6, 7, 8, 10])
        self.check_chosen(2, 6, 2, order, [-1])
        # Without the last letter, the mark and the cell ahead of it are the line's end.
        order = self.check_line(0, 9, base, kinds, levels, [0, 1, 2, 5, 6, 4, 3, 7, 8])
        self.check_chosen(2, 6, 3, order, [2, 2, 4, 5, 7])
        order = self.check_line(5, 10, base, kinds, levels, [9, 8, 7, 5, 6])
        self.check_chosen(6, 8, 3, order, [2, 2, 3, 4, 5])
        self.check_chosen(0, 10, 3, order, [1, 0, 5])
        self.check_chosen(0, 5, 3, order, [0])

    def test_parts_within_parts(self):
        kinds = [6, 1, 5, 0, 1, 7, 1, 7, 0]
        base, levels = self.check_levels(2, kinds, [1, 1, 3, 3, 4, 5, 3, 3, 1, 2])
        order = self.check_line(0, 9, base, kinds, levels, [8, 7, 6, 5, 3, 4, 2, 1, 0])
        self.check_chosen(2, 5, 1, order, [1, 4, 7])
        self.check_chosen(4, 6, 2, order, [2, 3, 4, 5, 6])
        self.check_chosen(4, 6, 1, order, [-1])

    def test_a_text_in_two_lines(self):
        # Broken behind the cell between two words to the left, which ends the first line.
        kinds = [0, 4, 1, 1, 4, 1, 1]
        base, levels = self.check_levels(0, kinds, [0, 0, 0, 1, 1, 1, 1, 1])
        whole = self.check_line(0, 7, base, kinds, levels, [0, 1, 6, 5, 4, 3, 2])
        first = self.check_line(0, 5, base, kinds, levels, [0, 1, 3, 2, 4])
        second = self.check_line(5, 7, base, kinds, levels, [6, 5])
        self.check_chosen(3, 6, 9, whole, [1, 3, 6])
        self.check_chosen(3, 6, 9, first, [2, 2, 3, 4, 5])
        self.check_chosen(3, 6, 9, second, [1, 1, 2])

    def test_empty_text(self):
        self.assertEqual(base_of([]), [0])
        base, levels = self.check_levels(2, [], [0])
        order = self.check_line(0, 0, base, [], levels, [])
        self.check_chosen(0, 1, 0, order, [0])
        self.check_chosen(0, -1, 0, order, [-1])

    def test_the_longest_text(self):
        # Each letter to the left stands alone on level 1 between letters to the right.
        kinds = [0, 1] * 2048
        base, levels = self.check_levels(2, kinds, [0] + [0, 1] * 2048)
        order = self.check_line(0, 4096, base, kinds, levels, list(range(4096)))
        self.check_chosen(1, 4095, 1, order, [1, 1, 4095])
        # On base 1 they stand from the right.
        base, levels = self.check_levels(1, kinds, [1] + [2, 1] * 2048)
        order = self.check_line(0, 4096, base, kinds, levels, list(range(4095, -1, -1)))
        self.check_chosen(1, 4095, 1, order, [1, 1, 4095])
        self.check_chosen(0, 1, 1, order, [1, 4095, 4096])


class NothingKeptBetweenCalls(unittest.TestCase):
    KINDS = ([], [1], [0, 4, 1, 2], [6, 0, 1, 7, 4], [5, 6, 5, 1, 2, 3, 2, 7, 7], [6] * 70, list(range(8)))

    def calls(self):
        for kinds in self.KINDS:
            count = len(kinds)
            yield base_of, (kinds,)
            for base in (0, 1, 2):
                yield levels_of, (base, kinds)
            for base in (0, 1):
                yield order_of, (0, count, base, kinds, [level % 64 for level in range(count)])
                yield order_of, (count // 2, count, base, kinds, [1] * count)
            for i, j in ((0, 2), (-1, 2), (3, 1), (1, 9)):
                yield chosen, (i, j, 1, kinds)

    def test_every_call_made_again_after_others_answers_as_at_first(self):
        calls = list(self.calls())
        first = [function(*arguments) for function, arguments in calls]
        backwards = range(len(calls) - 1, -1, -1)
        drawn = Drawing(SEED).numbers(range(len(calls)), 1000)
        for place in [*backwards, *drawn]:
            function, arguments = calls[place]
            self.assertEqual(function(*arguments), first[place], (function.__name__, arguments))

    def test_every_call_made_again_at_once_answers_the_same_in_another_list(self):
        for function, arguments in self.calls():
            first = function(*arguments)
            again = function(*arguments)
            self.assertEqual(first, again)
            self.assertIsNot(first, again)

    def test_the_modules_own_names_stay_as_they_are(self):
        before = {name: repr(value) for name, value in vars(lines).items() if name != "__builtins__"}
        for function, arguments in self.calls():
            function(*arguments)
        after = {name: repr(value) for name, value in vars(lines).items() if name != "__builtins__"}
        self.assertEqual(before, after)


if __name__ == "__main__":
    unittest.main()
