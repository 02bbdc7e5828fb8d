"""Promise 3: a line's cells as they stand on the screen. The answers here are worked out by hand."""

import contextlib
import io
import time
import unittest

from bothwaysdesk.lines import levels_of, order_of
from helpers import ReadOnlyList

MOST = 4096
SECONDS_AT_MOST = 3
LOOSE_KINDS = (4, 5, 6, 7)
FIRM_KINDS = (0, 1, 2, 3)


class OrderCase(unittest.TestCase):
    def check(self, line, base, kinds, levels, answer):
        with self.subTest(line=line, base=base, kinds=kinds[:12], levels=levels[:12]):
            self.assertEqual(order_of(line[0], line[1], base, kinds, levels), answer)

    def check_turning(self, levels, answer):
        """Letters alone, so that nothing at the line's end changes its level."""
        for base in (0, 1):
            self.check((0, len(levels)), base, [0] * len(levels), levels, answer)


class Form(OrderCase):
    KINDS = [0, 1, 2, 3, 4, 5, 1, 6, 0, 7, 4]
    LEVELS = [0, 1, 2, 0, 63, 5, 1, 1, 2, 4, 3]

    def test_the_lines_places_alone_each_once(self):
        for base in (0, 1):
            for begin in range(len(self.KINDS) + 1):
                for to in range(begin, len(self.KINDS) + 1):
                    with self.subTest(base=base, begin=begin, to=to):
                        answer = order_of(begin, to, base, self.KINDS, self.LEVELS)
                        self.assertIs(type(answer), list)
                        self.assertTrue(all(type(place) is int for place in answer))
                        self.assertEqual(len(answer), to - begin)
                        self.assertEqual(sorted(answer), list(range(begin, to)))

    def test_places_are_the_texts_and_not_the_lines(self):
        self.check((2, 4), 0, [0] * 5, [0] * 5, [2, 3])
        self.check((2, 4), 0, [0] * 5, [1] * 5, [3, 2])
        self.check((4, 5), 1, [0] * 5, [1] * 5, [4])

    def test_empty_text(self):
        self.check((0, 0), 0, [], [], [])
        self.check((0, 0), 1, [], [], [])

    def test_empty_line(self):
        for base in (0, 1):
            for kinds in ([0, 1, 2, 3], [4, 5, 6, 7], [0, 4, 1, 7]):
                for level in (0, 1, 2, 63):
                    for place in (0, 1, 2, 4):
                        self.check((place, place), base, kinds, [level] * 4, [])

    def test_empty_line_in_the_longest_text(self):
        for place in (0, 2048, MOST):
            self.check((place, place), 1, [4] * MOST, [63] * MOST, [])

    def test_one_cell(self):
        for kind in range(8):
            for level in (0, 1, 2, 62, 63):
                for base in (0, 1):
                    self.check((0, 1), base, [kind], [level], [0])

    def test_arguments_go_by_their_names(self):
        self.assertEqual(order_of(begin=1, to=3, base=0, kinds=[0, 1, 1], levels=[0, 1, 1]), [2, 1])


class EndOfTheLine(OrderCase):
    def test_level_base_0_whatever_was_handed_in(self):
        # With a level above 0 the last cell would be turned with the one before it.
        for kind in LOOSE_KINDS:
            for level in range(64):
                self.check((0, 2), 0, [1, kind], [1, level], [0, 1])

    def test_level_base_1_whatever_was_handed_in(self):
        # With 0 the two cells wouldn't be turned together, with 2 or more they would be so twice.
        for kind in LOOSE_KINDS:
            for level in range(64):
                self.check((0, 2), 1, [0, kind], [2, level], [1, 0])

    def test_the_other_kinds_keep_their_level(self):
        for kind in FIRM_KINDS:
            for base in (0, 1):
                self.check((0, 2), base, [1, kind], [1, 0], [0, 1])
                self.check((0, 2), base, [1, kind], [1, 1], [1, 0])
                self.check((0, 2), base, [1, kind], [2, 2], [0, 1])
                self.check((0, 2), base, [1, kind], [3, 2], [0, 1])
                self.check((0, 2), base, [1, kind], [3, 3], [1, 0])

    def test_the_longest_stretch(self):
        self.check((0, 5), 0, [1, 4, 5, 6, 7], [1, 1, 1, 1, 1], [0, 1, 2, 3, 4])
        self.check((0, 5), 0, [1, 7, 6, 5, 4], [1, 1, 2, 3, 4], [0, 1, 2, 3, 4])
        self.check((0, 5), 1, [0, 4, 5, 6, 7], [2, 2, 2, 2, 2], [4, 3, 2, 1, 0])
        self.check((0, 6), 1, [0, 0, 7, 7, 4, 4], [2, 2, 0, 0, 0, 0], [5, 4, 3, 2, 0, 1])
        self.check((0, 6), 0, [1, 1, 7, 7, 4, 4], [1, 1, 1, 1, 1, 1], [1, 0, 2, 3, 4, 5])

    def test_the_whole_line(self):
        self.check((0, 4), 0, [4, 5, 6, 7], [1, 2, 3, 4], [0, 1, 2, 3])
        self.check((0, 4), 0, [7, 6, 5, 4], [1, 1, 1, 1], [0, 1, 2, 3])
        self.check((0, 4), 1, [4, 5, 6, 7], [1, 2, 3, 4], [3, 2, 1, 0])
        self.check((0, 4), 1, [4, 5, 6, 7], [0, 0, 0, 0], [3, 2, 1, 0])
        for kind in LOOSE_KINDS:
            self.check((0, 3), 0, [kind] * 3, [63] * 3, [0, 1, 2])
            self.check((0, 3), 1, [kind] * 3, [62] * 3, [2, 1, 0])

    def test_the_longest_text_of_such_cells(self):
        for kind in LOOSE_KINDS:
            self.check((0, MOST), 0, [kind] * MOST, [1] * MOST, list(range(MOST)))
            self.check((0, MOST), 1, [kind] * MOST, [0] * MOST, list(range(MOST - 1, -1, -1)))

    def test_another_kind_stops_it(self):
        for firm in FIRM_KINDS:
            for loose in LOOSE_KINDS:
                self.check((0, 3), 0, [loose, firm, loose], [1, 1, 1], [1, 0, 2])
                self.check((0, 4), 0, [loose, firm, loose, loose], [1, 1, 1, 1], [1, 0, 2, 3])
                self.check((0, 4), 1, [loose, loose, firm, loose], [0, 0, 0, 0], [0, 1, 2, 3])
                self.check((0, 4), 1, [firm, firm, loose, loose], [0, 0, 0, 0], [0, 1, 3, 2])

    def test_another_kind_at_the_very_end(self):
        for firm in FIRM_KINDS:
            for loose in LOOSE_KINDS:
                self.check((0, 3), 0, [loose, loose, firm], [1, 1, 1], [2, 1, 0])
                self.check((0, 3), 1, [loose, loose, firm], [0, 0, 0], [0, 1, 2])

    def test_the_lines_end_where_the_text_goes_on(self):
        kinds = [1, 1, 4, 7, 1]
        self.check((0, 5), 0, kinds, [1] * 5, [4, 3, 2, 1, 0])
        self.check((0, 4), 0, kinds, [1] * 5, [1, 0, 2, 3])
        self.check((0, 3), 0, kinds, [1] * 5, [1, 0, 2])
        self.check((0, 2), 0, kinds, [1] * 5, [1, 0])
        self.check((0, 4), 1, kinds, [2] * 5, [3, 2, 0, 1])

    def test_the_texts_end_behind_the_line_does_not_count(self):
        self.check((0, 2), 0, [1, 1, 4, 4], [1, 1, 1, 1], [1, 0])
        self.check((0, 3), 0, [4, 4, 1, 4, 4], [1] * 5, [2, 1, 0])
        self.check((1, 3), 0, [4, 4, 1, 4, 4], [1] * 5, [2, 1])

    def test_within_the_line_ahead_of_another_cell(self):
        self.check((0, 4), 0, [1, 4, 7, 1], [1, 1, 1, 1], [3, 2, 1, 0])
        self.check((0, 4), 1, [4, 5, 6, 0], [0, 0, 0, 0], [0, 1, 2, 3])
        self.check((0, 4), 0, [0, 6, 5, 2], [0, 3, 3, 0], [0, 2, 1, 3])

    def test_at_the_lines_beginning_behind_such_cells(self):
        # The stretch reaches no farther back than the line.
        self.check((2, 4), 0, [4, 4, 4, 4], [1, 1, 1, 1], [2, 3])
        self.check((2, 4), 1, [4, 4, 4, 4], [0, 0, 0, 0], [3, 2])
        self.check((2, 4), 1, [1, 4, 4, 4], [0, 0, 0, 0], [3, 2])

    def test_the_base_is_for_these_cells_alone(self):
        self.check((0, 2), 1, [0, 0], [0, 0], [0, 1])
        self.check((0, 2), 0, [1, 1], [1, 1], [1, 0])
        self.check((0, 3), 1, [0, 0, 4], [0, 0, 0], [0, 1, 2])


class Turning(OrderCase):
    def test_level_0_only(self):
        for count in range(6):
            self.check_turning([0] * count, list(range(count)))

    def test_level_1_only(self):
        for count in range(6):
            self.check_turning([1] * count, list(range(count))[::-1])

    def test_one_level_up_to_63(self):
        # Turned as often as the level says.
        for level in range(64):
            answer = [3, 2, 1, 0] if level % 2 == 1 else [0, 1, 2, 3]
            self.check_turning([level] * 4, answer)

    def test_one_level_between_cells_of_level_0(self):
        for level in range(64):
            answer = [0, 3, 2, 1, 4] if level % 2 == 1 else [0, 1, 2, 3, 4]
            self.check_turning([0, level, level, level, 0], answer)

    def test_several_stretches(self):
        self.check_turning([0, 1, 1, 0, 1, 1, 1, 0], [0, 2, 1, 3, 6, 5, 4, 7])
        self.check_turning([1, 1, 0, 1, 1], [1, 0, 2, 4, 3])
        self.check_turning([1, 0, 1], [0, 1, 2])
        self.check_turning([3, 3, 0, 2, 2, 0, 1, 1], [1, 0, 2, 3, 4, 5, 7, 6])

    def test_a_stretch_with_another_level_beside_it(self):
        self.check_turning([2, 2, 1, 1], [3, 2, 0, 1])
        self.check_turning([1, 1, 2, 2], [2, 3, 1, 0])
        self.check_turning([3, 3, 2, 2], [1, 0, 2, 3])
        self.check_turning([2, 2, 3, 3], [0, 1, 3, 2])
        self.check_turning([1, 2], [1, 0])
        self.check_turning([2, 3], [0, 1])
        self.check_turning([1, 3, 2], [1, 2, 0])

    def test_a_stretch_within_a_stretch(self):
        self.check_turning([0, 1, 2, 2, 1, 0], [0, 4, 2, 3, 1, 5])
        self.check_turning([1, 2, 2, 1], [3, 1, 2, 0])
        self.check_turning([2, 3, 3, 2], [0, 2, 1, 3])

    def test_a_stretch_within_a_stretch_several_times_over(self):
        self.check_turning([0, 1, 2, 3, 3, 2, 1, 0], [0, 6, 2, 4, 3, 5, 1, 7])
        self.check_turning([0, 1, 2, 3, 4, 4, 3, 2, 1, 0], [0, 8, 2, 6, 4, 5, 3, 7, 1, 9])
        self.check_turning([1, 2, 3, 4, 5], [1, 3, 4, 2, 0])
        self.check_turning([5, 4, 3, 2, 1], [4, 2, 0, 1, 3])

    def test_two_stretches_with_a_greater_one_between(self):
        # The greater one belongs to theirs, so they are turned as one.
        self.check_turning([1, 1, 2, 2, 1, 1], [5, 4, 2, 3, 1, 0])
        self.check_turning([0, 1, 3, 3, 1, 0], [0, 4, 3, 2, 1, 5])
        self.check_turning([2, 2, 3, 3, 2], [0, 1, 3, 2, 4])

    def test_two_greater_stretches_with_a_lesser_between(self):
        self.check_turning([2, 2, 1, 2, 2], [3, 4, 2, 0, 1])
        self.check_turning([3, 3, 2, 3, 3], [1, 0, 2, 4, 3])
        self.check_turning([1, 2, 2, 1, 2, 2, 1], [6, 4, 5, 3, 1, 2, 0])

    def test_two_greater_stretches_of_two_levels_side_by_side(self):
        self.check_turning([0, 2, 2, 3, 3, 0], [0, 1, 2, 4, 3, 5])
        self.check_turning([1, 3, 3, 2, 2, 1], [5, 2, 1, 3, 4, 0])
        self.check_turning([1, 4, 4, 3, 3, 1], [5, 4, 3, 1, 2, 0])

    def test_levels_that_leave_some_numbers_out(self):
        self.check_turning([0, 5, 63], [0, 2, 1])
        self.check_turning([63, 5, 0], [1, 0, 2])
        self.check_turning([63, 0, 5], [0, 1, 2])
        # 58 times for what is above 5, then 5 times for the rest.
        self.check_turning([0, 5, 5, 63, 63, 5, 0], [0, 5, 4, 3, 2, 1, 6])
        # 59 times for what is above 4, then 4 times for the rest.
        self.check_turning([0, 4, 4, 63, 63, 4, 0], [0, 1, 2, 4, 3, 5, 6])
        self.check_turning([0, 63, 63, 0], [0, 2, 1, 3])
        self.check_turning([0, 62, 62, 0], [0, 1, 2, 3])
        self.check_turning([62, 62, 63, 63], [0, 1, 3, 2])
        self.check_turning([61, 61, 63, 63], [3, 2, 1, 0])

    def test_kinds_do_not_count_but_at_the_end(self):
        levels = [0, 1, 2, 2, 1, 0]
        for kind in range(8):
            for base in (0, 1):
                self.check((0, 6), base, [kind] * 5 + [0], levels, [0, 4, 2, 3, 1, 5])

    def test_levels_that_no_text_has(self):
        # Letters to the left on level 0, letters to the right on 1, marks on 63.
        self.check((0, 3), 0, [1, 1, 1], [0, 0, 0], [0, 1, 2])
        self.check((0, 3), 0, [0, 0, 0], [1, 1, 1], [2, 1, 0])
        self.check((0, 4), 1, [5, 6, 7, 3], [63, 63, 0, 63], [1, 0, 2, 3])
        self.check((0, 4), 1, [2, 2, 2, 2], [0, 7, 0, 7], [0, 1, 2, 3])


class PartsOfTheText(OrderCase):
    KINDS = [0, 0, 1, 1, 2, 2, 4, 0]
    LEVELS = [0, 0, 1, 1, 2, 2, 1, 0]

    def check_line(self, begin, to, answer):
        self.check((begin, to), 0, self.KINDS, self.LEVELS, answer)

    def test_the_whole_text(self):
        self.check_line(0, 8, [0, 1, 6, 4, 5, 3, 2, 7])

    def test_from_a_place_above_0(self):
        self.check_line(1, 8, [1, 6, 4, 5, 3, 2, 7])
        self.check_line(3, 8, [6, 4, 5, 3, 7])
        self.check_line(4, 8, [6, 4, 5, 7])
        self.check_line(5, 8, [6, 5, 7])
        self.check_line(7, 8, [7])

    def test_to_before_the_texts_end(self):
        self.check_line(0, 7, [0, 1, 4, 5, 3, 2, 6])
        self.check_line(0, 6, [0, 1, 4, 5, 3, 2])
        self.check_line(0, 5, [0, 1, 4, 3, 2])
        self.check_line(0, 3, [0, 1, 2])
        self.check_line(0, 2, [0, 1])

    def test_from_above_0_to_before_the_end(self):
        self.check_line(2, 7, [4, 5, 3, 2, 6])
        self.check_line(3, 6, [4, 5, 3])
        self.check_line(4, 6, [4, 5])
        self.check_line(5, 7, [5, 6])
        self.check_line(6, 7, [6])

    def test_levels_outside_of_the_line_do_not_count(self):
        for outside in (0, 1, 2, 63):
            levels = [outside] * 3 + [1, 1, 0, 2, 1] + [outside] * 3
            self.check((3, 8), 0, [1] * 11, levels, [4, 3, 5, 7, 6])
        for outside in range(8):
            kinds = [outside] * 3 + [1, 1, 0, 1, 4] + [outside] * 3
            self.check((3, 8), 0, kinds, [1] * 11, [6, 5, 4, 3, 7])


class WithTheTextsOwnLevels(OrderCase):
    def check_text(self, base, kinds, levels, answer):
        self.assertEqual(levels_of(base, kinds), [base] + levels)
        self.check((0, len(kinds)), base, kinds, levels_of(base, kinds)[1:], answer)

    def test_letters_of_both_directions_and_a_number(self):
        kinds = [0, 0, 4, 1, 1, 4, 2, 2]
        self.check_text(0, kinds, [0, 0, 0, 1, 1, 1, 2, 2], [0, 1, 2, 6, 7, 5, 4, 3])
        self.check_text(1, kinds, [2, 2, 1, 1, 1, 1, 2, 2], [6, 7, 5, 4, 3, 2, 0, 1])

    def test_a_number_with_a_sign(self):
        kinds = [1, 4, 2, 3, 2, 4]
        self.check_text(0, kinds, [1, 1, 2, 2, 2, 0], [2, 3, 4, 1, 0, 5])
        self.check_text(1, kinds, [1, 1, 2, 2, 2, 1], [5, 2, 3, 4, 1, 0])

    def test_a_sign_at_the_end(self):
        # It stands behind a number, but in none: its level is its own and not the end's.
        self.check_text(0, [1, 2, 3], [1, 2, 0], [1, 0, 2])
        self.check_text(1, [1, 2, 3], [1, 2, 1], [2, 1, 0])

    def test_a_part(self):
        self.check_text(0, [0, 6, 0, 1, 7, 0], [0, 0, 2, 1, 0, 0], [0, 1, 3, 2, 4, 5])
        self.check_text(1, [1, 5, 0, 1, 7, 1], [1, 1, 2, 3, 1, 1], [5, 4, 2, 3, 1, 0])

    def test_a_part_within_a_part(self):
        kinds = [1, 5, 0, 6, 1, 2, 7, 7, 1, 4]
        levels = [1, 0, 2, 2, 3, 4, 2, 0, 1, 0]
        self.check_text(0, kinds, levels, [0, 1, 2, 3, 5, 4, 6, 7, 8, 9])
        self.check((0, 7), 0, kinds, levels, [0, 1, 2, 3, 5, 4, 6])
        self.check((4, 6), 0, kinds, levels, [5, 4])

    def test_a_line_that_ends_in_the_middle(self):
        # What stands between two letters to the left falls to the base at the line's end.
        kinds = [1, 1, 4, 1, 1, 4, 0]
        levels = levels_of(0, kinds)[1:]
        self.assertEqual(levels, [1, 1, 1, 1, 1, 0, 0])
        self.check((0, 7), 0, kinds, levels, [4, 3, 2, 1, 0, 5, 6])
        self.check((0, 3), 0, kinds, levels, [1, 0, 2])
        self.check((3, 7), 0, kinds, levels, [4, 3, 5, 6])

    def test_the_deepest_level_that_a_text_has(self):
        # 30 marks 5 open up to level 60, where a letter to the left has 61 and a digit behind it 62.
        kinds = [5] * 30 + [1, 2, 2]
        levels = levels_of(0, kinds)[1:]
        self.assertEqual(levels, list(range(0, 60, 2)) + [61, 62, 62])
        self.check((0, 33), 0, kinds, levels, list(range(30)) + [31, 32, 30])


class LongTexts(OrderCase):
    def check_soon(self, base, kinds, levels, answer):
        start = time.perf_counter()
        order = order_of(0, len(kinds), base, kinds, levels)
        self.assertLess(time.perf_counter() - start, SECONDS_AT_MOST)
        self.assertEqual(len(order), MOST)
        self.assertEqual(order, answer)

    def test_one_level_throughout(self):
        places = list(range(MOST))
        for level in range(64):
            self.check_soon(0, [0] * MOST, [level] * MOST, places[::-1] if level % 2 == 1 else places)

    def test_levels_from_0_to_63_in_turn(self):
        # Each turning brings the least cell from the stretch's beginning to its end.
        turned = [0] + list(range(2, 63, 2)) + list(range(63, 0, -2))
        answer = [block + place for block in range(0, MOST, 64) for place in turned]
        self.check_soon(1, [0] * MOST, list(range(64)) * 64, answer)

    def test_levels_from_63_to_0_in_turn(self):
        turned = [63 - level for level in list(range(1, 64, 2)) + list(range(62, -1, -2))]
        answer = [block + place for block in range(0, MOST, 64) for place in turned]
        self.check_soon(0, [1] * MOST, list(range(63, -1, -1)) * 64, answer)

    def test_levels_63_and_0_by_turns(self):
        self.check_soon(0, [2] * MOST, [63, 0] * 2048, list(range(MOST)))

    def test_levels_63_and_1_by_turns(self):
        self.check_soon(0, [2] * MOST, [63, 1] * 2048, list(range(MOST))[::-1])

    def test_half_of_it_at_the_lines_end(self):
        kinds = [1] * 2048 + [4] * 2048
        answer = list(range(2047, -1, -1)) + list(range(2048, MOST))
        self.check_soon(0, kinds, [63] * MOST, answer)

    def test_the_last_cell_of_the_longest_text(self):
        self.check((MOST - 1, MOST), 1, [7] * MOST, [63] * MOST, [MOST - 1])


class NothingKept(unittest.TestCase):
    CALLS = (
        (0, 0, 0, [], []),
        (0, 1, 1, [4], [63]),
        (0, 4, 0, [1, 4, 1, 4], [1, 1, 1, 1]),
        (1, 4, 1, [1, 4, 5, 7, 0], [1, 2, 3, 4, 5]),
        (2, 6, 0, [0, 1, 1, 2, 2, 4, 0], [0, 1, 1, 2, 2, 1, 0]),
        (0, 8, 1, list(range(8)), [63, 0, 62, 1, 61, 2, 60, 3]),
        (3, 3, 1, list(range(8)), [1] * 8),
    )

    def test_what_was_handed_in_is_not_changed(self):
        for begin, to, base, kinds, levels in self.CALLS:
            with self.subTest(begin=begin, to=to, kinds=kinds):
                handed_kinds = ReadOnlyList(kinds)
                handed_levels = ReadOnlyList(levels)
                answer = order_of(begin, to, base, handed_kinds, handed_levels)
                self.assertEqual(list(handed_kinds), kinds)
                self.assertEqual(list(handed_levels), levels)
                self.assertIs(type(answer), list)
                self.assertEqual(answer, order_of(begin, to, base, list(kinds), list(levels)))

    def test_same_call_answers_the_same(self):
        first = [order_of(*call) for call in self.CALLS]
        again = [order_of(*call) for call in reversed(self.CALLS)]
        self.assertEqual(first, again[::-1])

    def test_same_lists_handed_in_again(self):
        kinds = [1, 1, 1]
        levels = [1, 1, 1]
        self.assertEqual(order_of(0, 3, 0, kinds, levels), [2, 1, 0])
        kinds[2] = 4
        self.assertEqual(order_of(0, 3, 0, kinds, levels), [1, 0, 2])
        levels[0] = 2
        self.assertEqual(order_of(0, 2, 0, kinds, levels), [1, 0])
        levels[1] = 2
        self.assertEqual(order_of(0, 2, 0, kinds, levels), [0, 1])

    def test_changing_an_answer_does_not_change_the_next(self):
        for call in self.CALLS:
            with self.subTest(call=call):
                answer = order_of(*call)
                kept = list(answer)
                answer.append(9)
                answer[0] = 9
                self.assertEqual(order_of(*call), kept)

    def test_nothing_is_printed(self):
        out, err = io.StringIO(), io.StringIO()
        with contextlib.redirect_stdout(out), contextlib.redirect_stderr(err):
            for call in self.CALLS:
                order_of(*call)
        self.assertEqual((out.getvalue(), err.getvalue()), ("", ""))


if __name__ == "__main__":
    unittest.main()
