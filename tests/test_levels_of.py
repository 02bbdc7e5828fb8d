"""Promise 2: the base, then each cell's level. The answers here are worked out by hand."""

import contextlib
import io
import time
import unittest

from bothwaysdesk.lines import levels_of
from helpers import ReadOnlyList

MOST = 4096
SECONDS_AT_MOST = 5


class LevelsCase(unittest.TestCase):
    def check(self, base, kinds, answer):
        with self.subTest(base=base, kinds=kinds[:12]):
            self.assertEqual(levels_of(base, kinds), answer)


class Form(LevelsCase):
    TEXTS = ([], [0], [1], [2], [1, 2, 3, 2], [6, 0, 7, 7], list(range(8)), [5, 1, 2] * 40)

    def test_empty_text(self):
        self.check(0, [], [0])
        self.check(1, [], [1])
        self.check(2, [], [0])

    def test_the_base_and_a_level_for_each_cell(self):
        for base in (0, 1, 2):
            for kinds in self.TEXTS:
                with self.subTest(base=base, kinds=kinds[:8]):
                    answer = levels_of(base, kinds)
                    self.assertIs(type(answer), list)
                    self.assertEqual(len(answer), 1 + len(kinds))
                    self.assertIn(answer[0], (0, 1))
                    self.assertTrue(all(type(number) is int for number in answer))
                    self.assertTrue(all(0 <= level <= 62 for level in answer[1:]))

    def test_arguments_go_by_their_names(self):
        self.assertEqual(levels_of(base=1, kinds=[0]), [1, 2])


class Base(LevelsCase):
    def test_base_2_with_a_first_letter_to_the_right(self):
        self.check(2, [0], [0, 0])
        self.check(2, [0, 1], [0, 0, 1])
        self.check(2, [4, 0, 1], [0, 0, 0, 1])

    def test_base_2_with_a_first_letter_to_the_left(self):
        self.check(2, [1], [1, 1])
        self.check(2, [1, 0], [1, 1, 2])
        self.check(2, [4, 1, 0], [1, 1, 1, 2])

    def test_base_2_without_a_letter(self):
        self.check(2, [4], [0, 0])
        self.check(2, [2, 3], [0, 0, 0])
        self.check(2, [6, 4, 7], [0, 0, 1, 0])

    def test_base_2_with_a_first_letter_within_a_part(self):
        self.check(2, [5, 1], [1, 1, 3])
        self.check(2, [6, 0, 1], [0, 0, 2, 1])

    def test_a_base_that_is_given_stays(self):
        self.check(0, [1], [0, 1])
        self.check(1, [0], [1, 2])


class Parts(LevelsCase):
    def test_marks_on_an_even_level(self):
        self.check(0, [5, 0, 7], [0, 0, 2, 0])
        self.check(0, [6, 1, 7], [0, 0, 1, 0])
        self.check(0, [5, 5, 0], [0, 0, 2, 4])
        self.check(0, [5, 6, 1], [0, 0, 2, 3])

    def test_marks_on_an_odd_level(self):
        self.check(1, [5, 0, 7], [1, 1, 2, 1])
        self.check(1, [6, 1, 7], [1, 1, 3, 1])
        self.check(1, [6, 5, 0], [1, 1, 3, 4])
        self.check(1, [6, 6, 1], [1, 1, 3, 5])

    def test_marks_on_both(self):
        self.check(0, [6, 5, 6, 1], [0, 0, 1, 2, 3])
        self.check(0, [5, 5, 6, 6, 1], [0, 0, 2, 4, 5, 7])

    def test_both_marks_belong_to_the_part_around(self):
        self.check(0, [0, 5, 0, 7, 0], [0, 0, 0, 2, 0, 0])
        self.check(1, [1, 6, 1, 7, 1], [1, 1, 1, 3, 1, 1])
        self.check(0, [5, 0, 5, 0, 7, 0, 7, 0], [0, 0, 2, 2, 4, 2, 2, 0, 0])

    def test_closing_takes_the_part_opened_last(self):
        self.check(0, [5, 6, 1, 7, 0, 7, 0], [0, 0, 2, 3, 2, 2, 0, 0])
        self.check(0, [6, 5, 0, 7, 1, 7, 0], [0, 0, 1, 2, 1, 1, 0, 0])

    def test_closing_where_nothing_is_open(self):
        self.check(0, [7], [0, 0])
        self.check(1, [7], [1, 1])
        self.check(0, [7, 0], [0, 0, 0])
        self.check(0, [0, 7, 1], [0, 0, 0, 1])
        self.check(0, [5, 0, 7, 7, 0], [0, 0, 2, 0, 0, 0])

    def test_closing_where_nothing_is_open_is_not_owed(self):
        self.check(0, [7, 7, 7, 5, 0], [0, 0, 0, 0, 0, 2])
        self.check(0, [5, 7, 7, 6, 1, 7, 1], [0, 0, 0, 0, 0, 1, 1, 1])

    def test_parts_that_are_never_closed(self):
        self.check(0, [0, 5, 0, 0], [0, 0, 0, 2, 2])
        self.check(0, [6, 1, 4], [0, 0, 1, 1])
        self.check(0, [5, 0, 5, 0, 7, 0], [0, 0, 2, 2, 4, 2, 2])


class DeepParts(LevelsCase):
    UP_TO_60 = [6, 5] * 30
    LEVELS_UP_TO_60 = list(range(60))

    def check_behind(self, base, before, kinds, levels):
        """Look at the levels of what stands behind the marks before alone."""
        with self.subTest(base=base, kinds=kinds):
            self.assertEqual(levels_of(base, before + kinds)[1 + len(before):], levels)

    def test_up_to_level_60(self):
        self.check(0, self.UP_TO_60 + [0], [0] + self.LEVELS_UP_TO_60 + [60])
        self.check(0, self.UP_TO_60 + [1, 2], [0] + self.LEVELS_UP_TO_60 + [61, 62])
        self.check(0, [5] * 30 + [0, 1, 2], [0] + list(range(0, 60, 2)) + [60, 61, 62])

    def test_up_to_level_59(self):
        self.check(1, [6] * 29 + [1, 0, 2], [1] + list(range(1, 59, 2)) + [59, 60, 60])

    def test_a_part_of_level_60_on_level_59(self):
        self.check_behind(1, [6] * 29, [5, 0, 1, 2], [59, 60, 61, 62])

    def test_a_part_beyond_60_is_not_counted(self):
        for mark in (5, 6):
            self.check_behind(0, self.UP_TO_60, [mark, 0, 1], [60, 60, 61])
            self.check_behind(0, self.UP_TO_60, [1, mark, 1], [61, 61, 61])
        self.check_behind(1, [6] * 29, [6, 1, 0], [59, 59, 60])

    def test_its_closing_is_counted(self):
        for mark in (5, 6):
            kinds = [mark, 1, 7, 1, 7, 0, 7, 1]
            self.check_behind(0, self.UP_TO_60, kinds, [60, 61, 61, 61, 60, 60, 59, 59])

    def test_parts_beyond_60_within_one_another(self):
        kinds = [5, 6, 5, 0, 7, 0, 7, 0, 7, 0, 7, 1]
        levels = [60, 60, 60, 60, 60, 60, 60, 60, 60, 60, 59, 59]
        self.check_behind(0, self.UP_TO_60, kinds, levels)

    def test_a_part_with_a_lower_level_where_such_a_one_is_open(self):
        # On level 59, a mark 5 alone would open a part of level 60.
        before = [6] * 29
        self.check_behind(1, before, [6, 5, 1], [59, 59, 59])
        self.check_behind(1, before, [6, 5, 1, 7, 1, 7, 1], [59] * 7)
        self.check_behind(1, before, [6, 5, 7, 5, 1], [59] * 5)
        self.check_behind(1, before, [6, 7, 5, 1], [59, 59, 59, 61])
        self.check_behind(1, before, [6, 5, 7, 7, 5, 1], [59, 59, 59, 59, 59, 61])

    def test_what_stands_behind_their_closing_marks(self):
        before = [6] * 29
        self.check_behind(1, before, [6, 5, 7, 7, 7, 1, 7, 1], [59, 59, 59, 59, 57, 57, 55, 55])

    def test_marks_of_uncounted_parts_belong_to_one_run(self):
        # The digits are held together as the last letter before both is the same.
        kinds = [1, 2, 6, 2, 7, 2]
        self.check_behind(0, self.UP_TO_60, kinds, [61, 62, 61, 62, 61, 62])

    def test_4096_marks_5(self):
        kinds = [5] * MOST
        self.check(0, kinds, [0] + [min(2 * place, 60) for place in range(MOST)])
        self.check(1, kinds, [1, 1] + [min(2 * place, 60) for place in range(1, MOST)])
        self.check(2, kinds, [0] + [min(2 * place, 60) for place in range(MOST)])

    def test_4096_marks_6(self):
        kinds = [6] * MOST
        self.check(0, kinds, [0, 0] + [min(2 * place - 1, 59) for place in range(1, MOST)])
        self.check(1, kinds, [1] + [min(2 * place + 1, 59) for place in range(MOST)])

    def test_4096_marks_by_turns(self):
        self.check(0, [6, 5] * (MOST // 2), [0] + [min(place, 60) for place in range(MOST)])

    def test_2048_opening_marks_and_2048_closing_ones(self):
        half = MOST // 2
        levels = [min(2 * place, 60) for place in range(half)]
        self.check(0, [5] * half + [7] * half, [0] + levels + levels[::-1])
        levels = [min(2 * place + 1, 59) for place in range(half)]
        self.check(1, [6] * half + [7] * half, [1] + levels + levels[::-1])

    def test_behind_2047_opening_and_closing_marks(self):
        half = MOST // 2 - 1
        kinds = [5] * half + [7] * half
        self.assertEqual(levels_of(0, kinds + [1, 0])[-2:], [1, 0])
        self.assertEqual(levels_of(0, kinds[:-1] + [1, 0])[-2:], [3, 2])


class Runs(LevelsCase):
    def test_beginning_behind_a_run_of_a_lesser_level(self):
        self.check(0, [6, 4, 0], [0, 0, 1, 2])
        self.check(1, [5, 2], [1, 1, 2])
        self.check(1, [5, 4, 1], [1, 1, 2, 3])

    def test_beginning_behind_a_run_of_a_greater_level(self):
        self.check(0, [6, 1, 7, 2], [0, 0, 1, 1, 2])
        self.check(0, [6, 1, 7, 1], [0, 0, 1, 1, 1])
        self.check(1, [5, 0, 7, 2], [1, 1, 2, 2, 2])
        self.check(1, [5, 0, 7, 0], [1, 1, 2, 2, 2])

    def test_end_ahead_of_a_run_of_a_greater_level(self):
        self.check(0, [1, 4, 6, 1], [0, 1, 1, 1, 1])
        self.check(0, [1, 4, 5, 1], [0, 1, 0, 0, 3])
        self.check(1, [0, 4, 5, 0], [1, 2, 2, 2, 2])
        self.check(1, [0, 4, 6, 0], [1, 2, 1, 1, 4])

    def test_end_ahead_of_a_run_of_a_lesser_level(self):
        self.check(0, [6, 0, 4, 7], [0, 0, 2, 1, 0])
        self.check(1, [5, 1, 4, 7], [1, 1, 3, 2, 1])

    def test_ahead_of_the_text_the_base_stands(self):
        self.check(0, [4, 1], [0, 0, 1])
        self.check(1, [4, 0], [1, 1, 2])
        self.check(0, [2], [0, 0])
        self.check(1, [2, 4, 0], [1, 2, 1, 2])

    def test_behind_the_text_the_base_stands(self):
        self.check(0, [1, 4], [0, 1, 0])
        self.check(1, [0, 4], [1, 2, 1])

    def test_behind_the_text_in_an_open_part(self):
        # The base is the lesser one there, so the part's own level tells.
        self.check(0, [6, 0, 4], [0, 0, 2, 1])
        self.check(1, [5, 1, 4], [1, 1, 3, 2])

    def test_two_parts_of_one_level_side_by_side(self):
        self.check(0, [6, 1, 7, 6, 1, 7], [0, 0, 1, 1, 1, 1, 0])
        self.check(0, [5, 0, 7, 5, 0, 7], [0, 0, 2, 0, 0, 2, 0])
        self.check(1, [5, 0, 7, 5, 0, 7], [1, 1, 2, 2, 2, 2, 1])

    def test_two_parts_of_one_level_are_two_runs(self):
        # The letter in the first part isn't before the digit in the second.
        self.check(0, [5, 1, 7, 5, 2, 7], [0, 0, 3, 0, 0, 2, 0])

    def test_an_empty_part(self):
        self.check(0, [1, 5, 7, 1], [0, 1, 1, 1, 1])
        self.check(0, [1, 6, 7, 1], [0, 1, 1, 1, 1])
        self.check(1, [0, 6, 7, 0], [1, 2, 2, 2, 2])
        self.check(0, [1, 5, 7, 2], [0, 1, 1, 1, 2])
        self.check(0, [1, 2, 6, 7, 2], [0, 1, 2, 1, 1, 2])

    def test_an_empty_part_within_a_part(self):
        self.check(0, [1, 5, 6, 7, 7, 1], [0, 1, 0, 2, 2, 0, 1])

    def test_a_letter_on_the_other_side_of_a_border_does_not_count(self):
        self.check(0, [1, 5, 2], [0, 1, 0, 2])
        self.check(0, [5, 1, 7, 2], [0, 0, 3, 0, 0])
        self.check(0, [1, 5, 0, 7, 2], [0, 1, 0, 2, 0, 0])


class SignsBetweenDigits(LevelsCase):
    def test_right_between_two_digits(self):
        self.check(0, [1, 2, 3, 2], [0, 1, 2, 2, 2])
        self.check(1, [2, 3, 2], [1, 2, 2, 2])

    def test_digit_sign_digit_sign_digit(self):
        self.check(0, [1, 2, 3, 2, 3, 2], [0, 1, 2, 2, 2, 2, 2])
        self.check(1, [2, 3, 2, 3, 2], [1, 2, 2, 2, 2, 2])

    def test_two_signs(self):
        self.check(0, [1, 2, 3, 3, 2], [0, 1, 2, 1, 1, 2])
        self.check(1, [2, 3, 3, 2], [1, 2, 1, 1, 2])

    def test_two_signs_and_one(self):
        self.check(0, [1, 2, 3, 3, 2, 3, 2], [0, 1, 2, 1, 1, 2, 2, 2])
        self.check(0, [1, 2, 3, 2, 3, 3, 2], [0, 1, 2, 2, 2, 1, 1, 2])

    def test_at_a_runs_first_place(self):
        self.check(1, [3, 2], [1, 1, 2])
        self.check(1, [3, 2, 2], [1, 1, 2, 2])
        self.check(0, [6, 3, 2], [0, 0, 1, 2])

    def test_at_a_runs_last_place(self):
        self.check(1, [2, 3], [1, 2, 1])
        self.check(1, [2, 2, 3], [1, 2, 2, 1])
        self.check(0, [6, 2, 3, 7], [0, 0, 2, 1, 0])

    def test_a_sign_that_is_the_whole_run(self):
        self.check(0, [3], [0, 0])
        self.check(1, [3], [1, 1])

    def test_a_sign_with_a_digit_on_one_side_alone(self):
        self.check(0, [1, 3, 2], [0, 1, 1, 2])
        self.check(0, [1, 2, 3], [0, 1, 2, 0])
        self.check(0, [1, 2, 3, 1], [0, 1, 2, 1, 1])
        self.check(0, [1, 2, 3, 0], [0, 1, 2, 0, 0])
        self.check(0, [1, 2, 4, 3, 2], [0, 1, 2, 1, 1, 2])

    def test_another_kind_between_digits(self):
        self.check(0, [1, 2, 4, 2], [0, 1, 2, 1, 2])
        self.check(0, [1, 2, 7, 2], [0, 1, 2, 1, 2])

    def test_a_digit_on_the_other_side_of_a_border_does_not_count(self):
        self.check(0, [1, 2, 6, 3, 2], [0, 1, 2, 1, 1, 2])
        self.check(0, [1, 6, 2, 7, 3, 2], [0, 1, 1, 2, 1, 1, 2])
        self.check(0, [1, 2, 3, 6, 2], [0, 1, 2, 1, 1, 2])
        self.check(0, [6, 2, 3, 7, 2], [0, 0, 2, 1, 1, 2])


class Digits(LevelsCase):
    def test_behind_a_letter_to_the_right(self):
        self.check(0, [0, 2], [0, 0, 0])
        self.check(0, [0, 2, 2], [0, 0, 0, 0])
        self.check(1, [0, 2, 4, 0], [1, 2, 2, 2, 2])

    def test_behind_a_letter_to_the_left(self):
        self.check(0, [1, 2], [0, 1, 2])
        self.check(0, [1, 2, 2], [0, 1, 2, 2])
        self.check(1, [1, 2, 4, 0], [1, 1, 2, 1, 2])

    def test_the_last_letter_counts(self):
        self.check(0, [1, 0, 2], [0, 1, 0, 0])
        self.check(0, [0, 1, 2], [0, 0, 1, 2])
        self.check(0, [0, 2, 1, 2, 0, 2], [0, 0, 0, 1, 2, 0, 0])

    def test_a_letter_farther_before(self):
        self.check(0, [1, 4, 4, 2], [0, 1, 1, 1, 2])
        self.check(0, [1, 2, 3, 4, 2, 7, 2], [0, 1, 2, 1, 1, 2, 1, 2])
        self.check(1, [0, 4, 4, 2], [1, 2, 2, 2, 2])

    def test_behind_no_letter(self):
        self.check(0, [2, 4, 1], [0, 0, 0, 1])
        self.check(0, [4, 2], [0, 0, 0])
        self.check(1, [2, 4, 0], [1, 2, 1, 2])
        self.check(1, [4, 2], [1, 1, 2])
        self.check(0, [6, 1, 7, 2], [0, 0, 1, 1, 2])
        self.check(1, [5, 0, 7, 2], [1, 1, 2, 2, 2])

    def test_a_letter_behind_the_digit_does_not_count(self):
        self.check(0, [2, 1], [0, 0, 1])
        self.check(1, [2, 4, 2, 0], [1, 2, 1, 2, 2])

    def test_a_digit_that_became_a_letter_is_not_looked_at_for_others(self):
        self.check(0, [2, 1, 2], [0, 0, 1, 2])
        self.check(0, [0, 2, 2, 1, 2, 2], [0, 0, 0, 0, 1, 2, 2])

    def test_a_sign_that_became_a_digit_is_held_as_one(self):
        self.check(0, [0, 2, 3, 2], [0, 0, 0, 0, 0])
        self.check(0, [2, 3, 2], [0, 0, 0, 0])
        self.check(0, [1, 2, 3, 2], [0, 1, 2, 2, 2])
        self.check(1, [0, 2, 3, 2, 0], [1, 2, 2, 2, 2, 2])


class WhatIsLeft(LevelsCase):
    def test_between_sides_of_one_direction(self):
        self.check(0, [0, 4, 0], [0, 0, 0, 0])
        self.check(0, [1, 4, 1], [0, 1, 1, 1])
        self.check(1, [0, 4, 0], [1, 2, 2, 2])
        self.check(1, [1, 4, 1], [1, 1, 1, 1])

    def test_between_sides_of_two_directions(self):
        self.check(0, [0, 4, 1], [0, 0, 0, 1])
        self.check(0, [1, 4, 0], [0, 1, 0, 0])
        self.check(1, [0, 4, 1], [1, 2, 1, 1])
        self.check(1, [1, 4, 0], [1, 1, 1, 2])

    def test_digits_count_as_read_to_the_left(self):
        self.check(0, [1, 2, 4, 1], [0, 1, 2, 1, 1])
        self.check(0, [1, 4, 2], [0, 1, 1, 2])
        self.check(0, [1, 2, 4, 2], [0, 1, 2, 1, 2])
        self.check(0, [1, 2, 4, 0], [0, 1, 2, 0, 0])
        self.check(1, [1, 2, 4, 0], [1, 1, 2, 1, 2])
        self.check(1, [2, 4, 2], [1, 2, 1, 2])

    def test_digits_that_became_letters_are_read_to_the_right(self):
        self.check(1, [0, 4, 2], [1, 2, 2, 2])
        self.check(1, [0, 2, 4, 2], [1, 2, 2, 2, 2])
        self.check(1, [0, 2, 4, 1], [1, 2, 2, 1, 1])

    def test_each_kind_from_3_to_7(self):
        for kinds in ([3], [4], [7], [5, 7], [6, 7], [3, 4], [4, 5, 7, 3], [3, 4, 5, 7, 6, 7, 3]):
            count = len(kinds)
            self.check(0, [0] + kinds + [0], [0, 0] + [0] * count + [0])
            self.check(0, [1] + kinds + [1], [0, 1] + [1] * count + [1])
            self.check(0, [1] + kinds + [0], [0, 1] + [0] * count + [0])
            self.check(1, [0] + kinds + [0], [1, 2] + [2] * count + [2])
            self.check(1, [0] + kinds + [1], [1, 2] + [1] * count + [1])

    def test_at_a_runs_beginning(self):
        self.check(0, [4, 4, 0], [0, 0, 0, 0])
        self.check(0, [4, 4, 1], [0, 0, 0, 1])
        self.check(1, [4, 4, 0], [1, 1, 1, 2])
        self.check(1, [4, 4, 1], [1, 1, 1, 1])
        self.check(0, [6, 1, 7, 4, 1], [0, 0, 1, 1, 1, 1])
        self.check(0, [6, 1, 7, 4, 0], [0, 0, 1, 0, 0, 0])

    def test_at_a_runs_end(self):
        self.check(0, [0, 4, 4], [0, 0, 0, 0])
        self.check(0, [1, 4, 4], [0, 1, 0, 0])
        self.check(1, [0, 4, 4], [1, 2, 1, 1])
        self.check(1, [1, 4, 4], [1, 1, 1, 1])
        self.check(0, [0, 4, 6, 1], [0, 0, 0, 0, 1])
        self.check(1, [0, 4, 5, 0], [1, 2, 2, 2, 2])

    def test_the_whole_run(self):
        self.check(0, [4, 4], [0, 0, 0])
        self.check(1, [4, 4], [1, 1, 1])
        self.check(0, [6, 4, 7], [0, 0, 1, 0])
        self.check(1, [5, 4, 7], [1, 1, 2, 1])
        self.check(0, [6, 1, 7, 4, 6, 1, 7], [0, 0, 1, 1, 1, 1, 1, 0])
        self.check(1, [5, 0, 7, 4, 5, 0, 7], [1, 1, 2, 2, 2, 2, 2, 1])

    def test_the_whole_run_with_ends_of_two_directions(self):
        self.check(0, [6, 1, 7, 4, 5, 0, 7], [0, 0, 1, 0, 0, 0, 2, 0])
        self.check(1, [6, 1, 7, 4, 5, 0, 7], [1, 1, 3, 1, 1, 1, 2, 1])

    def test_several_stretches_in_a_run(self):
        # What a stretch became is no side of the next one: a letter stands between.
        self.check(0, [1, 4, 1, 4, 0, 4, 0], [0, 1, 1, 1, 0, 0, 0, 0])
        self.check(1, [0, 4, 0, 4, 1, 4, 1], [1, 2, 2, 2, 1, 1, 1, 1])


class LevelAtLast(LevelsCase):
    def test_on_an_even_level(self):
        self.check(0, [0, 1, 2], [0, 0, 1, 2])
        self.check(0, [5, 0, 1, 2], [0, 0, 2, 3, 4])
        self.check(1, [5, 0, 1, 2], [1, 1, 2, 3, 4])

    def test_on_an_odd_level(self):
        self.check(1, [1, 0, 1, 2], [1, 1, 2, 1, 2])
        self.check(0, [6, 1, 0, 1, 2], [0, 0, 1, 2, 1, 2])
        self.check(1, [6, 1, 0, 1, 2], [1, 1, 3, 4, 3, 4])


class LongTexts(unittest.TestCase):
    def test_4096_cells_are_answered_soon(self):
        texts = [[kind] * MOST for kind in range(8)]
        texts.append(list(range(8)) * (MOST // 8))
        texts.append([5, 1, 2, 7] * (MOST // 4))
        texts.append([1] + [2, 3] * (MOST // 2 - 1) + [2])
        texts.append([0] + [4] * (MOST - 2) + [1])
        for kinds in texts:
            for base in (0, 1, 2):
                with self.subTest(base=base, kinds=kinds[:8]):
                    self.assertEqual(len(kinds), MOST)
                    begun = time.perf_counter()
                    answer = levels_of(base, kinds)
                    self.assertLess(time.perf_counter() - begun, SECONDS_AT_MOST)
                    self.assertEqual(len(answer), 1 + MOST)

    def test_4096_cells_in_one_run(self):
        self.assertEqual(levels_of(0, [1] + [4] * (MOST - 2) + [1]), [0] + [1] * MOST)
        self.assertEqual(levels_of(0, [1] + [2] * (MOST - 1)), [0, 1] + [2] * (MOST - 1))

    def test_4096_cells_in_many_runs(self):
        self.assertEqual(levels_of(0, [5, 1, 2, 7] * (MOST // 4)), [0] + [0, 3, 4, 0] * (MOST // 4))


class NothingKept(unittest.TestCase):
    TEXTS = ([], [0], [1, 2, 3, 2], [6, 4, 1, 0, 7, 7, 2], [5, 2, 0, 1], [5] * 70 + [7] * 80, list(range(8)))

    def test_what_was_handed_in_is_not_changed(self):
        for base in (0, 1, 2):
            for text in self.TEXTS:
                with self.subTest(base=base, text=text[:8]):
                    handed = ReadOnlyList(text)
                    answer = levels_of(base, handed)
                    self.assertEqual(list(handed), list(text))
                    self.assertEqual(answer, levels_of(base, list(text)))

    def test_same_call_answers_the_same(self):
        calls = [(base, text) for base in (0, 1, 2) for text in self.TEXTS]
        first = [levels_of(base, list(text)) for base, text in calls]
        again = [levels_of(base, list(text)) for base, text in reversed(calls)]
        self.assertEqual(first, again[::-1])

    def test_open_parts_do_not_last_until_the_next_call(self):
        levels_of(0, [6] * 100)
        self.assertEqual(levels_of(0, [0, 7, 0]), [0, 0, 0, 0])

    def test_same_list_handed_in_again(self):
        kinds = [1, 2]
        self.assertEqual(levels_of(0, kinds), [0, 1, 2])
        kinds[0] = 0
        self.assertEqual(levels_of(0, kinds), [0, 0, 0])

    def test_changing_an_answer_does_not_change_the_next(self):
        for text in self.TEXTS:
            with self.subTest(text=text[:8]):
                answer = levels_of(2, list(text))
                kept = list(answer)
                answer[0] = 9
                answer.append(9)
                self.assertEqual(levels_of(2, list(text)), kept)

    def test_nothing_is_printed(self):
        out, err = io.StringIO(), io.StringIO()
        with contextlib.redirect_stdout(out), contextlib.redirect_stderr(err):
            for text in self.TEXTS:
                levels_of(2, list(text))
        self.assertEqual((out.getvalue(), err.getvalue()), ("", ""))


if __name__ == "__main__":
    unittest.main()
