"""Promise 1: what base 2 comes to."""

import contextlib
import io
import itertools
import unittest

from bothwaysdesk.lines import base_of
from helpers import ReadOnlyList

MOST = 4096
NOT_LETTERS = [2, 3, 4, 5, 6, 7]


def not_letters(count):
    return [NOT_LETTERS[place % len(NOT_LETTERS)] for place in range(count)]


def expected_base(kinds):
    # Told otherwise than in the program: by where each kind of letter first stands.
    place_of_0 = kinds.index(0) if 0 in kinds else len(kinds)
    place_of_1 = kinds.index(1) if 1 in kinds else len(kinds)
    return [1] if place_of_1 < place_of_0 else [0]


class FirstLetter(unittest.TestCase):
    def test_first_letter_to_the_right(self):
        self.assertEqual(base_of([0]), [0])
        self.assertEqual(base_of([0, 4, 0]), [0])

    def test_first_letter_to_the_left(self):
        self.assertEqual(base_of([1]), [1])
        self.assertEqual(base_of([1, 4, 1]), [1])

    def test_later_letter_of_the_other_kind_does_not_count(self):
        self.assertEqual(base_of([0, 1]), [0])
        self.assertEqual(base_of([1, 0]), [1])
        self.assertEqual(base_of([0, 1, 1, 1]), [0])
        self.assertEqual(base_of([1, 0, 0, 0]), [1])
        self.assertEqual(base_of([4, 1, 4, 0, 4]), [1])

    def test_first_letter_behind_each_other_kind(self):
        for kind in NOT_LETTERS:
            for letter in (0, 1):
                with self.subTest(kind=kind, letter=letter):
                    self.assertEqual(base_of([kind, letter]), [letter])
                    self.assertEqual(base_of([kind, kind, letter, 1 - letter]), [letter])

    def test_first_letter_behind_all_other_kinds(self):
        for letter in (0, 1):
            for before in (NOT_LETTERS, NOT_LETTERS[::-1]):
                with self.subTest(letter=letter, before=before):
                    self.assertEqual(base_of(before + [letter]), [letter])

    def test_first_letter_within_an_opened_part(self):
        self.assertEqual(base_of([5, 1, 7, 0]), [1])
        self.assertEqual(base_of([6, 0, 7, 1]), [0])
        self.assertEqual(base_of([5, 6, 1, 7, 7, 0]), [1])
        self.assertEqual(base_of([6, 5, 0]), [0])

    def test_marks_have_no_direction_of_their_own(self):
        self.assertEqual(base_of([6, 7, 0]), [0])
        self.assertEqual(base_of([5, 7, 1]), [1])
        self.assertEqual(base_of([6]), [0])

    def test_first_letter_within_a_part_that_is_not_counted(self):
        for mark in (5, 6):
            for letter in (0, 1):
                with self.subTest(mark=mark, letter=letter):
                    kinds = [mark] * 100 + [letter] + [7] * 100 + [1 - letter]
                    self.assertEqual(base_of(kinds), [letter])

    def test_closing_marks_without_an_open_part(self):
        self.assertEqual(base_of([7, 7, 1]), [1])
        self.assertEqual(base_of([7, 7, 0, 1]), [0])


class Edges(unittest.TestCase):
    def test_empty_text(self):
        self.assertEqual(base_of([]), [0])

    def test_no_letter(self):
        for kind in NOT_LETTERS:
            with self.subTest(kind=kind):
                self.assertEqual(base_of([kind]), [0])
                self.assertEqual(base_of([kind, kind]), [0])
        self.assertEqual(base_of(list(NOT_LETTERS)), [0])

    def test_longest_text_with_its_one_letter_last(self):
        for letter in (0, 1):
            with self.subTest(letter=letter):
                kinds = not_letters(MOST - 1) + [letter]
                self.assertEqual(len(kinds), MOST)
                self.assertEqual(base_of(kinds), [letter])

    def test_longest_text_without_a_letter(self):
        self.assertEqual(base_of(not_letters(MOST)), [0])

    def test_longest_text_of_one_kind(self):
        for kind in range(8):
            with self.subTest(kind=kind):
                self.assertEqual(base_of([kind] * MOST), [1 if kind == 1 else 0])

    def test_deepest_nesting(self):
        for mark in (5, 6):
            for letter in (0, 1):
                with self.subTest(mark=mark, letter=letter):
                    self.assertEqual(base_of([mark] * (MOST - 1) + [letter]), [letter])

    def test_every_short_text_is_answered_and_none_refused(self):
        for count in range(5):
            for cells in itertools.product(range(8), repeat=count):
                kinds = list(cells)
                self.assertEqual(base_of(kinds), expected_base(kinds), kinds)


class WhatIsGivenBack(unittest.TestCase):
    def test_a_list_with_one_whole_number(self):
        for kinds in ([], [0], [1], [4, 0], [4, 1], [2, 3], not_letters(MOST)):
            with self.subTest(kinds=kinds[:4]):
                answer = base_of(kinds)
                self.assertIs(type(answer), list)
                self.assertEqual(len(answer), 1)
                self.assertIs(type(answer[0]), int)

    def test_argument_goes_by_its_name(self):
        self.assertEqual(base_of(kinds=[4, 1]), [1])


class NothingKept(unittest.TestCase):
    TEXTS = ([], [0], [1], [6, 4, 1, 0], [5, 2, 0, 1], NOT_LETTERS)

    def test_what_was_handed_in_is_not_changed(self):
        for text in self.TEXTS:
            with self.subTest(text=text):
                handed = ReadOnlyList(text)
                base_of(handed)
                self.assertEqual(list(handed), list(text))

    def test_same_call_answers_the_same(self):
        first = [base_of(list(text)) for text in self.TEXTS]
        again = [base_of(list(text)) for text in reversed(self.TEXTS)]
        self.assertEqual(first, again[::-1])

    def test_same_list_handed_in_again(self):
        kinds = [6, 1, 0]
        self.assertEqual(base_of(kinds), [1])
        self.assertEqual(base_of(kinds), [1])
        kinds[1] = 0
        self.assertEqual(base_of(kinds), [0])

    def test_changing_an_answer_does_not_change_the_next(self):
        for text in self.TEXTS:
            with self.subTest(text=text):
                answer = base_of(list(text))
                kept = list(answer)
                answer[0] = 9
                answer.append(9)
                self.assertEqual(base_of(list(text)), kept)

    def test_nothing_is_printed(self):
        out, err = io.StringIO(), io.StringIO()
        with contextlib.redirect_stdout(out), contextlib.redirect_stderr(err):
            for text in self.TEXTS:
                base_of(list(text))
        self.assertEqual((out.getvalue(), err.getvalue()), ("", ""))


if __name__ == "__main__":
    unittest.main()
