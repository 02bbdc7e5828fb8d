"""Promise 4: what of the screen is chosen. The answers here are worked out by hand."""

import contextlib
import io
import time
import unittest

from bothwaysdesk.lines import chosen, order_of
from helpers import ReadOnlyList

MOST = 4096
LEAST_NUMBER = -2147483648
GREATEST_NUMBER = 2147483647
SECONDS_AT_MOST = 3
REFUSED = [-1]


class ChosenCase(unittest.TestCase):
    def check(self, i, j, most, order, answer):
        with self.subTest(i=i, j=j, most=most, order=order[:12]):
            self.assertEqual(chosen(i, j, most, order), answer)


class Form(ChosenCase):
    CALLS = (
        (0, 0, 0, []),
        (0, 3, 9, [0, 1, 2]),
        (1, 3, 9, [2, 0, 1, 4]),
        (0, 1, 1, [0, 1, 0]),
        (-1, 2, 9, [0]),
        (1, 2, 9, [1]),
    )

    def test_whole_numbers_in_a_list(self):
        for call in self.CALLS:
            with self.subTest(call=call):
                answer = chosen(*call)
                self.assertIs(type(answer), list)
                self.assertTrue(all(type(number) is int for number in answer))

    def test_how_many_and_then_two_numbers_of_each(self):
        self.check(1, 2, 9, [0, 0], [0])
        self.check(1, 2, 9, [1, 0], [1, 0, 1])
        self.check(1, 2, 9, [1, 0, 1], [2, 0, 1, 2, 3])
        self.check(1, 2, 9, [1, 0, 1, 1, 0, 1], [3, 0, 1, 2, 4, 5, 6])

    def test_from_the_left_whatever_the_places(self):
        self.check(5, 8, 9, [7, 0, 5, 6, 1], [2, 0, 1, 2, 4])
        self.check(5, 8, 9, [5, 0, 7, 6, 1], [2, 0, 1, 2, 4])

    def test_bounds_are_the_screens_and_not_the_texts(self):
        self.check(100, 103, 9, [4000, 102, 101, 100, 7], [1, 1, 4])
        self.check(0, 1, 9, [9, 8, 0], [1, 2, 3])
        self.check(9, 10, 9, [9, 8, 0], [1, 0, 1])

    def test_arguments_go_by_their_names(self):
        self.assertEqual(chosen(i=1, j=3, most=2, order=[0, 2, 1]), [1, 1, 3])


class Refusals(ChosenCase):
    ORDERS = ([], [0], [1, 0, 2], [5, 5, 5])

    def test_i_below_0(self):
        for order in self.ORDERS:
            for most in (0, 1, MOST):
                for i in (-1, -2, LEAST_NUMBER):
                    for j in (0, 1, 2, 100, GREATEST_NUMBER):
                        self.check(i, j, most, order, REFUSED)

    def test_j_below_0(self):
        for order in self.ORDERS:
            for most in (0, 1, MOST):
                for j in (-1, -2, LEAST_NUMBER):
                    for i in (0, 1, 2, 100, GREATEST_NUMBER):
                        self.check(i, j, most, order, REFUSED)

    def test_both_below_0(self):
        for order in self.ORDERS:
            for most in (0, 1, MOST):
                for i, j in ((-1, -1), (-2, -1), (-1, -2), (LEAST_NUMBER, LEAST_NUMBER), (LEAST_NUMBER, -1)):
                    self.check(i, j, most, order, REFUSED)

    def test_0_is_not_below_0(self):
        self.check(0, 0, 0, [0], [0])
        self.check(0, 1, 1, [0], [1, 0, 1])
        self.check(1, 0, 0, [0], [0])

    def test_more_than_most(self):
        self.check(0, 1, 0, [0], REFUSED)
        self.check(0, 1, 0, [1, 0, 1], REFUSED)
        self.check(0, 1, 0, [0, 1, 0], REFUSED)
        self.check(0, 1, 1, [0, 1, 0], REFUSED)
        self.check(0, 1, 2, [0, 1, 0, 1, 0], REFUSED)

    def test_as_many_as_most(self):
        self.check(0, 1, 1, [0], [1, 0, 1])
        self.check(0, 1, 2, [0, 1, 0], [2, 0, 1, 2, 3])
        self.check(0, 1, 3, [0, 1, 0, 1, 0], [3, 0, 1, 2, 3, 4, 5])

    def test_most_counts_stretches_and_not_cells(self):
        self.check(0, 4, 1, [3, 2, 1, 0], [1, 0, 4])
        self.check(0, 2, 2, [0, 1, 2, 1, 0], [2, 0, 2, 3, 5])


class NothingChosen(ChosenCase):
    ORDER = [3, 0, 2, 1]

    def check_nothing(self, i, j, order):
        for most in (0, 1, MOST):
            self.check(i, j, most, order, [0])

    def test_i_is_j(self):
        for bound in (0, 1, 2, 3, 4, 4096, GREATEST_NUMBER):
            self.check_nothing(bound, bound, self.ORDER)

    def test_i_above_j(self):
        self.check_nothing(1, 0, self.ORDER)
        self.check_nothing(3, 1, self.ORDER)
        self.check_nothing(4, 0, self.ORDER)
        self.check_nothing(GREATEST_NUMBER, 0, self.ORDER)

    def test_beyond_all_places(self):
        self.check_nothing(4, 5, self.ORDER)
        self.check_nothing(4, GREATEST_NUMBER, self.ORDER)
        self.check_nothing(4096, 5000, [4095])
        self.check_nothing(4096, GREATEST_NUMBER, [4095])
        self.check_nothing(GREATEST_NUMBER - 1, GREATEST_NUMBER, self.ORDER)

    def test_between_places(self):
        self.check_nothing(2, 4, [1, 4, 0, 5])
        self.check_nothing(0, 1, [1, 4, 5])

    def test_empty_screen(self):
        self.check_nothing(0, 0, [])
        self.check_nothing(0, 1, [])
        self.check_nothing(5, 2, [])
        self.check_nothing(0, GREATEST_NUMBER, [])


class OneStretch(ChosenCase):
    def test_in_the_middle(self):
        self.check(1, 3, 1, [0, 1, 2, 3], [1, 1, 3])
        self.check(1, 3, 1, [3, 2, 1, 0], [1, 1, 3])

    def test_at_the_screens_beginning(self):
        self.check(0, 2, 1, [0, 1, 2, 3], [1, 0, 2])
        self.check(2, 4, 1, [3, 2, 1, 0], [1, 0, 2])

    def test_at_the_screens_end(self):
        self.check(2, 4, 1, [0, 1, 2, 3], [1, 2, 4])
        self.check(0, 2, 1, [3, 2, 1, 0], [1, 2, 4])

    def test_the_whole_screen(self):
        self.check(0, 4, 1, [0, 1, 2, 3], [1, 0, 4])
        self.check(0, 4, 1, [2, 3, 0, 1], [1, 0, 4])
        self.check(0, GREATEST_NUMBER, 1, [7, 4095, 0], [1, 0, 3])
        self.check(0, MOST, 1, list(range(MOST)), [1, 0, MOST])

    def test_one_cell_alone(self):
        self.check(0, 1, 1, [0, 1, 2, 3], [1, 0, 1])
        self.check(1, 2, 1, [0, 1, 2, 3], [1, 1, 2])
        self.check(3, 4, 1, [0, 1, 2, 3], [1, 3, 4])
        self.check(0, 1, 1, [0], [1, 0, 1])
        self.check(4095, 4096, 1, [4094, 4095], [1, 1, 2])

    def test_i_itself_belongs_and_j_does_not(self):
        order = [10, 11, 12, 13, 14]
        self.check(11, 13, 1, order, [1, 1, 3])
        self.check(11, 14, 1, order, [1, 1, 4])
        self.check(12, 14, 1, order, [1, 2, 4])
        self.check(0, 10, 1, order, [0])
        self.check(14, 99, 1, order, [1, 4, 5])
        self.check(15, 99, 1, order, [0])


class SeveralStretches(ChosenCase):
    def test_two(self):
        self.check(1, 4, 9, [0, 1, 2, 6, 5, 4, 3, 7], [2, 1, 3, 6, 7])
        self.check(2, 5, 9, [0, 1, 5, 4, 3, 6, 2], [2, 3, 5, 6, 7])

    def test_parted_by_one_cell(self):
        self.check(1, 3, 9, [1, 2, 0, 2, 1], [2, 0, 2, 3, 5])
        self.check(2, 6, 9, [5, 4, 9, 3, 2], [2, 0, 2, 3, 5])

    def test_parted_by_several_cells(self):
        self.check(1, 3, 9, [1, 0, 7, 3, 2], [2, 0, 1, 4, 5])

    def test_one_at_each_end(self):
        self.check(0, 2, 9, [0, 2, 3, 1], [2, 0, 1, 3, 4])
        self.check(0, 2, 9, [0, 1, 2, 1, 0], [2, 0, 2, 3, 5])

    def test_places_above_and_below_part_them(self):
        self.check(3, 5, 9, [3, 2, 4, 5, 3, 0, 9, 4], [4, 0, 1, 2, 3, 4, 5, 7, 8])

    def test_places_far_from_one_another_in_the_text_are_one_stretch(self):
        self.check(0, 4096, 9, [0, 4095, 17, 2], [1, 0, 4])
        self.check(10, 100, 9, [99, 10, 50, 0], [1, 0, 3])

    def test_2048_stretches(self):
        at_odd_places = [bound for begin in range(1, MOST, 2) for bound in (begin, begin + 1)]
        at_even_places = [bound for begin in range(0, MOST, 2) for bound in (begin, begin + 1)]
        self.check(1, 2, 2048, [0, 1] * 2048, [2048] + at_odd_places)
        self.check(1, 2, MOST, [0, 1] * 2048, [2048] + at_odd_places)
        self.check(0, 1, 2048, [0, 1] * 2048, [2048] + at_even_places)
        self.check(0, 1, 2047, [0, 1] * 2048, REFUSED)
        self.check(1, 2, 2047, [0, 1] * 2048, REFUSED)
        self.check(0, 2, 1, [0, 1] * 2048, [1, 0, MOST])


class AnyOrder(ChosenCase):
    def test_places_in_any_order(self):
        self.check(2, 5, 9, [4, 0, 2, 3, 5, 1], [2, 0, 1, 2, 4])
        self.check(2, 5, 9, [0, 3, 1, 4, 5, 2], [3, 1, 2, 3, 4, 5, 6])

    def test_the_same_place_more_than_once(self):
        self.check(3, 4, 9, [3, 3, 3], [1, 0, 3])
        self.check(3, 4, 9, [3, 0, 3, 3], [2, 0, 1, 2, 4])
        self.check(0, 3, 9, [3, 3, 0, 0, 3, 2], [2, 2, 4, 5, 6])

    def test_places_that_leave_some_out(self):
        self.check(1, 1000, 9, [4095, 999, 0, 1, 1000], [2, 1, 2, 3, 4])


class WithTheOrderOfALine(ChosenCase):
    def test_one_direction(self):
        self.check(1, 3, 9, order_of(0, 4, 0, [0] * 4, [0] * 4), [1, 1, 3])
        self.check(0, 1, 9, order_of(0, 4, 0, [1] * 4, [1] * 4), [1, 3, 4])

    def test_both_directions(self):
        order = order_of(0, 6, 0, [0, 0, 0, 1, 1, 1], [0, 0, 0, 1, 1, 1])
        self.assertEqual(order, [0, 1, 2, 5, 4, 3])
        self.check(1, 4, 9, order, [2, 1, 3, 5, 6])
        self.check(1, 4, 1, order, REFUSED)
        self.check(2, 6, 9, order, [1, 2, 6])

    def test_a_number_among_letters_to_the_left(self):
        order = order_of(0, 6, 1, [1, 1, 2, 2, 1, 1], [1, 1, 2, 2, 1, 1])
        self.assertEqual(order, [5, 4, 2, 3, 1, 0])
        self.check(1, 3, 9, order, [2, 2, 3, 4, 5])
        self.check(2, 4, 9, order, [1, 2, 4])
        self.check(3, 5, 9, order, [2, 1, 2, 3, 4])

    def test_a_line_from_the_texts_middle(self):
        order = order_of(2, 5, 0, [0, 1, 1, 1, 4, 0], [0, 1, 1, 1, 1, 0])
        self.assertEqual(order, [3, 2, 4])
        self.check(0, 3, 9, order, [1, 1, 2])
        self.check(3, 9, 9, order, [2, 0, 1, 2, 3])
        self.check(5, 9, 9, order, [0])

    def test_an_empty_line(self):
        self.check(0, 9, 0, order_of(3, 3, 0, [0] * 4, [1] * 4), [0])

    def test_the_longest_text(self):
        # Letters to the left alone, so the text's first half is the screen's last.
        order = order_of(0, MOST, 1, [1] * MOST, [1] * MOST)
        self.check(0, 2048, 1, order, [1, 2048, MOST])


class LongScreens(unittest.TestCase):
    def test_4096_places_are_answered_soon(self):
        orders = ([0] * MOST, [0, 1] * 2048, list(range(MOST)), list(range(MOST))[::-1])
        start = time.perf_counter()
        for order in orders:
            for i, j in ((0, 1), (1, 2), (0, MOST), (1000, 3000), (MOST, MOST)):
                chosen(i, j, MOST, order)
        self.assertLess(time.perf_counter() - start, SECONDS_AT_MOST)


class NothingKept(unittest.TestCase):
    CALLS = (
        (0, 0, 0, []),
        (-1, 3, 9, [0, 1, 2]),
        (1, 3, 9, [0, 2, 4, 1]),
        (1, 3, 1, [0, 2, 4, 1]),
        (0, 9, 9, [3, 3, 0]),
        (2, 1, 0, [1, 2]),
    )

    def test_what_was_handed_in_is_not_changed(self):
        for i, j, most, order in self.CALLS:
            with self.subTest(i=i, j=j, order=order):
                handed = ReadOnlyList(order)
                answer = chosen(i, j, most, handed)
                self.assertEqual(list(handed), order)
                self.assertIs(type(answer), list)
                self.assertEqual(answer, chosen(i, j, most, list(order)))

    def test_same_call_answers_the_same(self):
        first = [chosen(*call) for call in self.CALLS]
        again = [chosen(*call) for call in reversed(self.CALLS)]
        self.assertEqual(first, again[::-1])

    def test_same_list_handed_in_again(self):
        order = [0, 1, 2]
        self.assertEqual(chosen(1, 2, 9, order), [1, 1, 2])
        order[0] = 1
        self.assertEqual(chosen(1, 2, 9, order), [1, 0, 2])

    def test_changing_an_answer_does_not_change_the_next(self):
        for call in self.CALLS:
            with self.subTest(call=call):
                answer = chosen(*call)
                kept = list(answer)
                answer[0] = 9
                answer.append(9)
                self.assertEqual(chosen(*call), kept)

    def test_nothing_is_printed(self):
        out, err = io.StringIO(), io.StringIO()
        with contextlib.redirect_stdout(out), contextlib.redirect_stderr(err):
            for call in self.CALLS:
                chosen(*call)
        self.assertEqual((out.getvalue(), err.getvalue()), ("", ""))


if __name__ == "__main__":
    unittest.main()
