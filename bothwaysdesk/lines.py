"""The calls over a text, which is a list of its cells' kinds (0 to 7), and over its screen."""

# The kind of a letter is its direction too.
LETTER_TO_RIGHT = 0
LETTER_TO_LEFT = 1
DIGIT = 2
SIGN_IN_NUMBERS = 3
ANYTHING_ELSE = 4
OPENS_TO_RIGHT = 5
OPENS_TO_LEFT = 6
CLOSES = 7

BASE_FROM_TEXT = 2
HIGHEST_PART_LEVEL = 60

REFUSED = -1


def base_of(kinds):
    """Give back, alone in a list, the direction that base 2 comes to."""
    # Marks don't hide a letter here: one within an opened part counts like any other.
    for kind in kinds:
        if is_letter(kind):
            return [kind]
    return [0]


def levels_of(base, kinds):
    """Give back in a list the base, which is then 0 or 1, and each cell's level."""
    real_base = base_of(kinds)[0] if base == BASE_FROM_TEXT else base
    part_levels = levels_of_parts(real_base, kinds)
    answer = [real_base]
    level_before = real_base
    begin = 0
    while begin < len(kinds):
        level = part_levels[begin]
        behind = place_behind_run(begin, part_levels)
        level_behind = part_levels[behind] if behind < len(kinds) else real_base
        beginning = direction_of(max(level, level_before))
        end = direction_of(max(level, level_behind))
        answer.extend(levels_in_run(kinds[begin:behind], level, beginning, end))
        level_before = level
        begin = behind
    return answer


def order_of(begin, to, base, kinds, levels):
    """Give back the places of a line's cells as they stand on the screen, from the left."""
    loose = place_of_loose_end(begin, to, kinds)
    # Kept from the text's first cell on, so that a place in the text is its index.
    line_levels = levels[:loose] + [base] * (to - loose)
    places = list(range(begin, to))
    for level in range(max(line_levels[begin:], default=0), 0, -1):
        places = with_stretches_turned(places, level, line_levels)
    return places


def chosen(i, j, most, order):
    """Give back how many stretches of the screen are chosen, then each one's bounds; or -1."""
    if i < 0 or j < 0:
        return [REFUSED]
    bounds = bounds_of_stretches(i, j, order)
    count = len(bounds) // 2
    if count > most:
        return [REFUSED]
    return [count] + bounds


def is_letter(kind):
    return kind == LETTER_TO_RIGHT or kind == LETTER_TO_LEFT


def direction_of(level):
    return level % 2


def levels_of_parts(base, kinds):
    """Give back, for each cell, the level of the part that it belongs to."""
    level = base
    levels_around = []
    # All that opens within an uncounted part is uncounted too, so their number is enough.
    uncounted = 0
    answer = []
    for kind in kinds:
        if kind == CLOSES:
            if uncounted > 0:
                uncounted -= 1
            elif len(levels_around) > 0:
                level = levels_around.pop()
        # Between closing and opening, as both marks belong to the part around.
        answer.append(level)
        if kind == OPENS_TO_RIGHT or kind == OPENS_TO_LEFT:
            opened = level_of_opened_part(kind, level)
            if uncounted > 0 or opened > HIGHEST_PART_LEVEL:
                uncounted += 1
            else:
                levels_around.append(level)
                level = opened
    return answer


def level_of_opened_part(mark, level):
    """Give back the next level above this one that has the mark's direction."""
    direction = LETTER_TO_RIGHT if mark == OPENS_TO_RIGHT else LETTER_TO_LEFT
    return level + 2 if direction_of(level) == direction else level + 1


def place_behind_run(begin, part_levels):
    place = begin
    while place < len(part_levels) and part_levels[place] == part_levels[begin]:
        place += 1
    return place


def levels_in_run(cells, level, beginning, end):
    """Give back the levels of a run's cells; beginning and end are directions."""
    joined = with_signs_as_digits(cells)
    told = with_digits_as_letters(joined, beginning)
    settled = with_rest_as_letters(told, level, beginning, end)
    return [level_of_cell(kind, level) for kind in settled]


def with_signs_as_digits(cells):
    answer = list(cells)
    for place in range(1, len(cells) - 1):
        if cells[place - 1] == DIGIT and cells[place] == SIGN_IN_NUMBERS and cells[place + 1] == DIGIT:
            answer[place] = DIGIT
    return answer


def with_digits_as_letters(cells, beginning):
    answer = []
    last_letter = beginning
    for kind in cells:
        if is_letter(kind):
            last_letter = kind
        if kind == DIGIT and last_letter == LETTER_TO_RIGHT:
            answer.append(LETTER_TO_RIGHT)
        else:
            answer.append(kind)
    return answer


def with_rest_as_letters(cells, level, beginning, end):
    """Give back the cells with letters for all that is neither a letter nor a digit."""
    answer = []
    before = beginning
    place = 0
    while place < len(cells):
        behind = place_behind_rest(place, cells)
        if behind > place:
            direction_behind = direction_as_side(cells[behind]) if behind < len(cells) else end
            direction = before if before == direction_behind else direction_of(level)
            answer.extend([direction] * (behind - place))
            place = behind
        else:
            answer.append(cells[place])
            before = direction_as_side(cells[place])
            place += 1
    return answer


def place_behind_rest(begin, cells):
    place = begin
    while place < len(cells) and not is_letter(cells[place]) and cells[place] != DIGIT:
        place += 1
    return place


def direction_as_side(kind):
    # Digits count as read to the left beside what is left, though they are read to the right.
    return LETTER_TO_LEFT if kind == DIGIT else kind


def level_of_cell(kind, level):
    """Give back the level of a letter or digit in a part of this level."""
    if is_letter(kind) and kind == direction_of(level):
        return level
    if kind == DIGIT and direction_of(level) == LETTER_TO_RIGHT:
        return level + 2
    return level + 1


def place_of_loose_end(begin, to, kinds):
    """Give back where the stretch of the kinds 4 to 7 begins that ends the line."""
    place = to
    while place > begin and kinds[place - 1] >= ANYTHING_ELSE:
        place -= 1
    return place


def with_stretches_turned(places, least, levels):
    """Give back the places with each longest stretch of this level or more turned round."""
    answer = []
    stretch = []
    for place in places:
        if levels[place] >= least:
            stretch.append(place)
        else:
            stretch.reverse()
            answer.extend(stretch)
            answer.append(place)
            stretch = []
    stretch.reverse()
    answer.extend(stretch)
    return answer


def bounds_of_stretches(i, j, order):
    """Give back, of each longest stretch with places from i to before j, its two bounds."""
    bounds = []
    was_within = False
    for place_on_screen, place in enumerate(order):
        is_within = i <= place < j
        if is_within != was_within:
            bounds.append(place_on_screen)
        was_within = is_within
    if was_within:
        bounds.append(len(order))
    return bounds
