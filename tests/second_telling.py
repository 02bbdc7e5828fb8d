"""What the document says of levels, lines and what is chosen, told a second time and without haste.

Each cell is looked at by itself and everything is found anew for it, so that
nothing here goes the program's way.
"""

import itertools

HIGHEST = 60


def told_base(base, kinds):
    if base != 2:
        return base
    letters = [kind for kind in kinds if kind in (0, 1)]
    return letters[0] if letters else 0


def level_behind_marks(base, marks):
    """Point 1. Each part is kept with the level that it would have: within one
    above 60, all are above 60 too, so those up to 60 are the counted ones."""
    open_parts = [base]
    for mark in marks:
        if mark == 7 and len(open_parts) > 1:
            open_parts.pop()
        if mark in (5, 6):
            rest = {5: 0, 6: 1}[mark]
            above = itertools.count(open_parts[-1] + 1)
            open_parts.append(next(level for level in above if level % 2 == rest))
    return max(level for level in open_parts if level <= HIGHEST)


def part_levels(base, kinds):
    levels = []
    for place, kind in enumerate(kinds):
        behind = place + 1 if kind == 7 else place
        levels.append(level_behind_marks(base, kinds[:behind]))
    return levels


def runs(base, kinds):
    """Point 2: of each run its level, the directions of its two ends, its cells."""
    levels = part_levels(base, kinds)
    grouped = [
        (level, [kinds[place] for place in places])
        for level, places in itertools.groupby(range(len(kinds)), key=lambda place: levels[place])
    ]
    bordered = [base] + [level for level, cells in grouped] + [base]
    return [
        (level, max(level, bordered[index]) % 2, max(level, bordered[index + 2]) % 2, cells)
        for index, (level, cells) in enumerate(grouped)
    ]


def behind_point_3(cells):
    told = []
    for place, kind in enumerate(cells):
        around = cells[max(place - 1, 0):place + 2]
        told.append(2 if kind == 3 and around == [2, 3, 2] else kind)
    return told


def behind_point_4(cells, beginning):
    told = []
    for place, kind in enumerate(cells):
        letters = [before for before in cells[:place] if before in (0, 1)]
        last = letters[-1] if letters else beginning
        told.append(0 if kind == 2 and last == 0 else kind)
    return told


def behind_point_5(cells, level, beginning, end):
    told = []
    for place, kind in enumerate(cells):
        if kind < 3:
            told.append(kind)
            continue
        sides_before = [beginning] + [side for side in cells[:place] if side < 3]
        sides_behind = [side for side in cells[place:] if side < 3] + [end]
        sides = {min(sides_before[-1], 1), min(sides_behind[0], 1)}
        told.append(sides.pop() if len(sides) == 1 else level % 2)
    return told


EVEN = {0: 0, 1: 1, 2: 2}
ODD = {0: 1, 1: 0, 2: 1}


def told_levels(base, kinds):
    real_base = told_base(base, kinds)
    answer = [real_base]
    for level, beginning, end, cells in runs(real_base, kinds):
        cells = behind_point_3(cells)
        cells = behind_point_4(cells, beginning)
        cells = behind_point_5(cells, level, beginning, end)
        answer += [level + (ODD if level % 2 else EVEN)[kind] for kind in cells]
    return answer


def levels_in_line(begin, to, base, kinds, levels):
    """Of each cell of the line its place and the level that it has there."""
    return [
        (place, base if all(kind in (4, 5, 6, 7) for kind in kinds[place:to]) else levels[place])
        for place in range(begin, to)
    ]


def told_order(begin, to, base, kinds, levels):
    """"A line", word by word."""
    row = levels_in_line(begin, to, base, kinds, levels)
    highest = max([level for place, level in row], default=0)
    for least in range(highest, 0, -1):
        stretches = itertools.groupby(row, key=lambda cell: cell[1] >= least)
        row = []
        for turned, stretch in stretches:
            row = row + list(stretch)[::-1 if turned else 1]
    return [place for place, level in row]


def order_by_pairs(begin, to, base, kinds, levels):
    """The same without any turning: two cells are turned round together as often as
    the least level from one to the other says, and so stand the other way round
    where that is odd. A cell stands behind as many as stand to its left."""
    row = levels_in_line(begin, to, base, kinds, levels)
    answer = [None] * len(row)
    for here in range(len(row)):
        least = row[here][1]
        left = 0
        for there in range(here, -1, -1):
            least = min(least, row[there][1])
            left += there < here and least % 2 == 0
        least = row[here][1]
        for there in range(here, len(row)):
            least = min(least, row[there][1])
            left += there > here and least % 2 == 1
        answer[left] = begin + here
    return answer


def told_chosen(i, j, most, order):
    """Promise 4: of all stretches of the screen, those that hold nothing else and can't be longer."""
    if min(i, j) < 0:
        return [-1]
    fits = [False] + [place in range(i, j) for place in order] + [False]
    bounds = [
        (begin, behind)
        for begin, behind in itertools.combinations(range(len(order) + 1), 2)
        if not fits[begin] and not fits[behind + 1] and all(fits[begin + 1:behind + 1])
    ]
    if len(bounds) > most:
        return [-1]
    return [len(bounds)] + [bound for pair in bounds for bound in pair]
