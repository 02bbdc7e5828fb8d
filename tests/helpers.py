"""What several test files need."""

LONGEST_DRAWN = 200


class ReadOnlyList(list):
    """A list that tells of any change, one that is taken back later too."""

    def refuse(self, *args, **kwargs):
        raise AssertionError("what was handed in was changed")

    append = extend = insert = pop = remove = clear = refuse
    reverse = sort = refuse
    __setitem__ = __delitem__ = __iadd__ = __imul__ = refuse


class Drawing:
    """Numbers that look drawn, but are the same at each run and on each Python."""

    def __init__(self, seed):
        self.state = seed

    def below(self, bound):
        self.state = (self.state * 6364136223846793005 + 1442695040888963407) % 2 ** 64
        return (self.state >> 33) % bound

    def numbers(self, row, count):
        return [row[self.below(len(row))] for number in range(count)]

    def text(self, row):
        return self.numbers(row, 5 + self.below(LONGEST_DRAWN - 4))
