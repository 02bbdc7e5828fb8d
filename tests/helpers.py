"""What several test files need."""


class ReadOnlyList(list):
    """A list that tells of any change, one that is taken back later too."""

    def refuse(self, *args, **kwargs):
        raise AssertionError("what was handed in was changed")

    append = extend = insert = pop = remove = clear = refuse
    reverse = sort = refuse
    __setitem__ = __delitem__ = __iadd__ = __imul__ = refuse
