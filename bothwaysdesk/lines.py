"""The calls over a text, which is a list of its cells' kinds (0 to 7)."""

LETTER_TO_RIGHT = 0
LETTER_TO_LEFT = 1


def base_of(kinds):
    """Give back, alone in a list, the direction that base 2 comes to."""
    # Marks don't hide a letter here: one within an opened part counts like any other.
    for kind in kinds:
        if kind == LETTER_TO_RIGHT or kind == LETTER_TO_LEFT:
            return [kind]
    return [0]
