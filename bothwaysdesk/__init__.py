"""Lines whose parts are read both ways."""
