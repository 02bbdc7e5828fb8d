"""What the package's files must keep to, as far as a short look can tell."""

import ast
import builtins
import inspect
import pathlib
import unittest

import bothwaysdesk
from bothwaysdesk import lines

PACKAGE = pathlib.Path(bothwaysdesk.__file__).parent

# Those of Python's own names that neither print nor read.
BUILT_INS_USED = {"enumerate", "len", "list", "max", "range"}

INTERFACE = {
    "base_of": ["kinds"],
    "levels_of": ["base", "kinds"],
    "order_of": ["begin", "to", "base", "kinds", "levels"],
    "chosen": ["i", "j", "most", "order"],
}


class PackageFiles(unittest.TestCase):
    def setUp(self):
        self.files = sorted(PACKAGE.glob("*.py"))

    def test_files_are_there(self):
        self.assertEqual([path.name for path in self.files], ["__init__.py", "lines.py"])

    def test_nothing_else_lies_in_the_package(self):
        others = [
            path.name
            for path in PACKAGE.iterdir()
            if path.suffix != ".py" and path.name != "__pycache__"
        ]
        self.assertEqual(others, [])

    def test_nothing_is_imported(self):
        for path in self.files:
            for node in ast.walk(ast.parse(path.read_text(encoding="utf-8"))):
                self.assertNotIsInstance(node, (ast.Import, ast.ImportFrom), path.name)

    def test_nothing_is_printed_or_read(self):
        for path in self.files:
            for node in ast.walk(ast.parse(path.read_text(encoding="utf-8"))):
                if isinstance(node, ast.Name) and hasattr(builtins, node.id):
                    self.assertIn(node.id, BUILT_INS_USED, path.name)

    def test_signs_and_sizes(self):
        for path in self.files:
            text = path.read_bytes().decode("utf-8")
            self.assertTrue(all(sign == "\n" or " " <= sign <= "~" for sign in text), path.name)
            rows = text.split("\n")
            self.assertLessEqual(len(rows), 401, path.name)
            self.assertLessEqual(max(len(row) for row in rows), 120, path.name)

    def test_functions_are_short(self):
        for path in self.files:
            for node in ast.walk(ast.parse(path.read_text(encoding="utf-8"))):
                if isinstance(node, ast.FunctionDef):
                    self.assertLessEqual(node.end_lineno - node.lineno + 1, 40, node.name)


class Interface(unittest.TestCase):
    def test_names_and_arguments(self):
        for name, arguments in INTERFACE.items():
            with self.subTest(name=name):
                parameters = inspect.signature(getattr(lines, name)).parameters
                self.assertEqual(list(parameters), arguments)

    def test_no_argument_may_be_left_out(self):
        for name in INTERFACE:
            with self.subTest(name=name):
                parameters = inspect.signature(getattr(lines, name)).parameters.values()
                self.assertTrue(all(parameter.default is parameter.empty for parameter in parameters))


if __name__ == "__main__":
    unittest.main()
