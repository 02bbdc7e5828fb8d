"""What the package's files must keep to, as far as a short look can tell."""

import ast
import pathlib
import unittest

import bothwaysdesk

PACKAGE = pathlib.Path(bothwaysdesk.__file__).parent


class PackageFiles(unittest.TestCase):
    def setUp(self):
        self.files = sorted(PACKAGE.glob("*.py"))

    def test_files_are_there(self):
        self.assertEqual([path.name for path in self.files], ["__init__.py", "lines.py"])

    def test_nothing_else_lies_in_the_package(self):
        others = [
            path.name
            for path in PACKAGE.iterdir()
            if path.suffix != ".py" and path.name != "__pycache__"
        ]
        self.assertEqual(others, [])

    def test_nothing_is_imported(self):
        for path in self.files:
            for node in ast.walk(ast.parse(path.read_text(encoding="utf-8"))):
                self.assertNotIsInstance(node, (ast.Import, ast.ImportFrom), path.name)

    def test_signs_and_sizes(self):
        for path in self.files:
            text = path.read_bytes().decode("utf-8")
            self.assertTrue(all(sign == "\n" or " " <= sign <= "~" for sign in text), path.name)
            rows = text.split("\n")
            self.assertLessEqual(len(rows), 401, path.name)
            self.assertLessEqual(max(len(row) for row in rows), 120, path.name)

    def test_functions_are_short(self):
        for path in self.files:
            for node in ast.walk(ast.parse(path.read_text(encoding="utf-8"))):
                if isinstance(node, ast.FunctionDef):
                    self.assertLessEqual(node.end_lineno - node.lineno + 1, 40, node.name)


if __name__ == "__main__":
    unittest.main()
