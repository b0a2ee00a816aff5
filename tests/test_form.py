"""The form of the package: those rules of LANGUAGE.md that can be seen file by file."""

import ast
import builtins
import pathlib
import re
import unittest

PACKAGE = pathlib.Path(__file__).resolve().parent.parent / "fallsum"

BUILTINS = set("""
len range enumerate zip min max sum abs sorted reversed int str bool bytes list tuple dict set frozenset
isinstance ord repr any all divmod Exception ValueError TypeError KeyError IndexError LookupError
ZeroDivisionError ArithmeticError OverflowError RuntimeError NotImplementedError AttributeError StopIteration
""".split())

METHODS = set("""
append clear copy count endswith extend find get index insert isalnum isalpha isdigit islower isspace isupper
items join keys ljust lower lstrip partition pop remove replace reverse rfind rjust rpartition rsplit rstrip
setdefault split splitlines startswith strip update upper values zfill bit_length add discard sort
title capitalize swapcase casefold center expandtabs removeprefix removesuffix rindex isascii isdecimal
isnumeric istitle isidentifier isprintable translate encode decode hex fromhex to_bytes from_bytes
""".split())

DUNDERS = {"__init__", "__eq__", "__repr__", "__str__", "__len__"}

BARRED_WORDS = re.compile(r"""\b(type|typing|typing_extensions|enum|Enum|IntEnum|StrEnum|Flag|IntFlag|Generic
|Protocol|ABC|ABCMeta|namedtuple|NamedTuple|TypedDict|TYPE_CHECKING|abstractmethod)\b
|dataclass|overload|contextmanager""", re.VERBOSE)

BARRED_NAMES = set("""
register mro elements open input version_info with_traceback add_note attrgetter breakpoint builtins compile
copyright credits delattr dir eval exec exit gc getattr globals hasattr help id importlib license locals
methodcaller os quit setattr super type vars sys chr format format_map
""".split())

STATEMENTS = (
    ast.Assign, ast.AugAssign, ast.AnnAssign, ast.If, ast.While, ast.For, ast.Return, ast.Break, ast.Continue,
    ast.Pass, ast.Raise, ast.Assert, ast.Delete, ast.Try, ast.Expr, ast.FunctionDef, ast.ClassDef, ast.ImportFrom,
)

BARRED_NODES = (
    ast.GeneratorExp, ast.NamedExpr, ast.Div, ast.MatMult, ast.Yield, ast.YieldFrom, ast.Await, ast.AsyncFor,
)

ON_THE_SPOT = ("zip", "enumerate", "range", "reversed", "items", "keys", "values")

AT_MODULE_LEVEL = (ast.ImportFrom, ast.FunctionDef, ast.ClassDef, ast.Assign)


def package_files():
    return sorted(path for path in PACKAGE.iterdir() if path.name != "__pycache__")


def names_bound(node):
    """The names that one statement at module level binds."""
    if isinstance(node, ast.ImportFrom):
        return [alias.asname or alias.name for alias in node.names]
    if isinstance(node, (ast.FunctionDef, ast.ClassDef)):
        return [node.name]
    if isinstance(node, ast.Assign):
        return [target.id for target in node.targets if isinstance(target, ast.Name)]
    return []


def defined_in(tree):
    return [name for node in tree.body if not isinstance(node, ast.ImportFrom) for name in names_bound(node)]


def names_written(tree):
    """Every name that a file binds or reads, with its line."""
    for node in ast.walk(tree):
        if isinstance(node, ast.Name):
            yield node.id, node.lineno
        elif isinstance(node, ast.arg):
            yield node.arg, node.lineno
        elif isinstance(node, (ast.FunctionDef, ast.ClassDef)):
            yield node.name, node.lineno
        elif isinstance(node, ast.Attribute):
            yield node.attr, node.lineno


class Form(unittest.TestCase):

    @classmethod
    def setUpClass(cls):
        cls.texts = {path.stem: path.read_text("ascii") for path in package_files() if path.suffix == ".py"}
        cls.trees = {stem: ast.parse(text) for stem, text in cls.texts.items()}

    def nodes(self):
        for stem, tree in self.trees.items():
            for node in ast.walk(tree):
                yield f"{stem}.py:{getattr(node, 'lineno', '?')}", node

    def test_files(self):
        self.assertIn("__init__", self.trees)
        for path in package_files():
            self.assertTrue(path.is_file() and re.fullmatch(r"[a-z0-9_]+\.py", path.name), path.name)

    def test_sizes_and_characters(self):
        for stem, text in self.texts.items():
            lines = text.split("\n")
            self.assertLessEqual(len(lines), 400, stem)
            for at, line in enumerate(lines, 1):
                self.assertLessEqual(len(line), 120, f"{stem}.py:{at}")
                self.assertRegex(line, r"\A[ -~]*\Z", f"{stem}.py:{at}")
        for where, node in self.nodes():
            if isinstance(node, ast.FunctionDef):
                self.assertLessEqual(node.end_lineno - node.lineno + 1, 40, where)

    def test_barred_words(self):
        for stem, text in self.texts.items():
            for at, line in enumerate(text.split("\n"), 1):
                self.assertIsNone(BARRED_WORDS.search(line), f"{stem}.py:{at}")

    def test_imports(self):
        for where, node in self.nodes():
            self.assertNotIsInstance(node, ast.Import, where)
            if isinstance(node, ast.ImportFrom):
                self.assertEqual(node.level, 0, where)
                package, _, stem = node.module.partition(".")
                self.assertEqual(package, "fallsum", where)
                for alias in node.names:
                    self.assertIn(alias.name, defined_in(self.trees[stem]), where)

    def test_no_two_files_import_from_each_other(self):
        ahead = {}
        for stem, tree in self.trees.items():
            ahead[stem] = {node.module.partition(".")[2] for node in tree.body if isinstance(node, ast.ImportFrom)}
        while ahead:
            free = [stem for stem, needed in ahead.items() if not needed & set(ahead)]
            self.assertTrue(free, f"in a ring: {sorted(ahead)}")
            for stem in free:
                del ahead[stem]

    def test_module_level(self):
        for stem, tree in self.trees.items():
            body = tree.body[1:] if ast.get_docstring(tree) is not None else tree.body
            for node in body:
                self.assertIsInstance(node, AT_MODULE_LEVEL, f"{stem}.py:{node.lineno}")
            names = [name for node in body for name in names_bound(node)]
            self.assertEqual(sorted(names), sorted(set(names)), stem)

    def test_functions_and_classes(self):
        for where, node in self.nodes():
            if isinstance(node, (ast.FunctionDef, ast.ClassDef)):
                self.assertEqual(node.decorator_list, [], where)
            if isinstance(node, ast.arguments):
                self.assertEqual((node.vararg, node.kwarg, node.posonlyargs), (None, None, []), where)
            if isinstance(node, ast.ClassDef):
                self.assertLessEqual(len(node.bases), 1, where)
                self.assertEqual(node.keywords, [], where)

    def test_statements_and_expressions(self):
        for where, node in self.nodes():
            if isinstance(node, ast.stmt):
                self.assertIsInstance(node, STATEMENTS, where)
            self.assertNotIsInstance(node, BARRED_NODES, where)
            if isinstance(node, (ast.For, ast.While)):
                self.assertEqual(node.orelse, [], where)
            if isinstance(node, ast.Constant):
                self.assertNotIsInstance(node.value, (float, complex), where)
            if isinstance(node, ast.Constant) and isinstance(node.value, str):
                self.assertNotIn("%", node.value, where)
            if isinstance(node, ast.FormattedValue):
                self.assertIsNone(node.format_spec, where)
            if isinstance(node, ast.ExceptHandler):
                self.assertIsNotNone(node.type, where)
            if isinstance(node, ast.Compare):
                self.is_only_with_plain(where, node)

    def is_only_with_plain(self, where, node):
        for sign, right in zip(node.ops, node.comparators):
            if isinstance(sign, (ast.Is, ast.IsNot)):
                self.assertIsInstance(right, ast.Constant, where)
                self.assertIn(repr(right.value), ("None", "True", "False"), where)

    def test_names(self):
        for stem, tree in self.trees.items():
            for name, at in names_written(tree):
                where = f"{stem}.py:{at} {name}"
                self.assertTrue(name in DUNDERS or re.fullmatch(r"[A-Za-z][A-Za-z0-9_]*", name), where)
                self.assertNotIn(name, BARRED_NAMES, where)

    def test_builtins(self):
        every = set(dir(builtins))
        for stem, tree in self.trees.items():
            taken = {name for node in tree.body for name in names_bound(node)}
            self.assertEqual(taken & every, set(), stem)
            for node in ast.walk(tree):
                if isinstance(node, ast.Name) and isinstance(node.ctx, ast.Load) and node.id in every:
                    self.assertIn(node.id, BUILTINS, f"{stem}.py:{node.lineno}")
                if isinstance(node, ast.Name) and isinstance(node.ctx, ast.Store):
                    self.assertNotIn(node.id, every, f"{stem}.py:{node.lineno}")
                if isinstance(node, ast.arg):
                    self.assertNotIn(node.arg, every, f"{stem}.py:{node.lineno}")

    def test_no_local_name_hides_a_name_of_its_file(self):
        for stem, tree in self.trees.items():
            taken = {name for node in tree.body for name in names_bound(node)}
            for function in ast.walk(tree):
                if isinstance(function, ast.FunctionDef):
                    for node in ast.walk(function):
                        if isinstance(node, ast.Name) and isinstance(node.ctx, ast.Store):
                            self.assertNotIn(node.id, taken, f"{stem}.py:{node.lineno}")
                        if isinstance(node, ast.arg):
                            self.assertNotIn(node.arg, taken, f"{stem}.py:{node.lineno}")

    def test_methods(self):
        own = set()
        for tree in self.trees.values():
            for node in ast.walk(tree):
                if isinstance(node, ast.ClassDef):
                    own |= {part.name for part in node.body if isinstance(part, ast.FunctionDef)}
        for where, node in self.nodes():
            if isinstance(node, ast.Call) and isinstance(node.func, ast.Attribute):
                self.assertIn(node.func.attr, METHODS | DUNDERS | own, where)

    def test_no_name_is_a_method_and_an_attribute(self):
        own, assigned = set(), set()
        for where, node in self.nodes():
            if isinstance(node, ast.ClassDef):
                names = [part.name for part in node.body if isinstance(part, ast.FunctionDef)]
                self.assertEqual(len(names), len(set(names)), where)
                own |= set(names)
            if isinstance(node, ast.Attribute) and isinstance(node.ctx, ast.Store):
                assigned.add(node.attr)
        self.assertEqual(own & assigned, set())
        for where, node in self.nodes():
            if isinstance(node, ast.Attribute):
                self.assertIn(node.attr, METHODS | DUNDERS | own | assigned, where)

    def test_iterated_at_once(self):
        at_once = set()
        for where, node in self.nodes():
            if isinstance(node, (ast.For, ast.comprehension)):
                at_once.add(node.iter)
            if isinstance(node, ast.Call) and isinstance(node.func, ast.Name) and node.args:
                if node.func.id in ("list", "tuple", "dict", "sorted", "sum", "any", "all", "enumerate", "zip"):
                    at_once.add(node.args[0])
        for where, node in self.nodes():
            if isinstance(node, ast.Call) and self.called(node) in ON_THE_SPOT:
                self.assertIn(node, at_once, where)

    def called(self, node):
        return node.func.id if isinstance(node.func, ast.Name) else getattr(node.func, "attr", None)

    def test_sets_stand_in_sorted_or_len_or_behind_in(self):
        placed = set()
        for where, node in self.nodes():
            if isinstance(node, ast.Call) and self.called(node) in ("sorted", "len"):
                placed.add(node.args[0])
            if isinstance(node, ast.Compare):
                placed.update(node.comparators)
        for where, node in self.nodes():
            if isinstance(node, (ast.Set, ast.SetComp)) or (isinstance(node, ast.Call) and self.called(node) == "set"):
                self.assertIn(node, placed, where)

    def test_powers_of_a_written_number_only(self):
        for where, node in self.nodes():
            if isinstance(node, ast.BinOp) and isinstance(node.op, ast.Pow):
                self.assertIsInstance(node.right, ast.Constant, where)
                self.assertLessEqual(node.right.value, 64, where)
