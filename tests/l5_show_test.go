package tests

import (
	"slices"
	"strings"
	"testing"

	"loop.example/chancery/impl"
)

func TestP17ReadBack(t *testing.T) {
	long := 0
	for _, n := range append(forest(), bush(200), chain(20)) {
		text := impl.Show(n)
		if text == "" {
			t.Fatalf("%+v has no text", n)
		}
		if !reads(t, text, n) {
			long++
		}
	}
	if long == 0 || long > 200 {
		t.Errorf("%d are too long to be read back", long)
	}
}

func TestP17Texts(t *testing.T) {
	for _, text := range []string{
		"null", "true", "false", "self", "super.a", "import a", "0", "2.5", "100000000", "0.00000001", `""`, `"a\n\"\\\x00"`, "a",
		`error "x"`, "error a + b", "error error a", "!a", "-a", "--a", "!-!a", "-1", "a || b", "a + b * c", "a - b - c", "a - -b", "a * -b", "-a * b",
		"if a then b else c", "if if a then b else c then local x = 1; x else error d", "local x = 2; x + 1", "local x = local y = 1; y; x",
		"function() 1", "function(a) a", "function(a, b, c) a + b", "function(a) function(b) a", "f()", "f(a)", "f(a, b)", "f(a + b, if a then b else c)", "f(1)(2)[3].x",
		"a.b.c", "a[b]", "a[b + c]", "a[local x = 1; x]", `"a".b`, "[].a", "{}.a", "[1][0]", "import a.b", "import a(1)", "super.a.b", "self.a", "std.length(a).b", "std.map(a, b)(c)",
		"[]", "[1]", "[1, 2]", "[a, [b], {}]", "[x for x in y]", "[x + 1 for x in y + z]", "[if a then b else c for x in error d]", "[x for x in y].a",
		"{}", "{a: 1}", "{a: 1, b:: 2, c+: 3}", "{a: if b then c else d, e: function(f) f}", "std.length(a)", "std.map(a, b)", "std.fold(a, b + c, error d)",
		"(a + b) * c", "a * (b + c)", "a - (b - c)", "a - (b + c)", "(a || b) && c", "a && (b || c)", "(a == b) < c", "a == b == c", "a == (b == c)", "a < b == c", "(a == b) * c", "a + b || c && d",
		"(if a then b else c) + 1", "1 + (if a then b else c)", "(local x = 1; x) || a", "a || (local x = 1; x)", "(function() 1) == a", "a == (function() 1)", "(error a) + b", "a + (error b)",
		"!(a && b)", "-(a + b)", "!(a * b)", "-(if a then b else c)", "-(local x = 1; x)", "!(function() 1)", "-(error a)", "-a.b", "-f(a)", "-a[b]", "-(1).a",
		"(a + b).c", "(a * b)[c]", "(a || b)(c)", "(-a).b", "(!a)[b]", "(-a)(b)", "(1).a", "(2.5)[0]", "(1)(2)", "(if a then b else c).d", "(local x = 1; x)[0]", "(function() 1)()", "(error a).b", "(error a)()",
		`(if a then b else c)[error "x"]`,
	} {
		if got := impl.Show(mustRead(t, text)); got != text {
			t.Errorf("%s instead of %s", got, text)
		}
	}
}

// The pair of brackets around a part stands there only if the tree is another one without it; but a number that something stands behind always has them.
func TestP17FewBrackets(t *testing.T) {
	pairs := 0
	for _, n := range forest() {
		text := impl.Show(n)
		tokens, code, _ := impl.Lex(text)
		if code != 0 {
			continue
		}
		for i, end := range groups(tokens) {
			if end == i+2 && tokens[i+1].Kind == impl.TokNum {
				continue
			}
			pairs++
			without := text[:tokens[i].At] + " " + text[tokens[i].At+1:tokens[end].At] + " " + text[tokens[end].At+1:]
			if tree, code, _ := impl.Parse(without); code == 0 && impl.TreeSame(tree, n) {
				t.Fatalf("%s has brackets that it does not need: %s", text, without)
			}
		}
	}
	if pairs < 500 {
		t.Errorf("only %d pairs", pairs)
	}
}

// groups is, for each bracket that begins a part and no list of a function or call, the place of the one that ends it.
func groups(tokens []impl.Token) map[int]int {
	out := map[int]int{}
	var open []int
	for i, token := range tokens {
		switch bracketStep(token) {
		case 1:
			open = append(open, i)
		case -1:
			begin := open[len(open)-1]
			open = open[:len(open)-1]
			if token.Text == ")" && (begin == 0 || beginsPart(tokens[begin-1])) {
				out[begin] = i
			}
		}
	}
	return out
}

// beginsPart says whether a bracket behind a token is the beginning of a part.
func beginsPart(ahead impl.Token) bool {
	if ahead.Kind == impl.TokName {
		return slices.Contains(strings.Fields("if then else error in"), ahead.Text)
	}
	return ahead.Kind == impl.TokSign && !slices.Contains([]string{")", "]", "}"}, ahead.Text)
}

func TestP17Wrong(t *testing.T) {
	for i, n := range wrongTrees() {
		if got := impl.Show(n); got != "" {
			t.Errorf("%d: %q", i, got)
		}
	}
}

func TestP17Long(t *testing.T) {
	long := tree(impl.NodeText, strings.Repeat("a", impl.TextMax))
	if text := impl.Show(long); text != impl.QuotePut(long.Text) || reads(t, text, long) {
		t.Error(len(text))
	}
	fits := tree(impl.NodeText, strings.Repeat("a", impl.TextMax-2))
	if !reads(t, impl.Show(fits), fits) {
		t.Error("a text of TextMax bytes is read back")
	}
}
