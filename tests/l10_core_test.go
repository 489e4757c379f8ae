package tests

import (
	"strings"
	"testing"

	"loop.example/chancery/impl"
)

func TestP21Small(t *testing.T) {
	for _, n := range forest() {
		wide, small := impl.Show(n), impl.Small(n)
		if _, code, _ := impl.Lex(wide); code != 0 {
			if small != "" {
				t.Fatalf("%q, though %q has code %d", small, wide, code)
			}
			continue
		}
		if len(small) > len(wide) || !reads(t, small, n) {
			t.Fatalf("%q, %q", small, wide)
		}
	}
}

func TestP21Texts(t *testing.T) {
	for _, c := range [][2]string{
		{"if a then \"b\\n\" else [ c , d ]", "if a then\"b\\n\"else[c,d]"}, {"local a = 1; function(b, c) a", "local a=1;function(b,c)a"}, {"function() 1", "function()1"},
		{"[a for b in c]", "[a for b in c]"}, {"[(a) for b in [c]]", "[a for b in[c]]"}, {"[1 for b in c]", "[1 for b in c]"}, {"[\"1\" for b in c]", "[\"1\"for b in c]"}, {"a + b * - c", "a+b*-c"}, {"a < b == !c", "a<b==!c"}, {"error \"a b\"", "error\"a b\""}, {"error a", "error a"}, {"error -a", "error-a"},
		{"import a.b", "import a.b"}, {"{a: 1, b:: 2, c+: 3}", "{a:1,b::2,c+:3}"}, {"(1).a", "(1).a"}, {"std.fold(a, b, c)", "std.fold(a,b,c)"}, {"if 1 then 2 else 3", "if 1 then 2 else 3"}, {"a - -b", "a--b"}, {"a && b || c", "a&&b||c"},
	} {
		if got := impl.Small(mustRead(t, c[0])); got != c[1] {
			t.Errorf("%s: %s instead of %s", c[0], got, c[1])
		}
	}
}

func TestP21Edges(t *testing.T) {
	for i, n := range wrongTrees() {
		if got := impl.Small(n); got != "" {
			t.Errorf("%d: %q", i, got)
		}
	}
	fits := tree(impl.NodeText, strings.Repeat("a", impl.TextMax-2))
	if impl.Small(fits) != impl.Show(fits) || impl.Small(tree(impl.NodeText, fits.Text+"a")) != "" {
		t.Error("a text of TextMax bytes is small, too; one of more has none")
	}
}
