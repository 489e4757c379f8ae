package tests

import (
	"slices"
	"strings"
	"testing"

	"loop.example/chancery/impl"
)

func TestP21Small(t *testing.T) {
	for _, n := range forest() {
		wide, small := impl.Show(n), impl.Small(n)
		if _, code, _ := impl.Lex(wide); code != 0 {
			if small != "" {
				t.Fatalf("%q, though %q has code %d", small, wide, code)
			}
			continue
		}
		if len(small) > len(wide) || !reads(t, small, n) {
			t.Fatalf("%q, %q", small, wide)
		}
	}
}

func TestP21Texts(t *testing.T) {
	for _, c := range [][2]string{
		{"if a then \"b\\n\" else [ c , d ]", "if a then\"b\\n\"else[c,d]"}, {"local a = 1; function(b, c) a", "local a=1;function(b,c)a"}, {"function() 1", "function()1"},
		{"[a for b in c]", "[a for b in c]"}, {"[(a) for b in [c]]", "[a for b in[c]]"}, {"[1 for b in c]", "[1 for b in c]"}, {"[\"1\" for b in c]", "[\"1\"for b in c]"}, {"a + b * - c", "a+b*-c"}, {"a < b == !c", "a<b==!c"}, {"error \"a b\"", "error\"a b\""}, {"error a", "error a"}, {"error -a", "error-a"},
		{"import a.b", "import a.b"}, {"{a: 1, b:: 2, c+: 3}", "{a:1,b::2,c+:3}"}, {"(1).a", "(1).a"}, {"std.fold(a, b, c)", "std.fold(a,b,c)"}, {"if 1 then 2 else 3", "if 1 then 2 else 3"}, {"a - -b", "a--b"}, {"a && b || c", "a&&b||c"},
	} {
		if got := impl.Small(mustRead(t, c[0])); got != c[1] {
			t.Errorf("%s: %s instead of %s", c[0], got, c[1])
		}
	}
}

func TestP21Edges(t *testing.T) {
	for i, n := range wrongTrees() {
		if got := impl.Small(n); got != "" {
			t.Errorf("%d: %q", i, got)
		}
	}
	fits := tree(impl.NodeText, strings.Repeat("a", impl.TextMax-2))
	if impl.Small(fits) != impl.Show(fits) || impl.Small(tree(impl.NodeText, fits.Text+"a")) != "" {
		t.Error("a text of TextMax bytes is small, too; one of more has none")
	}
}

// countNodes is how many nodes of a kind a tree has.
func countNodes(n impl.Node, kind int) int {
	count := 0
	for _, node := range nodesOf(&n) {
		if node.Kind == kind {
			count++
		}
	}
	return count
}

// coreAgain is a tree with fewer kinds, from above.
func coreAgain(n impl.Node) impl.Node {
	out := impl.Node{Kind: n.Kind, Text: n.Text, Num: n.Num}
	switch n.Kind {
	case impl.NodeFor:
		out = tree(impl.NodeStd, "map", tree(impl.NodeFunc, "", nameTree(n.Text), n.Kids[1]), n.Kids[0])
	case impl.NodeMinus:
		out = twoTree(numTree(0, 0), "-", n.Kids[0])
	case impl.NodeNot:
		out = tree(impl.NodeIf, "", n.Kids[0], tree(impl.NodeFalse, ""), tree(impl.NodeTrue, ""))
	default:
		out.Kids = append(out.Kids, n.Kids...)
	}
	for i, kid := range out.Kids {
		out.Kids[i] = coreAgain(kid)
	}
	return out
}

func TestP56Core(t *testing.T) {
	o := orchard{t: t}
	trees := forest()
	for _, came := range grove() {
		trees = append(trees, came.tree)
	}
	for _, n := range trees {
		got, want := impl.Core(n), coreAgain(n)
		if whyWrong(want) != "" {
			want = n
		} else if countNodes(got, impl.NodeFor)+countNodes(got, impl.NodeMinus)+countNodes(got, impl.NodeNot) > 0 {
			t.Fatalf("%s: %s", impl.Show(n), impl.Show(got))
		}
		if !impl.TreeSame(got, want) || !slices.Equal(impl.Frees(got), impl.Frees(n)) || impl.ScopeCheck(got) != impl.ScopeCheck(n) {
			t.Fatalf("%s: %s instead of %s", impl.Show(n), impl.Show(got), impl.Show(want))
		}
		o.alike(got, n)
	}
	o.atLeast(1600)
}

func TestP56Texts(t *testing.T) {
	for _, c := range [][2]string{
		{"-1", "0 - 1"}, {"!true", "if true then false else true"}, {"[x for x in y]", "std.map(function(x) x, y)"}, {"--1", "0 - (0 - 1)"}, {"!!a", "if if a then false else true then false else true"}, {"[-x for x in [!y for y in z]]", "std.map(function(x) 0 - x, std.map(function(y) if y then false else true, z))"}, {"1 - 2", "1 - 2"}, {"{a: -b, c:: !d, e+: [f for f in g]}", "{a: 0 - b, c:: if d then false else true, e+: std.map(function(f) f, g)}"}, {"-(1).a", "0 - (1).a"}, {"function(a) -a", "function(a) 0 - a"}, {"local a = -1; !a", "local a = 0 - 1; if a then false else true"}, {"std.map(-a, !b)", "std.map(0 - a, if b then false else true)"},
	} {
		if got := impl.Show(impl.Core(mustRead(t, c[0]))); got != c[1] {
			t.Errorf("%s: %s instead of %s", c[0], got, c[1])
		}
	}
}

// A tree that would not be ok with fewer kinds stays as it is, all of it.
func TestP56Limits(t *testing.T) {
	// what is made for each stands one deeper with fewer kinds: 20 and 21 deep
	for nots := 17; nots <= 18; nots++ {
		n := tree(impl.NodeFor, "x", nameTree("a"), nameTree("b"))
		for range nots {
			n = tree(impl.NodeNot, "", n)
		}
		if got := impl.Core(n); !impl.TreeOk(n) || impl.TreeSame(got, n) != (nots == 18) {
			t.Errorf("%d: %s", nots, impl.Show(got))
		}
	}
	// each sign ahead is one node more with fewer kinds: 200 and 201 nodes
	for _, more := range []int{0, 1} {
		n := tree(impl.NodeArray, "")
		for i := range 8 {
			row := tree(impl.NodeArray, "")
			for range 7 {
				row.Kids = append(row.Kids, tree(impl.NodeMinus, "", numTree(1, 0)))
			}
			if i < 7 {
				row.Kids = append(row.Kids, tree(impl.NodeArray, "", tree(impl.NodeNull, "")))
			}
			n.Kids = append(n.Kids, row)
		}
		for i := range 9 + more {
			row := &n.Kids[i%7].Kids[7]
			row.Kids = append(row.Kids, tree(impl.NodeTrue, ""))
		}
		size := impl.TreeSize(n) + countNodes(n, impl.NodeMinus)
		if got := impl.Core(n); size != 200+more || impl.TreeSame(got, n) != (more == 1) {
			t.Errorf("%d nodes: %d", size, impl.TreeSize(got))
		}
	}
}

// foldAgain is a tree in which all is worked out that can be, by the words of the document, with the other way of working out.
func foldAgain(n impl.Node) impl.Node {
	out := impl.Node{Kind: n.Kind, Text: n.Text, Num: n.Num}
	for _, kid := range n.Kids {
		out.Kids = append(out.Kids, foldAgain(kid))
	}
	plain := func(n impl.Node) bool {
		return n.Kind == impl.NodeNum || n.Kind == impl.NodeText || n.Kind == impl.NodeTrue || n.Kind == impl.NodeFalse
	}
	switch {
	case n.Kind == impl.NodeIf && out.Kids[0].Kind == impl.NodeTrue:
		return out.Kids[1]
	case n.Kind == impl.NodeIf && out.Kids[0].Kind == impl.NodeFalse:
		return out.Kids[2]
	case n.Kind == impl.NodeTwo && plain(out.Kids[0]) && plain(out.Kids[1]), n.Kind == impl.NodeNot && plain(out.Kids[0]):
		v, code, _ := evalAgain(out, 20000, true)
		if made := treeAgain(v); code == 0 && plain(made) {
			return made
		}
	}
	return out
}

func TestP57Fold(t *testing.T) {
	o := orchard{t: t}
	trees := forest()
	for _, came := range grove() {
		trees = append(trees, came.tree)
	}
	smaller := 0
	for _, n := range trees {
		got, want := impl.Fold(n), foldAgain(n)
		if !impl.TreeSame(got, want) || impl.TreeSize(got) > impl.TreeSize(n) || !impl.TreeOk(got) || !impl.TreeSame(impl.Fold(got), got) {
			t.Fatalf("%s: %s instead of %s", impl.Show(n), impl.Show(got), impl.Show(want))
		}
		if impl.TreeSize(got) < impl.TreeSize(n) {
			smaller++
		}
		if impl.ScopeCheck(n) == 0 {
			o.alike(got, n)
		}
	}
	o.atLeast(1600)
	if smaller < 200 {
		t.Error(smaller)
	}
}

func TestP57Texts(t *testing.T) {
	for _, c := range [][2]string{
		{"1 + 2", "3"}, {"1 + 2 * 3", "7"}, {"1 - 2", "1 - 2"}, {"1 - 2 + 5", "1 - 2 + 5"}, {"5 + (1 - 2)", "5 + (1 - 2)"}, {"2 - 1", "1"}, {"2 - 2", "0"}, {"1 / 0", "1 / 0"}, {"1 / 4", "0.25"}, {"99999999 + 0.5", "99999999 + 0.5"}, {"7 % 4", "3"}, {"\"a\" + \"b\"", "\"ab\""}, {"\"a\" + 1", "\"a\" + 1"}, {"\"a\" < \"b\"", "true"}, {"1 == \"a\"", "false"}, {"true == true", "true"}, {"true != false", "true"}, {"true < false", "true < false"}, {"true + true", "true + true"}, {"null == null", "null == null"}, {"[] == []", "[] == []"}, {"-1 + 1", "-1 + 1"}, {"-(1 + 1)", "-2"}, {"1 == -1", "1 == -1"},
		{"true && false", "false"}, {"true && 1", "true && 1"}, {"false && 1", "false"}, {"true || \"a\"", "true"}, {"false || \"a\"", "false || \"a\""}, {"1 && true", "1 && true"}, {"true && a", "true && a"}, {"false && a", "false && a"}, {"a + 1 + 1", "a + 1 + 1"}, {"a + (1 + 1)", "a + 2"},
		{"!true", "false"}, {"!false", "true"}, {"!!true", "true"}, {"!1", "!1"}, {"!\"a\"", "!\"a\""}, {"!null", "!null"}, {"!a", "!a"}, {"!(1 < 2)", "false"},
		{"if true then a else b", "a"}, {"if false then a else b", "b"}, {"if 1 then a else b", "if 1 then a else b"}, {"if a then 1 + 1 else b", "if a then 2 else b"}, {"if 1 < 2 then 3 + 4 else b", "7"}, {"if !true then a else if true then b else c", "b"}, {"(if true then 1 else 2) + 1", "2"}, {"if true then -a else b", "-a"}, {"{a: 1 + 1, b:: if true then c else d}", "{a: 2, b:: c}"}, {"function(a) 1 + 1", "function(a) 2"}, {"local a = 1 + 1; a", "local a = 2; a"}, {"[1 + 1 for a in [2 + 2]]", "[2 for a in [4]]"}, {"std.range(1 + 1)", "std.range(2)"}, {"error \"a\" + \"b\"", "error \"ab\""},
	} {
		if got := impl.Show(impl.Fold(mustRead(t, c[0]))); got != c[1] {
			t.Errorf("%s: %s instead of %s", c[0], got, c[1])
		}
	}
}

func TestP57Limits(t *testing.T) {
	a, b := textTree(700), textTree(800)
	if got := impl.Fold(twoTree(a, "+", b)); !impl.TreeSame(got, textTree(1500)) {
		t.Error("a text of TextMax bytes that comes together")
	}
	if n := twoTree(a, "+", textTree(801)); !impl.TreeSame(impl.Fold(n), n) {
		t.Error("one of more")
	}
	sum := numTree(1, 0)
	for range 19 {
		sum = twoTree(sum, "+", numTree(1, 0))
	}
	if got := impl.Fold(sum); !impl.TreeSame(got, numTree(2, 1)) {
		t.Error(impl.Show(got))
	}
}

func TestCoreAndFoldOfWrongTrees(t *testing.T) {
	for i, n := range wrongTrees() {
		if !impl.TreeSame(impl.Core(n), impl.Node{}) || !impl.TreeSame(impl.Fold(n), impl.Node{}) {
			t.Errorf("%d", i)
		}
	}
}

// What Core and Fold answer is a tree of its own, and no two lists of it are one.
func TestCoreAndFoldNewMemory(t *testing.T) {
	deep := chain(20) // too deep for Core with one array more that is made for each
	deep.Kids[0].Kids[0] = tree(impl.NodeFor, "x", nameTree("a"), deep.Kids[0].Kids[0].Kids[0])
	for _, was := range append(forest(), deep) {
		n := copyTree(was)
		for _, made := range []func(impl.Node) impl.Node{impl.Core, impl.Fold} {
			got := made(n)
			want := copyTree(got)
			for _, node := range nodesOf(&n) {
				for _, other := range nodesOf(&got) {
					if within(other.Text, node.Text) {
						t.Fatalf("%s shares %q", impl.Show(n), node.Text)
					}
				}
			}
			for i, node := range nodesOf(&got) {
				_ = append(node.Kids, impl.Node{Kind: 98})
				node.Text += "?"
				if i > 0 {
					*nodesOf(&want)[i] = impl.Node{Kind: node.Kind, Text: node.Text, Num: node.Num, Kids: nodesOf(&want)[i].Kids}
				} else {
					want.Text += "?"
				}
				if !impl.TreeSame(got, want) || !impl.TreeSame(n, was) {
					t.Fatalf("%s shares lists", impl.Show(was))
				}
			}
		}
	}
}
