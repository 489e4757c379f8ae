package tests

import (
	"fmt"
	"slices"
	"strings"
	"testing"

	"loop.example/chancery/impl"
)

func TestCodesOfNames(t *testing.T) {
	if impl.ScopeName != 1 || impl.ScopeSelf != 2 {
		t.Error(impl.ScopeName, impl.ScopeSelf)
	}
}

// freesAgain is the names from outside in another way: each name is held against all that binds it on the way down.
func freesAgain(n impl.Node, bound string) []string {
	var out []string
	if n.Kind == impl.NodeName && !strings.Contains(bound, " "+n.Text+" ") {
		out = append(out, n.Text)
	}
	kids := n.Kids
	switch n.Kind {
	case impl.NodeFunc:
		for _, kid := range n.Kids[:len(n.Kids)-1] {
			bound += " " + kid.Text + " "
		}
		kids = n.Kids[len(n.Kids)-1:]
	case impl.NodeLocal:
		bound += " " + n.Text + " "
	case impl.NodeFor:
		out = append(out, freesAgain(n.Kids[0], bound)...)
		bound += " " + n.Text + " "
		kids = n.Kids[1:]
	}
	for _, kid := range kids {
		out = append(out, freesAgain(kid, bound)...)
	}
	slices.Sort(out)
	return slices.Compact(out)
}

func TestP22Frees(t *testing.T) {
	for _, n := range forest() {
		frees := impl.Frees(n)
		if want := freesAgain(n, ""); !slices.Equal(frees, want) {
			t.Fatalf("%s: %v instead of %v", impl.Show(n), frees, want)
		}
		for _, name := range []string{"a", "x", "y", "__", "zz"} {
			bound := tree(impl.NodeLocal, name, numTree(1, 0), n)
			if !impl.TreeOk(bound) {
				continue
			}
			want := slices.DeleteFunc(slices.Clone(frees), func(other string) bool { return other == name })
			if got := impl.Frees(bound); !slices.Equal(got, want) {
				t.Fatalf("%s: %v instead of %v", impl.Show(bound), got, want)
			}
		}
	}
}

func TestP22Texts(t *testing.T) {
	for _, c := range [][2]string{
		{"1", ""}, {"a", "a"}, {"b + a + b", "a b"}, {"ab + a + b + a1 + a_ + _a", "_a a a1 a_ ab b"},
		{"local a = a; a", ""}, {"local a = b; c", "b c"}, {"[local a = 1; a, a]", "a"}, {"local a = local b = a; b + c; b", "b c"},
		{"[a for a in a]", "a"}, {"[a for a in b]", "b"}, {"[b for a in c]", "b c"}, {"[[a + b for b in a] for a in b]", "b"}, {"[a for b in [b for a in b]]", "a b"},
		{"function(a, b) a + b + c", "c"}, {"function() a", "a"}, {"function(a) 1", ""}, {"(function(a) a)(a)", "a"}, {"function(a) function(b) a + b", ""}, {"function(a, b) [a for b in b]", ""},
		{"local f = function(a) f(a - b); f", "b"}, {"{a: b, c: a}", "a b"}, {"self.a", ""}, {"a.b", "a"}, {"import a", ""}, {"super.a", ""}, {"std.map(a, b)", "a b"}, {"{a: self.b, c:: error d, e+: !f}", "d f"},
		{"local a = 1; local a = a; function(a) [a for a in a]", ""}, {"if a then -b else c[d](e).f", "a b c d e"},
	} {
		if got := strings.Join(impl.Frees(mustRead(t, c[0])), " "); got != c[1] {
			t.Errorf("%s: %s instead of %s", c[0], got, c[1])
		}
	}
}

func TestP23ScopeCheck(t *testing.T) {
	for _, n := range forest() {
		frees := impl.Frees(n)
		code := impl.ScopeCheck(n)
		if (code == impl.ScopeName) != (len(frees) > 0) {
			t.Fatalf("%s: %d, %v", impl.Show(n), code, frees)
		}
		function := tree(impl.NodeFunc, "")
		for _, name := range frees {
			function.Kids = append(function.Kids, nameTree(name))
		}
		function.Kids = append(function.Kids, n)
		whole := tree(impl.NodeObject, "", fieldTree("a", 0, function))
		if got := impl.ScopeCheck(whole); got != 0 {
			t.Fatalf("%s: %d", impl.Show(whole), got)
		}
		asks := impl.ScopeSelf * min(1, asksOutside(n))
		if got := impl.ScopeCheck(function); impl.TreeOk(function) && got != asks {
			t.Fatalf("%s: %d instead of %d", impl.Show(function), got, asks)
		}
	}
}

// asksOutside is how often a tree asks for an object that it does not stand in.
func asksOutside(n impl.Node) int {
	count := 0
	if n.Kind == impl.NodeSelf || n.Kind == impl.NodeSuper {
		count++
	}
	if n.Kind != impl.NodeObject {
		for _, kid := range n.Kids {
			count += asksOutside(kid)
		}
	}
	return count
}

func TestP23Texts(t *testing.T) {
	for _, c := range []struct {
		text string
		code int
	}{
		{"1", 0}, {"a", impl.ScopeName}, {"self", impl.ScopeSelf}, {"super.a", impl.ScopeSelf}, {"self.a + b", impl.ScopeName}, {"{a: b, c: self}", impl.ScopeName},
		{"{a: self, b: super.a}", 0}, {"[{a: self}, self]", impl.ScopeSelf}, {"[{a: self}, {}]", 0}, {"{a: {b: self}}.c", 0}, {"{a: function(b) [self for c in b]}", 0}, {"local a = self; {b: a}", impl.ScopeSelf},
		{"function(a) self.a", impl.ScopeSelf}, {"std.length(super.a)", impl.ScopeSelf}, {"{}[self]", impl.ScopeSelf}, {"local a = a; a", 0}, {"import a", 0},
	} {
		if got := impl.ScopeCheck(mustRead(t, c.text)); got != c.code {
			t.Errorf("%s: %d instead of %d", c.text, got, c.code)
		}
	}
}

// holdsName says whether a name stands anywhere as a NodeName, or is bound by NodeLocal or NodeFor.
func holdsName(n impl.Node, name string) bool {
	return slices.ContainsFunc(nodesOf(&n), func(node *impl.Node) bool {
		return node.Text == name && slices.Contains([]int{impl.NodeName, impl.NodeLocal, impl.NodeFor}, node.Kind)
	})
}

func TestP24Rename(t *testing.T) {
	for _, n := range forest() {
		frees := impl.Frees(n)
		for _, from := range []string{"a", "x", "zz"} {
			for _, to := range []string{"q", "zzz", "a", "y", "b"} {
				got := impl.Rename(n, from, to)
				if holdsName(n, to) || !slices.Contains(frees, from) {
					if !impl.TreeSame(got, n) {
						t.Fatalf("%s, %s, %s: %s", impl.Show(n), from, to, impl.Show(got))
					}
					continue
				}
				want := slices.Clone(frees)
				want[slices.Index(want, from)] = to
				slices.Sort(want)
				if !slices.Equal(impl.Frees(got), want) || !impl.TreeSame(impl.Rename(got, to, from), backAgain(n, got, from)) {
					t.Fatalf("%s, %s, %s: %s", impl.Show(n), from, to, impl.Show(got))
				}
			}
		}
	}
}

// backAgain is what Rename the other way round comes to: the tree as it was, or, where its name is bound within, as it is.
func backAgain(was, is impl.Node, from string) impl.Node {
	if holdsName(is, from) {
		return is
	}
	return was
}

func TestP24Texts(t *testing.T) {
	for _, c := range [][4]string{
		{"a", "a", "b", "b"}, {"a + c", "a", "b", "b + c"}, {"a", "c", "b", "a"}, {"a + b", "a", "b", "a + b"}, {"a", "a", "a", "a"}, {"a", "if", "b", "a"}, {"a", "a", "if", "a"}, {"a", "a", "", "a"}, {"a", "", "b", "a"}, {"a", "a", "abcdefghijklm", "a"}, {"a", "a", "abcdefghijkl", "abcdefghijkl"}, {"a", "a", "B", "a"},
		{"local a = a; a", "a", "b", "local a = a; a"}, {"[local a = a; a, a]", "a", "b", "[local a = a; a, b]"}, {"[a for a in a]", "a", "b", "[a for a in b]"}, {"[a + c for d in a]", "a", "b", "[b + c for d in b]"}, {"[function(a) a, a]", "a", "b", "[function(a) a, b]"}, {"function(c) a", "a", "b", "function(c) b"},
		{"[a, local b = 1; 2]", "a", "b", "[a, local b = 1; 2]"}, {"[a, [1 for b in []]]", "a", "b", "[a, [1 for b in []]]"}, {"[a, function(b) 1]", "a", "b", "[a, function(b) 1]"}, {"[a, function(c, b) 1]", "a", "b", "[a, function(c, b) 1]"},
		{"{a: a}", "a", "b", "{a: b}"}, {"{b: a}.b", "a", "b", "{b: b}.b"}, {"a.a(import a, {c: super.a})", "a", "b", "b.a(import a, {c: super.a})"}, {"[a, import b, \"b\"]", "a", "b", "[b, import b, \"b\"]"}, {"std.length(a)", "a", "length", "std.length(length)"}, {"\"a\" + a", "a", "b", "\"a\" + b"},
		{"local f = a; f(a)", "a", "b", "local f = b; f(b)"}, {"{c:: !a, d+: -a, e: if a then a else error a}", "a", "b", "{c:: !b, d+: -b, e: if b then b else error b}"},
	} {
		if got := impl.Show(impl.Rename(mustRead(t, c[0]), c[1], c[2])); got != c[3] {
			t.Errorf("%s, %s, %s: %s instead of %s", c[0], c[1], c[2], got, c[3])
		}
	}
}

func TestP25Imports(t *testing.T) {
	for _, n := range forest() {
		taken := impl.Imports(n)
		if !slices.IsSorted(taken) || len(slices.Compact(slices.Clone(taken))) != len(taken) {
			t.Fatalf("%s: %v", impl.Show(n), taken)
		}
		for _, name := range []string{"a", "b", "c"} {
			more := tree(impl.NodeArray, "", n, tree(impl.NodeImport, name))
			want := append(slices.Clone(taken), name)
			slices.Sort(want)
			if got := impl.Imports(more); impl.TreeOk(more) && !slices.Equal(got, slices.Compact(want)) {
				t.Fatalf("%s: %v", impl.Show(more), got)
			}
		}
	}
	for _, c := range [][2]string{
		{"1", "[]"}, {"a.b + \"a\"", "[]"}, {"import a", "[a]"}, {"[import b, {x: import a}, import b]", "[a b]"}, {"local a = import c; function(b) [import b for d in import a]", "[a b c]"}, {"std.map(import ab, -import a)", "[a ab]"},
	} {
		if got := fmt.Sprint(impl.Imports(mustRead(t, c[0]))); got != c[1] {
			t.Errorf("%s: %s instead of %s", c[0], got, c[1])
		}
	}
}

func TestNamesOfWrongTrees(t *testing.T) {
	for i, n := range wrongTrees() {
		if impl.Frees(n) != nil || impl.ScopeCheck(n) != 0 || impl.Imports(n) != nil || !impl.TreeSame(impl.Rename(n, "a", "b"), impl.Node{}) {
			t.Errorf("%d: %v %d %v", i, impl.Frees(n), impl.ScopeCheck(n), impl.Imports(n))
		}
	}
}

// What Rename answers is a tree of its own: nothing of the one that was given is changed with it.
func TestP24NewMemory(t *testing.T) {
	for _, n := range forest() {
		was := copyTree(n)
		for _, to := range []string{"q", "a"} {
			got := impl.Rename(n, "a", to)
			for _, node := range nodesOf(&got) {
				node.Kind, node.Text, node.Num = 99, "?", impl.Dec{Man: 7}
				_ = append(node.Kids, impl.Node{Kind: 98})
			}
			if !impl.TreeSame(n, was) {
				t.Fatalf("%s was changed", impl.Show(was))
			}
		}
	}
}
