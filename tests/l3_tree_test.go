package tests

import (
	"math"
	"math/rand"
	"slices"
	"strings"
	"testing"

	"loop.example/chancery/impl"
)

func TestLimitsAndKindsOfTrees(t *testing.T) {
	if got := [3]int{impl.SizeMax, impl.DeepMax, impl.KidsMax}; got != [3]int{200, 20, 8} {
		t.Error(got)
	}
	kinds := []int{impl.NodeNull, impl.NodeTrue, impl.NodeFalse, impl.NodeNum, impl.NodeText, impl.NodeName, impl.NodeSelf, impl.NodeSuper,
		impl.NodeImport, impl.NodeError, impl.NodeNot, impl.NodeMinus, impl.NodeTwo, impl.NodeIf, impl.NodeLocal, impl.NodeFunc, impl.NodeCall,
		impl.NodeDot, impl.NodeAt, impl.NodeArray, impl.NodeFor, impl.NodeObject, impl.NodeField, impl.NodeStd}
	for i, kind := range kinds {
		if kind != i+1 {
			t.Error(i+1, kind)
		}
	}
}

func TestP15Trees(t *testing.T) {
	for _, n := range forest() {
		if !impl.TreeOk(n) {
			t.Fatalf("%+v is not ok", n)
		}
		size, deep := 1, 0
		for _, kid := range n.Kids {
			size, deep = size+impl.TreeSize(kid), max(deep, impl.TreeDeep(kid))
			if kid.Kind == impl.NodeField {
				kid = kid.Kids[0]
			}
			if !impl.TreeOk(kid) {
				t.Fatalf("%+v is not ok, below %+v", kid, n)
			}
		}
		if impl.TreeSize(n) != size || impl.TreeDeep(n) != deep+1 {
			t.Fatalf("%+v: size %d, deep %d", n, impl.TreeSize(n), impl.TreeDeep(n))
		}
	}
}

func TestP15Counts(t *testing.T) {
	for _, n := range append(forest(), chain(300), bush(700), tree(impl.NodeArray, "", bush(201), chain(21)), impl.Node{}, tree(77, "?", impl.Node{}, impl.Node{})) {
		size, deep := sizeAndDeep(n)
		if impl.TreeSize(n) != size || impl.TreeDeep(n) != deep {
			t.Errorf("size %d, deep %d instead of %d, %d", impl.TreeSize(n), impl.TreeDeep(n), size, deep)
		}
	}
}

func TestP15Wrong(t *testing.T) {
	for i, n := range wrongTrees() {
		if impl.TreeOk(n) {
			t.Errorf("%d is ok", i)
		}
	}
}

// changes is what may be made of a node, by and by.
func changes() []func(n *impl.Node) {
	out := []func(n *impl.Node){
		func(n *impl.Node) { n.Num.Man++ },
		func(n *impl.Node) { n.Num.Man-- },
		func(n *impl.Node) { n.Num.Exp++ },
		func(n *impl.Node) { n.Kids = append(n.Kids, numTree(3, 0)) },
		func(n *impl.Node) { n.Kids = append(n.Kids, nameTree("zz")) },
		func(n *impl.Node) { n.Kids = append(n.Kids, fieldTree("zz", 0, nameTree("a"))) },
		func(n *impl.Node) { n.Kids = append([]impl.Node{nameTree("zz")}, n.Kids...) },
		func(n *impl.Node) { n.Kids = append([]impl.Node{numTree(3, 0)}, n.Kids...) },
		func(n *impl.Node) { n.Kids = append([]impl.Node{fieldTree("zz", 0, nameTree("a"))}, n.Kids...) },
		func(n *impl.Node) { n.Kids = n.Kids[:max(len(n.Kids)-1, 0)] },
		func(n *impl.Node) { n.Kids = append(n.Kids, n.Kids...) },
	}
	for kind := range 26 {
		out = append(out, func(n *impl.Node) { n.Kind = kind })
	}
	for _, text := range append(strings.Fields(words+" "+signs), "", "a", "q", "A", "1a", "abcdefghijklm", "length", "fold", "has", "lengt") {
		out = append(out, func(n *impl.Node) { n.Text = text })
	}
	return out
}

func TestP15Changed(t *testing.T) {
	some := slices.Concat(leaves(), around(nameTree("a")), around(tree(impl.NodeObject, "", fieldTree("a", 2, numTree(1, 0)))))
	for _, n := range some {
		for _, change := range changes() {
			everyNode(n, func(whole, node *impl.Node) {
				change(node)
				if why := whyWrong(*whole); impl.TreeOk(*whole) != (why == "") {
					t.Fatalf("%+v: %v, but %q", *whole, impl.TreeOk(*whole), why)
				}
			})
		}
	}
}

func TestP15Limits(t *testing.T) {
	fields := func(count int) impl.Node {
		out := tree(impl.NodeObject, "")
		for i := range count {
			out.Kids = append(out.Kids, fieldTree(string(rune('a'+i)), 0, numTree(1, 0)))
		}
		return out
	}
	function := func(count int) impl.Node {
		out := tree(impl.NodeFunc, "")
		for i := range count {
			out.Kids = append(out.Kids, nameTree(string(rune('a'+i))))
		}
		return out
	}
	call := tree(impl.NodeCall, "", slices.Repeat([]impl.Node{numTree(1, 0)}, 9)...)
	call8, array8 := call, call
	call8.Kids = call.Kids[:8]
	array8.Kind, array8.Kids = impl.NodeArray, call.Kids[:8]
	array9 := array8
	array9.Kids = call.Kids
	for i, c := range []struct {
		n    impl.Node
		want bool
	}{
		{chain(20), true}, {chain(21), false}, {bush(200), true}, {bush(201), false},
		{fields(8), true}, {fields(9), false}, {function(8), true}, {function(9), false},
		{call8, true}, {call, false}, {array8, true}, {array9, false},
		{tree(impl.NodeText, strings.Repeat("\xff", 1500)), true}, {tree(impl.NodeText, strings.Repeat("a", 1501)), false},
		{nameTree("abcdefghijkl"), true}, {nameTree("abcdefghijklm"), false},
	} {
		if impl.TreeOk(c.n) != c.want {
			t.Errorf("%d: %v", i, !c.want)
		}
	}
}

// A tree may be greater than anything that can be gone through node by node.
func TestP15WithoutEnd(t *testing.T) {
	shared := sharedTree(50)
	if size, deep := impl.TreeSize(shared), impl.TreeDeep(shared); size != 1<<50-1 || deep != 50 {
		t.Error(size, deep)
	}
	long := chain(200000)
	if size, deep := impl.TreeSize(long), impl.TreeDeep(long); size != 200000 || deep != 200000 {
		t.Error(size, deep)
	}
	for _, n := range []impl.Node{endlessTree(), tree(impl.NodeArray, "", nameTree("a"), endlessTree()), sharedTree(90)} {
		if impl.TreeOk(n) || impl.TreeSize(n) != math.MaxInt || !impl.TreeSame(n, n) || impl.TreeSame(n, shared) {
			t.Error(impl.TreeOk(n), impl.TreeSize(n))
		}
	}
	if impl.TreeDeep(endlessTree()) != math.MaxInt || impl.TreeDeep(sharedTree(90)) != 90 {
		t.Error(impl.TreeDeep(endlessTree()), impl.TreeDeep(sharedTree(90)))
	}
	if !impl.TreeSame(endlessTree(), endlessTree()) || !impl.TreeSame(sharedTree(60), sharedTree(60)) || !impl.TreeSame(long, chain(200000)) || impl.TreeSame(long, chain(199999)) {
		t.Error("same")
	}
}

func TestP16Same(t *testing.T) {
	all := forest()
	for i, a := range all {
		b := copyTree(a)
		if !impl.TreeSame(a, a) || !impl.TreeSame(a, b) || !impl.TreeSame(b, a) || impl.Show(a) != impl.Show(b) || impl.TreeSize(a) != impl.TreeSize(b) {
			t.Fatalf("%+v is not the same as itself", a)
		}
		c := all[(i*7+1)%len(all)]
		if same := impl.TreeSame(a, c); same != impl.TreeSame(c, a) || same != (impl.Show(a) == impl.Show(c)) {
			t.Fatalf("%s, %s: %v", impl.Show(a), impl.Show(c), same)
		}
	}
}

func TestP16Parts(t *testing.T) {
	r := rand.New(rand.NewSource(5))
	some := append(wrongTrees()[:20], around(tree(impl.NodeObject, "", fieldTree("a", 2, numTree(1, 0))))...)
	for range 40 {
		some = append(some, grown(r, 5))
	}
	for _, n := range some {
		for _, change := range changes()[:12] {
			everyNode(n, func(whole, node *impl.Node) {
				was := *node
				change(node)
				same := was.Kind == node.Kind && was.Num == node.Num && len(was.Kids) == len(node.Kids)
				if impl.TreeSame(n, *whole) != same || impl.TreeSame(*whole, n) != same {
					t.Fatalf("%+v, %+v: %v", n, *whole, !same)
				}
			})
		}
		everyNode(n, func(whole, node *impl.Node) {
			node.Text += "x"
			if impl.TreeSame(n, *whole) || impl.TreeSame(*whole, n) {
				t.Fatalf("%+v, %+v", n, *whole)
			}
		})
	}
	if !impl.TreeSame(impl.Node{Kids: nil}, impl.Node{Kids: []impl.Node{}}) {
		t.Error("the empty list and the nil list are the same")
	}
}
