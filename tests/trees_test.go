package tests

import (
	"fmt"
	"math/rand"
	"slices"
	"strings"

	"loop.example/chancery/impl"
)

const twoSigns = "|| && == != < <= > >= + - * / %"

// stdNames is what is there from the beginning, by how many things it is given.
var stdNames = [][]string{
	{},
	{"length", "keys", "text", "type", "sort", "range"},
	{"map", "filter", "join", "has"},
	{"fold"},
}

func tree(kind int, text string, kids ...impl.Node) impl.Node {
	return impl.Node{Kind: kind, Text: text, Kids: kids}
}

func numTree(man, exp int) impl.Node {
	return impl.Node{Kind: impl.NodeNum, Num: impl.Dec{Man: man, Exp: exp}}
}

func nameTree(name string) impl.Node {
	return tree(impl.NodeName, name)
}

func fieldTree(name string, sort int, kid impl.Node) impl.Node {
	out := tree(impl.NodeField, name, kid)
	out.Num.Man = sort
	return out
}

func twoTree(left impl.Node, sign string, right impl.Node) impl.Node {
	return tree(impl.NodeTwo, sign, left, right)
}

// copyTree is a tree that shares nothing with another one.
func copyTree(n impl.Node) impl.Node {
	out := impl.Node{Kind: n.Kind, Text: strings.Clone(n.Text), Num: n.Num}
	for _, kid := range n.Kids {
		out.Kids = append(out.Kids, copyTree(kid))
	}
	return out
}

// everyNode calls for each node of a copy of a tree, and the copy.
func everyNode(n impl.Node, call func(whole *impl.Node, node *impl.Node)) {
	size := len(nodesOf(&n))
	for i := range size {
		whole := copyTree(n)
		call(&whole, nodesOf(&whole)[i])
	}
}

// nodesOf is all nodes of a tree, itself first.
func nodesOf(n *impl.Node) []*impl.Node {
	out := []*impl.Node{n}
	for i := range n.Kids {
		out = append(out, nodesOf(&n.Kids[i])...)
	}
	return out
}

// leaves is trees without any below.
func leaves() []impl.Node {
	return []impl.Node{
		tree(impl.NodeNull, ""), tree(impl.NodeTrue, ""), tree(impl.NodeFalse, ""),
		numTree(0, 0), numTree(25, -1), numTree(impl.ManMax, impl.ExpMax), numTree(1, -impl.ExpMax),
		tree(impl.NodeText, ""), tree(impl.NodeText, "if then \" \\ \n \x00\xff"), tree(impl.NodeText, "("),
		nameTree("a"), nameTree("__"), nameTree("abcdefghijk9"), tree(impl.NodeSelf, ""),
		tree(impl.NodeSuper, "a"), tree(impl.NodeImport, "b"),
		tree(impl.NodeArray, ""), tree(impl.NodeObject, ""),
	}
}

// around is all trees of one kind or sign that have a tree right below, at each of the places where it may stand.
func around(n impl.Node) []impl.Node {
	x, y := nameTree("x"), nameTree("y")
	out := []impl.Node{
		tree(impl.NodeError, "", n), tree(impl.NodeNot, "", n), tree(impl.NodeMinus, "", n),
		tree(impl.NodeIf, "", n, x, y), tree(impl.NodeIf, "", x, n, y), tree(impl.NodeIf, "", x, y, n),
		tree(impl.NodeLocal, "x", n, y), tree(impl.NodeLocal, "a", x, n),
		tree(impl.NodeFunc, "", n), tree(impl.NodeFunc, "", nameTree("a"), x, n),
		tree(impl.NodeCall, "", n), tree(impl.NodeCall, "", n, x, y), tree(impl.NodeCall, "", x, n, y), tree(impl.NodeCall, "", x, y, n),
		tree(impl.NodeDot, "x", n), tree(impl.NodeAt, "", n, x), tree(impl.NodeAt, "", x, n),
		tree(impl.NodeArray, "", n), tree(impl.NodeArray, "", x, n, y), tree(impl.NodeFor, "a", n, x), tree(impl.NodeFor, "a", x, n),
		tree(impl.NodeObject, "", fieldTree("a", 0, n)), tree(impl.NodeObject, "", fieldTree("x", 1, x), fieldTree("a", 2, n)),
		tree(impl.NodeObject, "", fieldTree("a", 1, n), fieldTree("b", 0, y)),
	}
	for _, sign := range strings.Fields(twoSigns) {
		out = append(out, twoTree(n, sign, x), twoTree(x, sign, n))
	}
	for count, names := range stdNames {
		for i, name := range names {
			kids := []impl.Node{x, y, x}[:count]
			kids[i%count] = n
			out = append(out, tree(impl.NodeStd, name, slices.Clone(kids)...))
		}
	}
	return out
}

// grown is a tree that hangs on a source of numbers alone.
func grown(r *rand.Rand, deep int) impl.Node {
	if deep == 1 || r.Intn(6) == 0 {
		return leaves()[r.Intn(len(leaves()))]
	}
	below := grown(r, deep-1)
	ways := around(below)
	out := copyTree(ways[r.Intn(len(ways))])
	if last := len(out.Kids) - 1; r.Intn(2) == 0 && out.Kids[last].Kind != impl.NodeField {
		out.Kids[last] = grown(r, deep-1)
	}
	return out
}

// forest is trees of all kinds, in all kinds, and some that are greater, all of them ok.
func forest() []impl.Node {
	out := leaves()
	for _, leaf := range leaves() {
		out = append(out, around(leaf)...)
	}
	for _, below := range around(nameTree("a")) {
		out = append(out, around(below)...)
	}
	r := rand.New(rand.NewSource(3))
	for i := range 1500 {
		out = append(out, grown(r, 3+i%8))
	}
	for _, n := range out {
		if why := whyWrong(n); why != "" {
			panic("the forest has a tree that is wrong: " + why)
		}
	}
	return out
}

// whyWrong says what is wrong with a tree, by the words of the document; empty, if nothing is.
func whyWrong(n impl.Node) string {
	if size, deep := sizeAndDeep(n); size > 200 || deep > 20 {
		return fmt.Sprint("size ", size, " deep ", deep)
	}
	return whyNone(n)
}

func sizeAndDeep(n impl.Node) (int, int) {
	size, deep := 1, 0
	for _, kid := range n.Kids {
		s, d := sizeAndDeep(kid)
		size, deep = size+s, max(deep, d)
	}
	return size, deep + 1
}

// whyNone says why a tree is none of an expression.
func whyNone(n impl.Node) string {
	plain := n.Num == impl.Dec{}
	named := impl.NameOk(n.Text)
	kids := len(n.Kids)
	ok := false
	switch n.Kind {
	case impl.NodeNull, impl.NodeTrue, impl.NodeFalse, impl.NodeSelf:
		ok = n.Text == "" && plain && kids == 0
	case impl.NodeNum:
		ok = n.Text == "" && impl.DecOk(n.Num) && n.Num.Man >= 0 && kids == 0
	case impl.NodeText:
		ok = len(n.Text) <= 1500 && plain && kids == 0
	case impl.NodeName, impl.NodeSuper, impl.NodeImport:
		ok = named && plain && kids == 0
	case impl.NodeError, impl.NodeNot, impl.NodeMinus:
		ok = n.Text == "" && plain && kids == 1
	case impl.NodeTwo:
		ok = slices.Contains(strings.Fields(twoSigns), n.Text) && plain && kids == 2
	case impl.NodeIf:
		ok = n.Text == "" && plain && kids == 3
	case impl.NodeLocal, impl.NodeFor:
		ok = named && plain && kids == 2
	case impl.NodeFunc:
		return whyNoFunc(n)
	case impl.NodeCall:
		ok = n.Text == "" && plain && kids >= 1 && kids <= 8
	case impl.NodeDot:
		ok = named && plain && kids == 1
	case impl.NodeAt:
		ok = n.Text == "" && plain && kids == 2
	case impl.NodeArray:
		ok = n.Text == "" && plain && kids <= 8
	case impl.NodeObject:
		return whyNoObject(n)
	case impl.NodeStd:
		ok = plain && kids >= 1 && kids <= 3 && slices.Contains(stdNames[kids], n.Text)
	}
	if !ok {
		return fmt.Sprintf("kind %d %q %v with %d below", n.Kind, n.Text, n.Num, kids)
	}
	return whyNoneOf(n.Kids)
}

func whyNoneOf(list []impl.Node) string {
	for _, n := range list {
		if why := whyNone(n); why != "" {
			return why
		}
	}
	return ""
}

func whyNoFunc(n impl.Node) string {
	if n.Text != "" || n.Num != (impl.Dec{}) || len(n.Kids) < 1 || len(n.Kids) > 8 {
		return "function"
	}
	var names []string
	for _, kid := range n.Kids[:len(n.Kids)-1] {
		if kid.Kind != impl.NodeName || slices.Contains(names, kid.Text) {
			return "name of a function"
		}
		names = append(names, kid.Text)
	}
	return whyNoneOf(n.Kids)
}

func whyNoObject(n impl.Node) string {
	if n.Text != "" || n.Num != (impl.Dec{}) || len(n.Kids) > 8 {
		return "object"
	}
	var names []string
	for _, kid := range n.Kids {
		sort := slices.Contains([]impl.Dec{{Man: 0}, {Man: 1}, {Man: 2}}, kid.Num)
		if kid.Kind != impl.NodeField || !impl.NameOk(kid.Text) || !sort || len(kid.Kids) != 1 || slices.Contains(names, kid.Text) {
			return "field"
		}
		names = append(names, kid.Text)
		if why := whyNone(kid.Kids[0]); why != "" {
			return why
		}
	}
	return ""
}

// wrongTrees is trees that are not ok, each kind of wrongness at the top and further down.
func wrongTrees() []impl.Node {
	bare := []impl.Node{{}, {Kind: -1}, {Kind: 25}, numTree(-1, 0), numTree(10, 0), numTree(0, 1), fieldTree("a", 0, nameTree("a")),
		tree(impl.NodeName, ""), tree(impl.NodeName, "if"), tree(impl.NodeName, "abcdefghijklm"), tree(impl.NodeText, strings.Repeat("a", 1501)),
		twoTree(nameTree("a"), "=", nameTree("a")), tree(impl.NodeStd, "length"), tree(impl.NodeStd, "lengths", nameTree("a")),
		tree(impl.NodeFunc, ""), tree(impl.NodeFunc, "", nameTree("a"), nameTree("a"), nameTree("a")), tree(impl.NodeFunc, "", numTree(1, 0), nameTree("a")),
		tree(impl.NodeCall, ""), tree(impl.NodeObject, "", nameTree("a")),
		tree(impl.NodeObject, "", fieldTree("a", 3, nameTree("a"))), tree(impl.NodeObject, "", fieldTree("a", -1, nameTree("a"))),
		tree(impl.NodeObject, "", fieldTree("a", 0, nameTree("a")), fieldTree("a", 1, nameTree("b")))}
	out := slices.Clone(bare)
	for _, n := range bare {
		out = append(out, tree(impl.NodeArray, "", nameTree("a"), n), tree(impl.NodeObject, "", fieldTree("a", 0, tree(impl.NodeNot, "", n))))
	}
	return append(out, chain(21), bush(201), sharedTree(70), endlessTree())
}

// chain is a tree so deep, of one node at each depth.
func chain(deep int) impl.Node {
	out := nameTree("a")
	for range deep - 1 {
		out = tree(impl.NodeNot, "", out)
	}
	return out
}

// bush is a tree of so many nodes, three deep at most where that can be, and four else.
func bush(size int) impl.Node {
	out := tree(impl.NodeArray, "")
	for left := size - 1; left > 0; {
		part := min(left, 40)
		out.Kids = append(out.Kids, bushPart(part))
		left -= part
	}
	return out
}

func bushPart(size int) impl.Node {
	out := tree(impl.NodeArray, "")
	for left := size - 1; left > 0; {
		part := min(left, 8)
		branch := tree(impl.NodeCall, "")
		for range part - 1 {
			branch.Kids = append(branch.Kids, numTree(1, 0))
		}
		if part == 1 {
			branch = numTree(2, 0)
		}
		out.Kids = append(out.Kids, branch)
		left -= part
	}
	return out
}

// sharedTree has two Kids that are the same, so deep: more nodes than can be gone through one by one.
func sharedTree(deep int) impl.Node {
	out := nameTree("a")
	for range deep - 1 {
		out = tree(impl.NodeArray, "", out, out)
	}
	return out
}

// endlessTree stands in itself.
func endlessTree() impl.Node {
	kids := []impl.Node{nameTree("a"), tree(impl.NodeArray, "")}
	kids[1].Kids = kids
	return tree(impl.NodeArray, "", kids...)
}
