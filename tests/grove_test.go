package tests

import (
	"fmt"
	"math/rand"
	"slices"
	"strings"
	"sync"
	"testing"

	"loop.example/chancery/impl"
)

// wrongs is trees that have each code that a tree can come to with FuelMax, by that code.
var wrongs = map[int]string{
	impl.EvalNest: "local f = function(n) f(n); f(1)", impl.EvalType: "1 + \"a\"", impl.EvalField: "{a: 1}.b", impl.EvalPlace: "[1][1]",
	impl.EvalNum: "1 / 0", impl.EvalBig: "local a = [a]; a", impl.EvalArgs: "(function(x) x)()", impl.EvalLoop: "local q = q; q",
	impl.EvalUser: "error \"no\"", impl.EvalPaper: "import lost",
}

// groveTexts is what papers say, in small.
var groveTexts = []string{
	"null", "true", "false", "0", "12.5", "\"\"", "\"a\\x00\\xff\"", "[]", "{}", "-3", "!true", "function() 1", "function(a) a",
	"[1, [2, [3, {a: 4}]], \"b\"]", "{a: 1, b: {c: [null]}}", "{a:: 1, b: 2}", "{b: 1, a: 2, _: 3, a1: 4, ab: 5}",
	"{x: 1, y: self.x} + {x: 2}", "{x: 1} + {x+: 2} + {x: super.x * 10}", "{x: [1]} + {x+: [2]} + {x+: [3]}", "{x: {a: 1}} + {x+: {b: self.a}}",
	"{x:: 1} + {x: 2}", "{x: 1} + {x:: 2}", "{x:: 1} + {x+: 2}", "{x: 1} + {y: super.x}", "{x+: 1}", "{a: {b: 1, c: self.b}, d: self.a.c}", "{a: self.b, b: self.c, c: 1} + {c: 2}",
	"local o = {x: 1, y: self.x}; [o.y, (o + {x: 2}).y, o.y]", "local o = {a: {x: 1 + 1}} + {a+: {y: 2}}; [o.a.x, o.a.x]", "{a: 1, b: {a: 2, b: super.b}}.a", "({a: 1} + {b: {c: self}})[\"b\"].c.c.c == 1",
	"({a: 1} + {a: super.a + 1} + {a: super.a + 1} + {b: super.a}).b", "{f: function(n) self.k * n, k: 2, v: self.f(3)} + {k: 5}", "{f:: function(n) super.g, v: self.f(1)}", "{a: 1, b: [self.a for x in [1, 2]]} + {a: 3}",
	"local f = function(n) if n < 2 then 1 else n * f(n - 1); [f(n) for n in std.range(7)]", "local f = function(n) if n < 1 then [] else f(n - 1) + [n]; f(9)", "local a = 1 + 1; [a, a, a]", "local a = [a, 1]; a[1]", "local a = {b: a.c, c: 1}; a",
	"local q = q; 1", "local a = b; local b = 1; a", "local a = 1; local a = a; 2", "local a = [1, 2]; [a[0], a[1], a == a]", "(function(x, y) x)(1, error \"no\")", "local x = 1; (function(y) local x = 2; x + y)(x)",
	"[x + y for x in [1, 2]]", "[x for x in [error \"a\", 1 / 0]]", "[[x, y][0] for x in [1, 2]]", "[[x * y for y in [1, 2, 3]] for x in [4, 5]]", "[x for x in [x for x in [1]]]", "[error \"no\", 1][1]", "\"abc\"[1]", "\"abc\"[3]", "[1][-1]", "[1][0.5]", "{a: 1}[\"a\"]", "{a: 1}[\"A\"]", "{a: 1}[0]", "[1][\"a\"]", "1[0]",
	"1 + 2 * 3 - 4 / 5 % 6", "7 % -3", "1 / 3 + 0.1", "99999999 + 0.1", "99999999 * 100000001", "10 / 0", "10 % 0", "\"a\" + \"b\"", "[1] + [2]", "{} + {}", "[] + {}", "\"a\" + 1", "null + null", "true + true", "-\"a\"", "!1", "-null", "1 - \"a\"", "\"a\" * 2",
	"1 < 2", "2 <= 2", "\"a\" < \"ab\"", "\"b\" > \"ab\"", "\"\\xff\" >= \"a\"", "1 < \"a\"", "[] < []", "null <= null", "1 == 1.0", "1 == \"1\"", "1 != 2", "[1, 2] == [1, 2]", "[1, 2] == [1, 3]", "[1, error \"no\"] == [2, 1]", "[1, error \"no\"] == [1]", "{a: 1, h:: 2} == {a: 1, h:: 3}", "{a: 1} == {a: 1, b: 2}", "{a: [1]} == {a: [1]} + {b:: 1}", "null == null", "true == false", "function() 1 == 1", "(function() 1) == 1", "1 == (function() 1)", "[function() 1] == [2]", "[function() 1] == []", "[1, function() 1] == [2, function() 1]", "{a: error \"no\"} == {b: 1}",
	"true && false", "false && (error \"x\")", "true || (error \"x\")", "false || true", "true && 1", "false || \"a\"", "1 && true", "null || true", "if 1 then 2 else 3", "if true then 1 else error \"x\"", "if false then error \"x\" else 1",
	"error \"x\"", "error 1", "error error \"x\"", "(function(x) x)(1, 2)", "(function(x) x)()", "1(2)", "(function() 1)()", "[error \"a\", 1 / 0]", "[1 / 0, error \"a\"]", "(error \"a\") + 1 / 0", "{b: error \"a\", a: 1 / 0}", "{a: 1}.b", "{a: super.a}.a", "{a: super.a}", "{a: self.a}", "{a: self.b, b: self.a}.c", "{a: self.a, b: 1}.b", "1.5.a",
	"local a = [a]; a", "local a = {a: a}; a", "local a = [a]; a == a", "local f = function(n) f(n); f(1)", "local f = function(n) f(n + 1) + 1; f(1)", "local q = q; q", "local a = b; local b = a; a", "local a = a + 1; a", "{a: 1} + {a+: self.a}", "{a: {b: self.b}}", "import a", "[1, import a][0]",
	"std.length(\"abc\")", "std.length([1, error \"no\"])", "std.length({a: error \"no\", b:: 1})", "std.length(1)", "std.length(null)", "std.keys({b: 1, a: 2, c:: 3})", "std.keys([1])", "std.text(\"a\\n\")", "std.text([1, {a: \"b\"}])", "std.text(function() 1)", "std.text([error \"no\"])", "std.text(null) + std.text(true) + std.text(-1.50)",
	"[std.type(x) for x in [null, true, 1, \"\", [], {}, function() 1]]", "std.type(error \"no\")", "std.sort([3, 1, 2])", "std.sort([\"b\", \"a\", \"ab\"])", "std.sort([])", "std.sort([1, \"a\", error \"no\"])", "std.sort([null, error \"no\"])", "std.sort([error \"no\", null])", "std.sort({})", "std.sort([[1]])", "std.range(0)", "std.range(3)", "std.range(-1)", "std.range(0.5)", "std.range(60)", "std.range(61)", "std.range(\"1\")", "std.range(100000000)",
	"std.has({a:: 1, b: error \"no\"}, \"b\")", "std.has({a:: 1, b: 2}, \"a\")", "std.has({a: 1}, \"B c\")", "std.has({a: 1}, 1)", "std.has([], \"a\")", "std.has(1, error \"no\")", "std.join(\", \", [\"a\", \"b\", \"c\"])", "std.join(\"-\", [])", "std.join(\"\", [\"a\", 1, error \"no\"])", "std.join(1, [error \"no\"])", "std.join(\"\", \"a\")", "std.join(error \"no\", 1)",
	"std.map(function(x) x * x, [1, 2, 3])", "std.map(function(x) x, [error \"no\", 1])[1]", "std.map(function(x, y) x, [1])", "std.map(function() 1, [])", "std.map(1, [1])", "std.map(function(x) x, 1)", "std.map(1, error \"no\")", "local a = [1, 2]; std.map(function(x) [x, a == a], a)", "std.length(std.map(function() 1, [1]))",
	"std.filter(function(x) x > 1, [1, 2, 3])", "std.filter(function(x) true, [error \"no\", 1])[1]", "std.filter(function(x) 1, [1])", "std.filter(function(x) x, [])", "std.filter(function() true, [1])", "std.filter(function() true, [])", "std.filter(1, [])", "std.filter(function(x) true, {})",
	"std.fold(function(m, n) m + n, [1, 2], 10)", "std.fold(function(m, n) m, [error \"no\"], 1)", "std.fold(function(m, n) n, [1, 2], error \"no\")", "std.fold(1, [], error \"no\")", "std.fold(function(m, n) m, 1, error \"no\")", "std.fold(function(m) m, [], 1)", "std.fold(function(m) m, [1], 1)", "std.fold(function(m, n) [m], [1, 2, 3], null)", "std.fold(function(m, n) m + m, std.range(5), \"ab\")",
}

// grower makes texts of papers that hang on a source of numbers alone, most of them such that all kinds are as they should be.
type grower struct {
	r      *rand.Rand
	bound  []string // names with a point and their sort
	around int      // how many objects stand around
	papers []string
}

// grownSorts is the sorts of what is made, with the field that is of that sort by its name.
var grownSorts = []struct{ sort, field string }{
	{"number", "a"}, {"number", "b"}, {"text", "t"}, {"truth", "h"}, {"numbers", "l"}, {"texts", "m"}, {"object", "o"},
}

// expression is a text of a sort, so deep at most.
func (g *grower) expression(sort string, deep int) string {
	if g.r.Intn(30) == 0 {
		sort = grownSorts[g.r.Intn(len(grownSorts))].sort
	}
	if deep <= 1 || g.r.Intn(6) == 0 {
		return g.leaf(sort)
	}
	switch g.r.Intn(14) {
	case 0:
		return "(if " + g.expression("truth", deep-1) + " then " + g.expression(sort, deep-1) + " else " + g.expression(sort, deep-1) + ")"
	case 1:
		what := grownSorts[g.r.Intn(len(grownSorts))].sort
		name := fmt.Sprint("n", g.r.Intn(4))
		value := g.expression(what, deep-1)
		return "(local " + name + " = " + value + "; " + g.with(name+"."+what, sort, deep-1) + ")"
	case 2:
		what := grownSorts[g.r.Intn(len(grownSorts))].sort
		name := fmt.Sprint("n", g.r.Intn(4))
		return "(function(" + name + ") " + g.with(name+"."+what, sort, deep-1) + ")(" + g.expression(what, deep-1) + ")"
	case 3:
		return "[" + g.expression("text", deep-2) + ", " + g.expression(sort, deep-1) + "][1]"
	case 4, 5:
		for _, s := range grownSorts {
			if s.sort == sort {
				return g.expression("object", deep-1) + "." + s.field
			}
		}
	}
	return g.own(sort, deep)
}

// with is an expression in which one more name is bound.
func (g *grower) with(binding, sort string, deep int) string {
	g.bound = append(g.bound, binding)
	out := g.expression(sort, deep)
	g.bound = g.bound[:len(g.bound)-1]
	return out
}

// leaf is a short text of a sort.
func (g *grower) leaf(sort string) string {
	for i := len(g.bound) - 1; i >= 0; i-- {
		if name, of, _ := strings.Cut(g.bound[i], "."); of == sort && g.r.Intn(2) == 0 {
			return name
		}
	}
	if len(g.papers) > 0 && sort == "object" && g.r.Intn(2) == 0 {
		return "(import " + g.papers[g.r.Intn(len(g.papers))] + ")"
	}
	if at := g.r.Intn(len(grownSorts)); g.around > 0 && grownSorts[at].sort == sort {
		return []string{"self.", "super."}[g.r.Intn(2)] + grownSorts[at].field
	}
	if g.r.Intn(25) == 0 {
		return []string{"(error \"e\")", "(1 / 0)", "null", "(function(x) x)", "[][0]", "{}.a", "(local q = q; q)"}[g.r.Intn(7)]
	}
	leaves := map[string][]string{
		"number": {"0", "1", "2", "0.5", "7", "-3", "99999999"}, "text": {"\"\"", "\"a\"", "\"b\\x00\"", "\"t\""}, "truth": {"true", "false"},
		"numbers": {"[]", "[1, 2]", "std.range(3)"}, "texts": {"[]", "[\"b\", \"a\"]"}, "object": {"{}", "{a: 1, t: \"c\"}", "{l: [3, 1], b:: 2, h: true, a: 1}"},
	}[sort]
	return leaves[g.r.Intn(len(leaves))]
}

// own is a text of a sort in one of the ways that only that sort has.
func (g *grower) own(sort string, deep int) string {
	sub := func(sort string) string { return g.expression(sort, deep-1) }
	pick := func(ways ...string) string { return ways[g.r.Intn(len(ways))] }
	any := grownSorts[g.r.Intn(len(grownSorts))].sort
	switch sort {
	case "number":
		return pick("("+sub("number")+pick(" + ", " - ", " * ", " / ", " % ")+sub("number")+")", "-"+sub("number"), "std.length("+sub(pick("text", "numbers", "object"))+")",
			"std.fold(function(x, y) "+pick("x + y", "y", "x", "y - x")+", "+sub("numbers")+", "+sub("number")+")", sub("numbers")+"[0]")
	case "text":
		return pick("("+sub("text")+" + "+sub("text")+")", "std.text("+sub(any)+")", "std.join("+sub("text")+", "+sub("texts")+")", "std.type("+sub(any)+")", sub("text")+"["+pick("0", "1")+"]")
	case "truth":
		return pick("!"+sub("truth"), "("+sub("truth")+pick(" && ", " || ")+sub("truth")+")", "("+sub(any)+pick(" == ", " != ")+sub(any)+")", "("+sub("number")+pick(" < ", " >= ")+sub("number")+")", "("+sub("text")+pick(" <= ", " > ")+sub("text")+")", "std.has("+sub("object")+", \"a\")")
	case "numbers":
		return pick("["+sub("number")+", "+sub("number")+"]", "("+sub("numbers")+" + "+sub("numbers")+")", "std.sort("+sub("numbers")+")", "std.filter(function(x) x "+pick("> 1", "== x")+", "+sub("numbers")+")", "std.range("+pick("0", "4", sub("number"))+")",
			"["+g.with("x.number", "number", deep-1)+" for x in "+sub("numbers")+"]", "std.map(function(x) "+g.with("x.number", "number", deep-1)+", "+sub("numbers")+")")
	case "texts":
		return pick("["+sub("text")+", "+sub("text")+"]", "std.keys("+sub("object")+")", "std.sort("+sub("texts")+")", "[std.text(x) for x in "+sub(pick("numbers", "texts"))+"]")
	}
	return pick(g.object(deep), "("+sub("object")+" + "+g.object(deep)+")", "("+g.object(deep)+" + "+g.object(deep)+")")
}

// object is an object written out.
func (g *grower) object(deep int) string {
	g.around++
	var fields []string
	for _, s := range grownSorts {
		if g.r.Intn(3) == 0 {
			fields = append(fields, s.field+[]string{": ", ": ", ":: ", "+: "}[g.r.Intn(4)]+g.expression(s.sort, deep-1))
		}
	}
	g.around--
	return "{" + strings.Join(fields, ", ") + "}"
}

// grownTrees is so many trees that can be worked out.
func grownTrees(seed int64, count int) []impl.Node {
	g := grower{r: rand.New(rand.NewSource(seed))}
	var out []impl.Node
	for i := 0; len(out) < count; i++ {
		sort := grownSorts[g.r.Intn(len(grownSorts))].sort
		n, code, _ := impl.Parse(g.expression(sort, 3+i%5))
		if code == 0 && impl.ScopeCheck(n) == 0 {
			out = append(out, n)
		}
	}
	return out
}

// outcome is what a tree came to.
type outcome struct {
	tree  impl.Node
	value impl.Value
	code  int
	spent int
}

// grove is trees that can be worked out, each with what it comes to with FuelMax.
var grove = sync.OnceValue(func() []outcome {
	var out []outcome
	trees := grownTrees(11, 1500)
	for _, text := range groveTexts {
		n, code, _ := impl.Parse(text)
		if code == 0 && impl.ScopeCheck(n) == 0 {
			trees = append(trees, n)
		}
	}
	for _, n := range trees {
		v, code, spent := impl.Eval(n, impl.FuelMax)
		out = append(out, outcome{n, v, code, spent})
	}
	return out
})

// cameTo is those of the grove that have a code, or have none.
func cameTo(wrong bool) []outcome {
	return slices.DeleteFunc(slices.Clone(grove()), func(o outcome) bool { return (o.code != 0) != wrong })
}

// The grove has trees of each code and values of each kind; but a few of its texts are there to be refused.
func TestGrove(t *testing.T) {
	refused := 0
	for _, text := range groveTexts {
		n, code, _ := impl.Parse(text)
		if code != 0 || impl.ScopeCheck(n) != 0 {
			refused++
		}
	}
	codes := map[int]int{}
	kinds := map[int]int{}
	for _, o := range grove() {
		codes[o.code]++
		kinds[o.value.Kind]++
	}
	t.Log(refused, codes, kinds)
	for code := range wrongs {
		if codes[code] == 0 {
			t.Errorf("no tree has code %d", code)
		}
	}
	if refused > 6 || codes[0] < 800 || len(kinds) < 7 {
		t.Error(refused, codes, kinds)
	}
}
