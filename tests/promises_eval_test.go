package tests

import (
	"fmt"
	"math/rand"
	"slices"
	"testing"

	"loop.example/chancery/impl"
)

var (
	truthValue = impl.Value{Kind: impl.ValueTrue}
	falseValue = impl.Value{Kind: impl.ValueFalse}
)

// someWrongs is a few trees that are wrong, each in another way.
func someWrongs(t *testing.T) []impl.Node {
	t.Helper()
	return []impl.Node{wrongTree(t, impl.EvalUser), wrongTree(t, impl.EvalLoop), wrongTree(t, impl.EvalNum)}
}

// eachAlike holds, of each tree of the grove, that it comes to the same alone and in texts in which it is t, and w something wrong.
func eachAlike(t *testing.T, texts ...string) {
	t.Helper()
	o := orchard{t: t}
	for _, came := range grove() {
		for _, wrong := range someWrongs(t) {
			for _, text := range texts {
				o.alike(put(t, text, came.tree, came.tree, wrong), came.tree)
			}
		}
	}
	o.atLeast(3000 * len(texts))
}

// eachComesTo holds, of each tree of the grove, that a text in which it is t comes to a value.
func eachComesTo(t *testing.T, want impl.Value, texts ...string) {
	t.Helper()
	o := orchard{t: t}
	for _, came := range grove() {
		for _, text := range texts {
			o.comesTo(put(t, text, came.tree), want)
		}
	}
	o.atLeast(1000 * len(texts))
}

// eachHasCode holds, of each tree of the grove, that a text in which it is t has a code.
func eachHasCode(t *testing.T, want int, texts ...string) {
	t.Helper()
	o := orchard{t: t}
	for _, came := range grove() {
		for _, text := range texts {
			o.hasCode(put(t, text, came.tree), want)
		}
	}
	o.atLeast(1000 * len(texts))
}

func TestP35Arrays(t *testing.T) {
	eachAlike(t, "[w, t][1]", "[t, w][0]", "[w, w, t, w][2]")
	o := orchard{t: t}
	for _, came := range grove() {
		whole := arrayValue(came.value)
		switch {
		case came.code != 0:
			o.hasCode(put(t, "[t]", came.tree), came.code)
		case whyNoValue(whole) != "":
			o.hasCode(put(t, "[t]", came.tree), impl.EvalBig)
		default:
			o.comesTo(put(t, "[t]", came.tree), whole)
		}
	}
	o.atLeast(1000)
}

func TestP36Locals(t *testing.T) {
	eachAlike(t, "local q = t; q", "local q = w; t", "local q = q; t", "local q = t; local r = q; r", "local q = w; local q = t; q")
}

func TestP37Choices(t *testing.T) {
	eachAlike(t, "if true then t else w", "if false then w else t")
	eachComesTo(t, falseValue, "false && t", "!(true || t)")
	eachComesTo(t, truthValue, "true || t", "!(false && t)")
}

func TestP38Fields(t *testing.T) {
	eachAlike(t, "{a: w, b: t}.b", "{b: t, a: w}[\"b\"]", "{a: w, b: t, c: self.b}.c", "{c: self[\"b\"], a: w, b: t}[\"c\"]")
}

func TestP39Over(t *testing.T) {
	eachAlike(t, "({a: w} + {a: t}).a", "({a: t} + {a: super.a}).a", "({a: t} + {a: super.a} + {a: super.a}).a", "({a: w} + {a: t} + {a: super.a}).a", "({a: t} + {b: w} + {a: super.a} + {b: w}).a", "({a: t} + ({a: super.a} + {b: super.a})).b")
}

func TestP39Texts(t *testing.T) {
	wantOutcomes(t, [][2]string{
		{"{a: 1} + {a: 2}", "{\"a\":2}"}, {"({a: 1} + {a: 2} + {a: super.a}).a", "2"}, {"({a: 1} + {a: super.a + 10} + {a: super.a + 100}).a", "111"}, {"({a: 1} + ({a: super.a + 10} + {a: super.a + 100})).a", "111"},
		{"{a: super.a}.a", "code 4"}, {"({b: 1} + {a: super.a}).a", "code 4"}, {"({a: super.b, b: 1}).a", "code 4"}, {"({a: super.a} + {a: 1}).a", "1"}, {"({a: super.a} + {b: 1}).b", "1"}, {"({b: 1} + {a: super.b, b: 2}).a", "1"}, {"({b: 1} + {a: self.b, b: 2}).a", "2"},
		{"({a: 1, b: {a: 2}} + {b: {a: super.a}}).b", "code 4"}, {"({a: 1, b: {a: 2}} + {b: super.b + {a: super.a + 5}}).b.a", "7"}, {"({a: 1} + {f: function() super.a} + {a: 2}).f()", "1"}, {"({a: 1} + {f: [super.a for x in [1, 2]]} + {a: 2}).f", "[1,1]"},
		{"local b = {a: super.a + 1}; ({a: 1} + b + b + b).a", "4"}, {"local b = {a: 1, c: self.a}; [b.c, (b + {a: 2}).c, ({a: 3} + b).c, b.c]", "[1,2,1,1]"},
	})
}

// wantOutcomes holds what texts come to, by Eval and by EvalAnew, but for how much is spent, against JSON or "code" and that.
func wantOutcomes(t *testing.T, list [][2]string) {
	t.Helper()
	for _, c := range list {
		n := mustRead(t, c[0])
		for i, eval := range []func(impl.Node, int) (impl.Value, int, int){impl.Eval, impl.EvalAnew} {
			v, code, _ := eval(n, impl.FuelMax)
			got := fmt.Sprint("code ", code)
			if code == 0 {
				got = jsonOf(v)
			}
			if got != c[1] && !(i == 1 && c[1] == "code 9" && (code == impl.EvalFuel || code == impl.EvalNest)) {
				t.Errorf("%s: %s instead of %s", c[0], got, c[1])
			}
		}
	}
}

func TestP40Seen(t *testing.T) {
	eachAlike(t, "({a: self.b, b: w} + {b: t}).a", "({a: self.b} + {b: w} + {b: t}).a", "({b: t} + {a: self.b}).a", "({a: {c: w}, b: w, d: self.b} + {b: self.e} + {e: t}).d")
	wantOutcomes(t, [][2]string{
		{"{x: 1, y: self.x} + {x: 2}", "{\"x\":2,\"y\":2}"}, {"({x: 1, y: self} + {x: 2}).y.x", "2"}, {"{x: 1, y: {x: 5, z: self.x}} + {x: 2}", "{\"x\":2,\"y\":{\"x\":5,\"z\":5}}"}, {"local o = {x: 1, y: self.x}; [(o + {x: 2}).y, o.y]", "[2,1]"},
		{"local o = {x: 1, y: self.x}; local p = o + {x: 2}; [o.y, p.y, (p + o).y, (o + p + {x: 3}).y]", "[1,2,1,3]"}, {"({x: 1, f: function(k) self.x + k} + {x: 10}).f(5)", "15"}, {"({a: {b: self.c, c: 1}} + {a+: {c: 2}}).a.b", "2"},
	})
}

func TestP41Hidden(t *testing.T) {
	eachComesTo(t, objectValue(""), "{h:: t}", "{h: 1} + {h:: t}")
	eachComesTo(t, objectValue("a", numValue(1, 0)), "{h:: t, a: 1}")
	eachComesTo(t, numValue(1, 0), "std.length({h:: t, a: 1})")
	eachComesTo(t, arrayValue(textValue("a")), "std.keys({h:: t, a: 1})")
	eachComesTo(t, truthValue, "{h:: t} == {}", "{a: 1} == {a: 1, h:: t}", "{h:: t} == {h:: 1}")
	eachAlike(t, "{h:: t}.h", "{h:: t}[\"h\"]", "{h:: t, a: self.h}.a", "({h:: t} + {a: super.h}).a", "({h:: w} + {h: t}).h", "({h: w} + {h:: t}).h")
	wantOutcomes(t, [][2]string{
		{"{x:: 1} + {x: 2}", "{\"x\":2}"}, {"{x: 1} + {x:: 2}", "{}"}, {"{x:: 1} + {x+: 2}", "{\"x\":3}"}, {"{x: 1} + {x:: 2} + {x+: 3}", "{\"x\":5}"}, {"{x: 1} + {x:: 2} + {y: 3}", "{\"y\":3}"}, {"std.has({x:: 1} + {x: 2}, \"x\")", "true"}, {"std.has({x: 1} + {x:: 2}, \"x\")", "false"},
	})
}

func TestP42Put(t *testing.T) {
	eachAlike(t, "{a+: t}.a", "({b: w} + {a+: t}).a", "({a+: t} + {b+: w}).a")
	r := rand.New(rand.NewSource(9))
	o := orchard{t: t}
	all, wrong := grove(), cameTo(true)
	// own is asked for ahead of `+`, as a field's own cell is ahead of what is below it
	sum := "local own = u; if std.type(own) == \"\" then 0 else t + own"
	sums := "local top = w; local own = u; if std.type(top) == std.type(own) + \"x\" then 0 else t + own + top"
	for range 4000 {
		a, b, c := all[r.Intn(len(all))].tree, all[r.Intn(len(all))].tree, all[r.Intn(len(all))].tree
		if r.Intn(2) == 0 {
			a, b, c = wrong[r.Intn(len(wrong))].tree, wrong[r.Intn(len(wrong))].tree, wrong[r.Intn(len(wrong))].tree
		}
		o.alike(put(t, "({a: t} + {a+: u}).a", a, b), put(t, sum, a, b))
		o.alike(put(t, "({a+: t} + {b: 1} + {a+: u}).a", a, b), put(t, sum, a, b))
		o.alike(put(t, "({a: t} + {a+: u} + {a+: w}).a", a, b, c), put(t, sums, a, b, c))
		o.alike(put(t, "({a: w} + {a: t} + {a+: u}).a", a, b, c), put(t, sum, a, b))
	}
	o.atLeast(8000)
	wantOutcomes(t, [][2]string{
		{"{x: 1} + {x+: 2} + {x: super.x * 10}", "{\"x\":30}"}, {"{x: 1} + {x+: super.x}", "{\"x\":2}"}, {"{x: 1} + {x+: self.y, y: 4}", "{\"x\":5,\"y\":4}"}, {"{x: 1} + {x+: self.x}", "code 9"}, {"{x: 1} + {x+: \"a\"}", "code 3"}, {"{x: [1]} + {x+: [2]} + {x+: [3]}", "{\"x\":[1,2,3]}"},
		{"{x: {a: 1}} + {x+: {b: self.a}} + {x+: {a: 2}}", "{\"x\":{\"a\":2,\"b\":2}}"}, {"({x: error \"a\"} + {x+: 1 / 0}).x", "code 6"}, {"({x: 1 / 0} + {x+: error \"a\"}).x", "code 10"}, {"({x: 1 / 0} + {x: 1} + {x+: 2}).x", "3"},
	})
}

// wantFuels holds costs, with just as much fuel as is spent, one more, and with all that is less.
func wantFuels(t *testing.T, list []cost) {
	t.Helper()
	wantCosts(t, list)
	evals := []func(impl.Node, int) (impl.Value, int, int){impl.Eval, impl.EvalAnew}
	for _, c := range list {
		n := mustRead(t, c.text)
		for i, spent := range []int{c.kept, c.anew} {
			for fuel := range spent + 2 {
				want := fmt.Sprint("code 1 ", fuel)
				if fuel >= spent {
					want = fmt.Sprint(c.want, " ", spent)
				}
				if got := told(evals[i](n, fuel)); got != want {
					t.Errorf("%s with %d: %s instead of %s", c.text, fuel, got, want)
				}
			}
		}
	}
}

// Of a field that is put to what is below its own cell is asked for first; if that is wrong, nothing below it is worked out.
func TestP42OwnFirst(t *testing.T) {
	wantFuels(t, []cost{
		// two layers: its own wrong, what is below wrong, both, neither, and neither, but not both together
		{"({a: 1 + 2} + {a+: [0][1]}).a", "code 5", 7, 7}, {"({a: [0][1]} + {a+: 1 + 2}).a", "code 5", 10, 10}, {"({a: 1 / 0} + {a+: error \"x\"}).a", "code 10", 6, 6}, {"({a: error \"x\"} + {a+: 1 / 0}).a", "code 6", 7, 7},
		{"({a: 1 + 2} + {a+: 3}).a", "6", 9, 9}, {"({a: 3} + {a+: 1 + 2}).a", "6", 9, 9}, {"({a: \"x\"} + {a+: \"y\"}).a", "\"xy\"", 7, 7}, {"({a: [1]} + {a+: [2]}).a", "[1,2]", 11, 11},
		{"({a: 1} + {a+: \"x\"}).a", "code 3", 6, 6}, {"({a: 1 + 2} + {a+: \"x\"}).a", "code 3", 8, 8}, {"({a: 99999999} + {a+: 0.1}).a", "code 6", 6, 6}, {"({a: null} + {a+: 1 / 0}).a", "code 6", 7, 7},
		// three layers: the last wrong, the midst, the lowest, two of them, none, and none, but not all together
		{"({a: 1} + {a+: 2 + 3} + {a+: [0][1]}).a", "code 5", 9, 9}, {"({a: 1} + {a+: [0][1]} + {a+: 2 + 3}).a", "code 5", 12, 12}, {"({a: [0][1]} + {a+: 1} + {a+: 2 + 3}).a", "code 5", 13, 13},
		{"({a: [0][1]} + {a+: 1 / 0} + {a+: 2}).a", "code 6", 10, 10}, {"({a: [0][1]} + {a+: 2} + {a+: 1 / 0}).a", "code 6", 9, 9}, {"({a: 2} + {a+: [0][1]} + {a+: 1 / 0}).a", "code 6", 9, 9},
		{"({a: 1} + {a+: 2} + {a+: 3 + 4}).a", "10", 12, 12}, {"({a: \"x\"} + {a+: \"y\"} + {a+: \"z\"}).a", "\"xyz\"", 10, 10}, {"({a: 1} + {a+: \"x\"} + {a+: 2}).a", "code 3", 9, 9}, {"({a: 1} + {a+: \"x\"} + {a+: 1 / 0}).a", "code 6", 9, 9}, {"({a: 1} + {a+: 2} + {a+: \"x\"}).a", "code 3", 9, 9},
		// what is below is not all that is put to what is below it, or not right below
		{"({a: [0][1]} + {a: 1} + {a+: 2}).a", "3", 9, 9}, {"({a: [0][1]} + {b: 0} + {a+: 1 + 2}).a", "code 5", 12, 12}, {"({a: 1 + 2} + {b: 0} + {a+: [0][1]}).a", "code 5", 9, 9}, {"({b: 1 / 0} + {a+: 1 + 2}).a", "3", 8, 8},
		// however it is asked for
		{"({a: 1 + 2} + {a+: [0][1]} + {b: super.a}).b", "code 5", 10, 10}, {"({a: [0][1]} + {a+: 1 + 2} + {b: super.a}).b", "code 5", 13, 13}, {"({a: 1 + 2} + {a+: [0][1], b: self.a})[\"b\"]", "code 5", 10, 10}, {"{a: 1 + 2} + {a+: [0][1]}", "code 5", 7, 7}, {"{a: [0][1]} + {a+: 1 + 2}", "code 5", 10, 10}, {"({a: 1 + 2} + {a+: [0][1]}) == {a: 1}", "code 5", 9, 9}, {"({a: [0][1]} + {a+: 1 + 2}) == {a: 1}", "code 5", 12, 12}, {"std.text({a: 1 + 2} + {a+: [0][1]})", "code 5", 8, 8},
		{"{x+: (function(n) n)(2), y: \"\\n\\\"\"[5], z:: std.fold(function(m, n) 5, [1, 3], 2.5)} + {x+: [0][1]}", "code 5", 7, 7},
		// one asks for the other one
		{"({a: 1 + 2} + {a+: super.a}).a", "6", 9, 12}, {"({a: self.b + 1, b: 2} + {a+: self.b}).a", "5", 12, 13}, {"({a: 1} + {a+: super.b, b: 1 / 0}).a", "code 4", 5, 5}, {"({a: super.a} + {a+: 1}).a", "code 4", 6, 6},
	})
	for text, spent := range map[string]int{"{a: 1 + 2} + {a+: self.a}": 6, "({a: self.a} + {a+: 1}).a": 7, "({a: self.a} + {a+: 1 + 2}).a": 9, "({a: 1} + {a+: self.a} + {a+: 1}).a": 9} {
		if got, want := told(impl.Eval(mustRead(t, text), impl.FuelMax)), fmt.Sprint("code 9 ", spent); got != want {
			t.Errorf("%s: %s instead of %s", text, got, want)
		}
	}
}

func TestP43Functions(t *testing.T) {
	eachAlike(t, "(function(x) x)(t)", "(function(x) t)(w)", "(function(x, y) y)(w, t)", "(function() t)()", "(function(x) function(y) x)(t)(w)", "local f = function(x) x; f(t)")
	wantOutcomes(t, [][2]string{
		{"local x = 1; local f = function(y) x + y; (function(x) f(x))(10)", "11"}, {"local x = 1; (function(x) x)(2)", "2"}, {"(function(a, b, c, d, e, f, g) g)(1, 2, 3, 4, 5, 6, 7)", "7"}, {"local f = function(n) if n < 2 then 1 else n * f(n - 1); [f(n) for n in std.range(7)]", "[1,1,2,6,24,120,720]"}, {"(function(x) (function(x) x)(x + 1))(1)", "2"}, {"(function(f) f)(function(x) x)(3)", "3"},
	})
}

func TestP44Args(t *testing.T) {
	eachHasCode(t, impl.EvalArgs, "(function(x) x)(t, t)", "(function(x) 1)(t, 1)", "(function() 1)(t)", "(function(x, y) 1)(t)", "std.filter(function(x, y) true, [t])", "std.filter(function() true, [t])", "std.fold(function(x) 1, [t], 1)", "std.fold(function(x, y, z) 1, [t], 1)", "std.map(function() 1, [t])[0]", "std.map(function(x, y) 1, [t])[0]", "(function(x) t)()")
	eachHasCode(t, impl.EvalType, "1(t)", "null(t, t)", "\"a\"(t)", "[t](1)", "{a: t}(1)", "true(t)")
	o := orchard{t: t}
	for _, came := range cameTo(false) {
		o.hasCode(put(t, "t(1)", came.tree), impl.EvalType)
		o.hasCode(put(t, "t()", came.tree), impl.EvalType)
	}
	o.atLeast(1500)
}

func TestP45SameAsItself(t *testing.T) {
	o := orchard{t: t}
	for _, came := range cameTo(false) {
		o.comesTo(put(t, "t == t", came.tree), truthValue)
		o.comesTo(put(t, "t != t", came.tree), falseValue)
		o.comesTo(put(t, "local q = t; q == q", came.tree), truthValue)
	}
	o.atLeast(2500)
}

func TestP46Same(t *testing.T) {
	o := orchard{t: t}
	r := rand.New(rand.NewSource(2))
	right := cameTo(false)
	want := map[bool]impl.Value{true: truthValue, false: falseValue}
	same := 0
	for range 20000 {
		a, b := right[r.Intn(len(right))], right[r.Intn(len(right))]
		if r.Intn(2) == 0 {
			b.value, b.tree = nearly(r, a.value)
		}
		if impl.TreeSame(b.tree, impl.Node{}) {
			continue
		}
		is := sameParts(a.value, b.value)
		if is {
			same++
		}
		o.comesTo(put(t, "t == u", a.tree, b.tree), want[is])
		o.comesTo(put(t, "u != t", a.tree, b.tree), want[!is])
	}
	o.atLeast(20000)
	if same < 500 {
		t.Error(same)
	}
}

// nearly is a value like another one, but perhaps for one part, and its tree; nothing, if there is none.
func nearly(r *rand.Rand, v impl.Value) (impl.Value, impl.Node) {
	out := copyValue(v)
	changes := valueChanges()
	if parts := valuesOf(&out); r.Intn(3) > 0 {
		changes[r.Intn(len(changes))](parts[r.Intn(len(parts))])
	}
	return out, impl.ValueTree(out)
}

func TestP47Text(t *testing.T) {
	o := orchard{t: t}
	for _, came := range grove() {
		n := put(t, "std.text(t)", came.tree)
		switch want := jsonOf(came.value); {
		case came.code != 0:
			o.hasCode(n, came.code)
		case came.value.Kind == impl.ValueText:
			o.comesTo(n, came.value)
		case len(want) > impl.TextMax:
			o.hasCode(n, impl.EvalBig)
		default:
			o.comesTo(n, textValue(want))
		}
	}
	o.atLeast(1300)
}

func TestP48ValueAgain(t *testing.T) {
	o := orchard{t: t}
	for _, came := range cameTo(false) {
		if why := whyNoValue(came.value); why != "" || !impl.ValueOk(came.value) {
			t.Fatalf("%s: %s", impl.Show(came.tree), why)
		}
		if n := impl.ValueTree(came.value); !impl.TreeSame(n, impl.Node{}) {
			o.comesTo(n, came.value)
		}
	}
	o.atLeast(900)
}

func TestP54Loops(t *testing.T) {
	for _, text := range []string{
		"local q = q; q", "local a = a + 1; a", "local a = local b = a; b; a", "{a: self.a}.a", "{a: self.b, b: self.a}.a", "{a: self.b, b: self.c, c: self.a}", "{a: self[\"a\"]}", "({a: 1} + {a: self.a}).a", "({a: self.b, b: 1} + {b: self.a}).a", "{a: [self.a][0]}.a", "local a = [a[0]]; a[0]", "local a = {b: a.b}; a",
		"{a: {b: 1}, c: self.c.d}", "local q = (function(x) q)(1); q", "local q = std.length(q); q", "local q = [x for x in q]; q", "local q = std.map(function(x) x, q); q", "local q = if q then 1 else 2; q", "local q = q.a; q", "local q = {a: q} + q; q", "local q = std.sort([1, q]); q", "local q = std.fold(function(m, n) q, [1], 1); q", "local q = std.text([q]); q", "local q = [1] == [q]; q", "local q = -q; [1, q]", "{a: 1} + {a+: self.a}",
	} {
		n := mustRead(t, text)
		_, code, _ := impl.Eval(n, impl.FuelMax)
		v, anew, spent := impl.EvalAnew(n, impl.FuelMax)
		if code != impl.EvalLoop || anew != impl.EvalFuel && anew != impl.EvalNest {
			t.Errorf("%s: %d, anew %s", text, code, told(v, anew, spent))
		}
	}
	eachAlike(t, "{a: self.a, b: t}.b", "{a: self.c, c: self.a, b: t, d: self.b}.d", "local q = q; t", "[local q = q; q, t][1]", "({a: self.a} + {a: t}).a", "(function(x) t)(local q = q; q)", "local q = {a: q.a, b: t}; q.b")
	// it is no loop to ask for what is done, or for the same tree in another cell
	wantOutcomes(t, [][2]string{
		{"local a = 1; local b = [a, a]; b + b", "[1,1,1,1]"}, {"local f = function(n) if n < 1 then 0 else f(n - 1); f(3)", "0"}, {"local a = [a, 1]; a[1]", "1"}, {"local a = {b: 1, c: a.b}; a.c", "1"}, {"{a: 1, b: self.a, c: self.b + self.b}.c", "2"}, {"local o = {a: self.b, b: 1}; (o + {b: o.a + 1}).a", "2"}, {"local o = {a: {b: 1, c: self.b}, d: self.a.c}; [o.d, o.a.c, o.d]", "[1,1,1]"},
	})
}

func TestP55First(t *testing.T) {
	o := orchard{t: t}
	codes := slices.DeleteFunc(wrongCodes(), func(code int) bool { return code == impl.EvalNest })
	for _, a := range codes {
		for _, b := range codes {
			x, y := wrongTree(t, a), wrongTree(t, b)
			for _, text := range []string{"[t, u]", "[1, t, u]", "{a: t, b: u}", "{b: u, a: t}", "{b:: u, a: t}", "{b: 1, a: [2, t], c: u}", "t + u", "t - u", "t * u", "t / u", "t % u", "t < u", "t == u", "t != u", "t && u", "t || u", "[t] == [u]", "[1, t] == [1, u]", "{a: t, b: u} == {b: 1, a: 1}", "{a: t} == {a: u}", "{b: 2, a: t} == {a: u, b: 3}", "-t", "!t", "error t", "if t then u else u", "if true then t else u", "t(u)", "t.a", "t[u]", "[u for x in t]", "(function(x, y) x + y)(t, u)", "(function(x, y) y)(u, t)",
				"std.map(t, u)", "std.filter(t, u)", "std.join(t, u)", "std.has(t, u)", "std.fold(t, u, u)", "std.fold(function(m, n) m, t, u)", "std.fold(function(m, n) n, [t, u], 1)", "std.fold(function(m, n) m, [1], t)", "std.sort([t, u])", "std.sort([1, t, u])", "std.join(\"\", [\"a\", t, u])", "std.text([t, u])", "std.length(t)", "std.keys(t)", "std.type(t)", "std.range(t)", "std.filter(function(x) x, [t, u])", "std.map(function(x) x, [t, u])", "local q = u; t", "local q = t; [q, u]", "({a: u} + {a+: t}).a", "({a: u} + {a: t}).a"} {
				if a == impl.EvalBig && text != "[1, t, u]" && text != "if true then t else u" {
					continue // it is the value that is too big
				}
				o.hasCode(put(t, text, x, y), a)
			}
		}
	}
	o.atLeast(3000)
	wantOutcomes(t, [][2]string{
		{"error \"a\"", "code 10"}, {"error 1", "code 3"}, {"error null", "code 3"}, {"1 + null", "code 3"}, {"[1][1]", "code 5"}, {"[1][-1]", "code 5"}, {"[1][0.5]", "code 5"}, {"[][0]", "code 5"}, {"\"a\"[1]", "code 5"}, {"[1][100000000]", "code 5"}, {"{}.a", "code 4"}, {"{a: 1}[\"b\"]", "code 4"}, {"{a: 1}[\"\"]", "code 4"}, {"{a: 1}[\"if\"]", "code 4"}, {"1 / 0", "code 6"}, {"1 % 0", "code 6"}, {"99999999 + 0.1", "code 6"}, {"99999999 - 0.1", "code 6"}, {"99999999 * 11", "code 6"}, {"100000000 * 10", "code 6"},
		{"1 / \"a\"", "code 3"}, {"null / 0", "code 3"}, {"[1][\"a\"]", "code 3"}, {"{a: 1}[0]", "code 3"}, {"null[0]", "code 3"}, {"true[\"a\"]", "code 3"}, {"(function(x) x)[0]", "code 3"}, {"\"a\".a", "code 3"}, {"[1].a", "code 3"}, {"(function() 1).a", "code 3"}, {"null && true", "code 3"}, {"false || 1", "code 3"}, {"if null then 1 else 2", "code 3"}, {"!0", "code 3"}, {"-true", "code 3"}, {"-[]", "code 3"}, {"true < false", "code 3"}, {"[] >= []", "code 3"}, {"1 <= \"a\"", "code 3"}, {"\"a\" > 1", "code 3"}, {"[] + {}", "code 3"}, {"{} + []", "code 3"}, {"1 + []", "code 3"}, {"true + true", "code 3"}, {"null + null", "code 3"}, {"(function() 1) + (function() 1)", "code 3"}, {"\"a\" - \"a\"", "code 3"}, {"[1] * 2", "code 3"}, {"[x for x in {}]", "code 3"}, {"[x for x in \"ab\"]", "code 3"},
		{"{a: function() 1}", "code 3"}, {"function(x) x", "code 3"}, {"import a", "code 11"}, {"{a: import b}.a", "code 11"}, {"[import a, 1][1]", "1"},
	})
}

// What signs between two, and places, come to.
func TestSigns(t *testing.T) {
	wantOutcomes(t, [][2]string{
		{"1 + 2 * 3 - 4 / 5 % 6", "6.2"}, {"1 / 3", "0.33333333"}, {"-7 / 2", "-3.5"}, {"7 % -3", "1"}, {"-7 % 3", "-1"}, {"2 - 5", "-3"}, {"-0", "0"}, {"--2", "2"}, {"0.1 + 0.2", "0.3"}, {"99999999 + 1", "100000000"}, {"!true", "false"}, {"!!true", "true"},
		{"1 < 2", "true"}, {"2 < 1", "false"}, {"1 < 1", "false"}, {"1 <= 1", "true"}, {"2 <= 1", "false"}, {"2 > 1", "true"}, {"1 > 1", "false"}, {"1 >= 1", "true"}, {"1 >= 2", "false"}, {"-1 < 0.5", "true"}, {"\"a\" < \"b\"", "true"}, {"\"a\" < \"ab\"", "true"}, {"\"ab\" <= \"a\"", "false"}, {"\"\" < \"a\"", "true"}, {"\"\\xff\" > \"a\"", "true"}, {"\"a\" >= \"a\"", "true"}, {"\"a\" > \"a\"", "false"}, {"\"B\" > \"a\"", "false"},
		{"1 == 1.0", "true"}, {"1 == \"1\"", "false"}, {"null == false", "false"}, {"null == null", "true"}, {"true == true", "true"}, {"true == false", "false"}, {"false == 0", "false"}, {"[] == {}", "false"}, {"[] == []", "true"}, {"{} == {}", "true"}, {"\"\" == null", "false"}, {"\"a\" != \"b\"", "true"}, {"[1, [2]] == [1, [2]]", "true"}, {"[1, [2]] != [1, [3]]", "true"}, {"{a: 1, b: 2} == {b: 2, a: 1}", "true"}, {"{a: 1} == {a: 2}", "false"}, {"{a: 1} + {b: 2} == {a: 1, b: 2}", "true"},
		{"true && true", "true"}, {"true && false", "false"}, {"false && true", "false"}, {"false || true", "true"}, {"false || false", "false"}, {"\"a\" + \"\\x00b\"", "\"a\\u0000b\""}, {"[1, 2] + [3]", "[1,2,3]"}, {"[] + []", "[]"}, {"[1 / 0, 2] + [3] == [4]", "false"}, {"([1 / 0, 2] + [3])[2]", "3"},
		{"\"abc\"[0] + \"abc\"[2]", "\"ac\""}, {"\"\\xff\\x00\"[0]", "\"\\u00ff\""}, {"[1, 2, 3][2]", "3"}, {"[1, 2, 3][1 + 1]", "3"}, {"std.range(60)[50 + 9]", "59"}, {"std.range(60)[10]", "10"}, {"std.range(60)[60]", "code 5"}, {"{a: 1}[\"\" + \"a\"]", "1"}, {"[[1]][0][0]", "1"},
	})
}

func TestP58Rename(t *testing.T) {
	g := grower{r: rand.New(rand.NewSource(4)), bound: []string{"k.number", "k.number", "k.number"}}
	o := orchard{t: t}
	for i := range 4000 {
		n, code, _ := impl.Parse(g.expression(grownSorts[i%len(grownSorts)].sort, 3+i%4))
		if frees := impl.Frees(n); code != 0 || len(frees) != 1 {
			continue
		}
		other := impl.Rename(n, "k", "q")
		o.alike(put(t, "local k = 2; t", n), tree(impl.NodeLocal, "q", numTree(2, 0), other))
		o.alike(put(t, "local k = 1 / 0; t", n), tree(impl.NodeLocal, "q", mustRead(t, "1 / 0"), other))
		o.alike(put(t, "(function(k) t)(3)", n), tree(impl.NodeCall, "", tree(impl.NodeFunc, "", nameTree("q"), other), numTree(3, 0)))
	}
	o.atLeast(1500)
}
