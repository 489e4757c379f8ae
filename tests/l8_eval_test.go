package tests

import (
	"fmt"
	"math/rand"
	"slices"
	"strings"
	"testing"

	"loop.example/chancery/impl"
)

func TestLimitsAndCodesOfEval(t *testing.T) {
	if got := [3]int{impl.FuelMax, impl.NestMax, impl.ListMax}; got != [3]int{20000, 150, 60} {
		t.Error(got)
	}
	codes := []int{impl.EvalFuel, impl.EvalNest, impl.EvalType, impl.EvalField, impl.EvalPlace, impl.EvalNum, impl.EvalBig, impl.EvalArgs, impl.EvalLoop, impl.EvalUser, impl.EvalPaper, impl.EvalTree}
	for i, code := range codes {
		if code != i+1 {
			t.Errorf("code %d is %d", i+1, code)
		}
	}
}

// told is an answer of Eval as a text.
func told(v impl.Value, code int, spent int) string {
	if code == 0 {
		return fmt.Sprint(jsonOf(v), " ", spent)
	}
	if !sameParts(v, impl.Value{}) {
		return fmt.Sprint("code ", code, " with a value")
	}
	return fmt.Sprint("code ", code, " ", spent)
}

// cost is what a text comes to, or "code" and that, what Eval spends, and what EvalAnew spends.
type cost struct {
	text string
	want string
	kept int
	anew int
}

func wantCosts(t *testing.T, list []cost) {
	t.Helper()
	for _, c := range list {
		n := mustRead(t, c.text)
		if got, want := told(impl.Eval(n, impl.FuelMax)), fmt.Sprint(c.want, " ", c.kept); got != want {
			t.Errorf("%s: %s instead of %s", c.text, got, want)
		}
		if got, want := told(impl.EvalAnew(n, impl.FuelMax)), fmt.Sprint(c.want, " ", c.anew); got != want {
			t.Errorf("%s: anew %s instead of %s", c.text, got, want)
		}
	}
}

// The whole of chapters 8 and 9, with how much is spent, held against the other way of working out.
func TestEvalAgain(t *testing.T) {
	r := rand.New(rand.NewSource(5))
	trees := append(grownTrees(12, 1500), forest()...)
	for _, o := range grove() {
		trees = append(trees, o.tree)
	}
	for _, n := range trees {
		for _, fuel := range []int{impl.FuelMax, r.Intn(10), r.Intn(60), r.Intn(300)} {
			if got, want := told(impl.Eval(n, fuel)), told(evalAgain(n, fuel, true)); got != want {
				t.Fatalf("%s with %d: %s instead of %s", impl.Show(n), fuel, got, want)
			}
			if got, want := told(impl.EvalAnew(n, fuel)), told(evalAgain(n, fuel, false)); got != want {
				t.Fatalf("%s with %d anew: %s instead of %s", impl.Show(n), fuel, got, want)
			}
		}
	}
}

func TestEvalRefuses(t *testing.T) {
	refused := func(what string, n impl.Node, fuel int) {
		t.Helper()
		if got := told(impl.Eval(n, fuel)) + told(impl.EvalAnew(n, fuel)); got != "code 12 0code 12 0" {
			t.Errorf("%s with %d: %s", what, fuel, got)
		}
	}
	for i, n := range wrongTrees() {
		for _, fuel := range []int{-1, 0, 100, impl.FuelMax, impl.FuelMax + 1} {
			refused(fmt.Sprint(i), n, fuel)
		}
	}
	for _, text := range []string{"a", "[1, a][0]", "self", "super.a", "[{a: self}, self.a][0]", "local a = self; 1", "{a: b}.c", "(function(a) b)(1)", "[a for a in a]"} {
		refused(text, mustRead(t, text), impl.FuelMax)
		refused(text, mustRead(t, text), 0)
	}
	for _, fuel := range []int{-1, impl.FuelMax + 1, -impl.FuelMax, 1 << 62, -1 << 63} {
		refused("1", numTree(1, 0), fuel)
	}
	if got := told(impl.Eval(numTree(1, 0), 0)) + told(impl.EvalAnew(numTree(1, 0), 0)); got != "code 1 0code 1 0" {
		t.Error(got)
	}
}

// How much is spent, of each kind of tree.
func TestCostsOfKinds(t *testing.T) {
	wantCosts(t, []cost{
		{"null", "null", 2, 2}, {"true", "true", 2, 2}, {"false", "false", 2, 2}, {"1.50", "1.5", 2, 2}, {"\"a\"", "\"a\"", 2, 2}, {"[]", "[]", 2, 2}, {"[1, 2]", "[1,2]", 6, 6}, {"{}", "{}", 2, 2}, {"{b: 1, a:: 2}", "{\"b\":1}", 4, 4},
		{"function() 1", "code 3", 2, 2}, {"[1, function() 1, 2]", "code 3", 6, 6}, {"import a", "code 11", 1, 1}, {"[1, import a]", "code 11", 5, 5},
		{"local a = 1; a", "1", 4, 4}, {"local a = 1; 2", "2", 3, 3}, {"local a = 1 + 1; [a, a, a]", "[2,2,2]", 12, 18}, {"local a = 1; local b = a; [b, b]", "[1,1]", 10, 12},
		{"{a: 1, b: self.a}", "{\"a\":1,\"b\":1}", 7, 8}, {"{a: 1}.a", "1", 4, 4}, {"{a: 1}[\"a\"]", "1", 5, 5}, {"[2, 3][1]", "3", 5, 5}, {"\"ab\"[1]", "\"b\"", 4, 4},
		{"({a: 1} + {a: super.a}).a", "1", 7, 7}, {"({a: 1} + {a+: 2}).a", "3", 7, 7}, {"{a+: 2}.a", "2", 4, 4}, {"({a: error \"no\"} + {a: 1} + {a+: 2} + {b: 3}).a", "3", 11, 11},
		{"local o = {a: 1} + {a+: 2}; [o.a, o.a]", "[3,3]", 14, 19}, {"local o = {a: {x: 1 + 1}} + {a+: {y: 2}}; [o.a.x, o.a.x]", "[2,2]", 22, 27},
		{"!true", "false", 3, 3}, {"-1", "-1", 3, 3}, {"error \"x\"", "code 10", 2, 2}, {"error 1", "code 3", 2, 2}, {"if true then 1 else 2", "1", 4, 4}, {"if false then 1 else 2", "2", 4, 4}, {"if 1 then 1 else 2", "code 3", 2, 2},
		{"true && false", "false", 4, 4}, {"false && true", "false", 3, 3}, {"true || false", "true", 3, 3}, {"false || false", "false", 4, 4}, {"true && 1", "code 3", 3, 3}, {"1 && true", "code 3", 2, 2}, {"1 + 2", "3", 4, 4}, {"\"a\" < \"b\"", "true", 4, 4}, {"[1] + [2]", "[1,2]", 8, 8},
		{"1 + \"a\"", "code 3", 3, 3}, {"1 / 0", "code 6", 3, 3}, {"[1][1]", "code 5", 3, 3}, {"{a: 1}.b", "code 4", 2, 2}, {"1[error \"x\"]", "code 10", 4, 4}, {"\"a\" - (error \"x\")", "code 10", 4, 4},
		{"(function(x) x)(1)", "1", 5, 5}, {"(function(x) 1)(error \"x\")", "1", 4, 4}, {"(function(x) x + x)(1 + 2)", "6", 9, 12}, {"(function(x) x)()", "code 8", 2, 2}, {"(function() 1)(2)", "code 8", 2, 2}, {"1(2)", "code 3", 2, 2}, {"(function() 1)()", "1", 4, 4},
		{"[x for x in [1, 2]]", "[1,2]", 9, 9}, {"[0 for x in [1, 2]]", "[0,0]", 7, 7}, {"[x + x for x in [1 + 1]]", "[4]", 10, 13}, {"[x for x in 1]", "code 3", 2, 2}, {"[[x for x in [1]][0], 1][1]", "1", 5, 5},
	})
}

// How much is spent to ask whether things are the same, and for the value.
func TestCostsOfSameAndValue(t *testing.T) {
	wantCosts(t, []cost{
		{"1 == 1", "true", 5, 5}, {"1 != 1", "false", 5, 5}, {"1 == \"a\"", "false", 5, 5}, {"[1, 2] == [1, 2]", "true", 11, 11}, {"[1, 2] == [2, 2]", "false", 8, 8}, {"[1, 2] == [1]", "false", 5, 5}, {"[[1]] == [[1]]", "true", 11, 11},
		{"{a: 1, h:: 1} == {a: 1}", "true", 8, 8}, {"{a: 1} == {b: 1}", "false", 5, 5}, {"{b: 1, a: 2} == {a: 3, b: error \"x\"}", "false", 8, 8}, {"local a = [1]; a == a", "true", 9, 11}, {"local a = {x: 1 + 1}; a == a", "true", 11, 15},
		{"(function() 1) == 1", "code 3", 4, 4}, {"1 == (function() 1)", "code 3", 4, 4}, {"[error \"x\"] == [1 / 0]", "code 10", 6, 6}, {"[1] == [error \"x\"]", "code 10", 7, 7}, {"{a: error \"x\"} == {a: 1 / 0}", "code 10", 6, 6}, {"[1, error \"x\"] == [2, 1 / 0]", "false", 8, 8}, {"[function() 1] == [1, 2]", "false", 5, 5},
		{"[[[1]]]", "[[[1]]]", 8, 8}, {"{a: {b: [1, 2]}, c: \"x\"}", "{\"a\":{\"b\":[1,2]},\"c\":\"x\"}", 12, 12}, {"[1, error \"x\", 1 / 0]", "code 10", 6, 6}, {"{b: error \"x\", a: 1 / 0}", "code 6", 5, 5},
		{"[std.range(60) for x in std.range(60)]", "code 7", 3784, 3784}, {"local a = [a]; a", "code 7", 24, 63}, {"local a = {x: a}; a", "code 7", 24, 63}, {"local a = [a]; a == a", "code 7", 26, 106},
	})
}

// same answers, by Eval with FuelMax, but for how much is spent.
func comesAlike(a, b impl.Node) (bool, bool) {
	v, code, _ := impl.Eval(a, impl.FuelMax)
	w, other, _ := impl.Eval(b, impl.FuelMax)
	for _, c := range []int{code, other} {
		if c == impl.EvalFuel || c == impl.EvalNest || c == impl.EvalTree {
			return true, false
		}
	}
	return code == other && sameParts(v, w), true
}

// orchard holds trees against each other, and counts how often there was something to hold.
type orchard struct {
	t    *testing.T
	held int
}

// alike holds that two trees come to the same, if the first is ok, and neither has EvalFuel or EvalNest.
func (o *orchard) alike(a, b impl.Node) {
	o.t.Helper()
	if !impl.TreeOk(a) || !impl.TreeOk(b) {
		return
	}
	same, held := comesAlike(a, b)
	if !same {
		o.t.Fatalf("%s: %s, %s: %s", impl.Show(a), told(impl.Eval(a, impl.FuelMax)), impl.Show(b), told(impl.Eval(b, impl.FuelMax)))
	}
	if held {
		o.held++
	}
}

// comesTo holds that a tree, if it is ok, comes to a value, unless it has EvalFuel or EvalNest.
func (o *orchard) comesTo(n impl.Node, want impl.Value) {
	o.t.Helper()
	v, code, spent := impl.Eval(n, impl.FuelMax)
	if !impl.TreeOk(n) || code == impl.EvalFuel || code == impl.EvalNest {
		return
	}
	o.held++
	if code != 0 || !sameParts(v, want) {
		o.t.Fatalf("%s: %s instead of %s", impl.Show(n), told(v, code, spent), jsonOf(want))
	}
}

// hasCode holds that a tree, if it is ok, has a code, unless it has EvalFuel or EvalNest.
func (o *orchard) hasCode(n impl.Node, want int) {
	o.t.Helper()
	v, code, spent := impl.Eval(n, impl.FuelMax)
	if !impl.TreeOk(n) || code == impl.EvalFuel || code == impl.EvalNest {
		return
	}
	o.held++
	if code != want {
		o.t.Fatalf("%s: %s instead of code %d", impl.Show(n), told(v, code, spent), want)
	}
}

// atLeast holds that there was something to hold.
func (o *orchard) atLeast(least int) {
	o.t.Helper()
	if o.held < least {
		o.t.Errorf("only %d held", o.held)
	}
}

// put is a tree read from a text, with trees in the place of the names t, u and w.
func put(t *testing.T, text string, trees ...impl.Node) impl.Node {
	t.Helper()
	n := mustRead(t, text)
	for _, node := range nodesOf(&n) {
		if at := strings.Index("tuw", node.Text); node.Kind == impl.NodeName && at >= 0 && at < len(trees) {
			*node = trees[at]
		}
	}
	return n
}

// wrongTree is a tree that has a code.
func wrongTree(t *testing.T, code int) impl.Node {
	t.Helper()
	return mustRead(t, wrongs[code])
}

// wrongCodes is the codes of the trees of wrongs, ascending.
func wrongCodes() []int {
	var out []int
	for code := range wrongs {
		out = append(out, code)
	}
	slices.Sort(out)
	return out
}

func TestWrongs(t *testing.T) {
	for _, code := range wrongCodes() {
		n := wrongTree(t, code)
		_, kept, _ := impl.Eval(n, impl.FuelMax)
		_, anew, _ := impl.EvalAnew(n, impl.FuelMax)
		if kept != code || anew != code && code != impl.EvalLoop {
			t.Errorf("%s: %d, %d", wrongs[code], kept, anew)
		}
	}
}

func TestP31ValueTree(t *testing.T) {
	o := orchard{t: t}
	for _, v := range values() {
		n := impl.ValueTree(v)
		if impl.TreeSame(n, impl.Node{}) {
			continue
		}
		o.comesTo(n, v)
		if len(impl.Frees(n)) > 0 || impl.ScopeCheck(n) != 0 {
			t.Fatalf("%v has names from outside", n)
		}
	}
	o.atLeast(500)
}

func TestP33Anew(t *testing.T) {
	for _, o := range grove() {
		for _, fuel := range []int{impl.FuelMax, o.spent, o.spent + 1, o.spent / 2, 0} {
			fuel = min(fuel, impl.FuelMax)
			v, code, spent := impl.Eval(o.tree, fuel)
			w, other, anew := impl.EvalAnew(o.tree, fuel)
			if spent > anew {
				t.Fatalf("%s with %d: %d, anew %d", impl.Show(o.tree), fuel, spent, anew)
			}
			if other != impl.EvalFuel && other != impl.EvalNest && (code != other || !sameParts(v, w)) {
				t.Fatalf("%s with %d: %s, anew %s", impl.Show(o.tree), fuel, told(v, code, spent), told(w, other, anew))
			}
		}
	}
}

func TestP34Fuel(t *testing.T) {
	for _, o := range grove() {
		enough := o.spent
		if o.code != 0 {
			enough++
		}
		for _, fuel := range []int{enough, enough + 1, enough + 100, impl.FuelMax} {
			if fuel > impl.FuelMax || o.code == impl.EvalFuel {
				continue
			}
			if got := told(impl.Eval(o.tree, fuel)); got != told(o.value, o.code, o.spent) {
				t.Fatalf("%s with %d: %s instead of %s", impl.Show(o.tree), fuel, got, told(o.value, o.code, o.spent))
			}
		}
		for _, fuel := range []int{0, 1, o.spent / 2, o.spent - 1, o.spent, o.spent + 1} {
			_, code, spent := impl.Eval(o.tree, max(0, fuel))
			if spent > max(0, fuel) || code != impl.EvalFuel && spent != o.spent || fuel < o.spent && code != impl.EvalFuel || code == impl.EvalFuel && spent != max(0, fuel) {
				t.Fatalf("%s with %d: %d, %d", impl.Show(o.tree), fuel, code, spent)
			}
			if _, code, spent := impl.EvalAnew(o.tree, max(0, fuel)); spent > max(0, fuel) || code == impl.EvalFuel && spent != max(0, fuel) {
				t.Fatalf("%s with %d anew: %d, %d", impl.Show(o.tree), fuel, code, spent)
			}
		}
	}
}

// As much as fuel is spent stands ahead of too many trees one in the other, and of things that stand too deep.
func TestP34FuelFirst(t *testing.T) {
	for _, text := range []string{wrongs[impl.EvalNest], wrongs[impl.EvalBig], "local a = [a]; a == a", "std.text(local a = {x: a}; a)"} {
		n := mustRead(t, text)
		_, code, spent := impl.Eval(n, impl.FuelMax)
		if got, want := told(impl.Eval(n, spent)), fmt.Sprint("code 1 ", spent); got != want {
			t.Errorf("%s: %s instead of %s", text, got, want)
		}
		if got, want := told(impl.Eval(n, spent+1)), fmt.Sprint("code ", code, " ", spent); got != want {
			t.Errorf("%s: %s instead of %s", text, got, want)
		}
	}
}

// All of FuelMax may be spent, and no more.
func TestP34FuelMax(t *testing.T) {
	sum := "std.fold(function(m, k) m + k, std.range(60), 0)"
	text := "[std.length(std.sort([" + sum + " + " + sum + " for x in std.range(53)])), std.length(std.sort(std.map(function(x) 0, std.range(60)))), std.length(std.sort([-0 for y in std.range(50)])), std.length(std.sort([0 for y in std.range(%d)]))]"
	least := 0
	for more := range 61 {
		v, code, spent := impl.Eval(mustRead(t, fmt.Sprintf(text, more)), impl.FuelMax)
		if more == 0 {
			least = spent
		}
		want := fmt.Sprint("[53,60,50,", more, "] ", least+more)
		if least+more > impl.FuelMax {
			want = fmt.Sprint("code 1 ", impl.FuelMax)
		}
		if got := told(v, code, spent); got != want {
			t.Fatalf("%s instead of %s", got, want)
		}
	}
	if least > impl.FuelMax || least+60 <= impl.FuelMax {
		t.Error(least)
	}
}

// Just NestMax trees may be worked out, one in the other.
func TestNestMax(t *testing.T) {
	text := "local f = function(n) if n < 1 then 0 else -f(n - 1); %sf(%d)"
	met := map[int]int{}
	for rounds := 44; rounds <= 50; rounds++ {
		for ahead := range 10 {
			n := mustRead(t, fmt.Sprintf(text, strings.Repeat("-", ahead), rounds))
			// the local, the signs ahead, a call, and what it says; three more for each round; and `n < 1`, its name, `n - 1` and its name
			nest := 1 + ahead + 2 + 3*rounds + 4
			v, code, spent := impl.Eval(n, impl.FuelMax)
			want := 0
			if nest > impl.NestMax {
				want = impl.EvalNest
			}
			if code != want || code == 0 && jsonOf(v) != "0" {
				t.Errorf("%d, %d: %s with %d in each other", rounds, ahead, told(v, code, spent), nest)
			}
			met[nest]++
			if got, want := told(impl.EvalAnew(n, impl.FuelMax)), told(evalAgain(n, impl.FuelMax, false)); got != want {
				t.Errorf("%d, %d: anew %s instead of %s", rounds, ahead, got, want)
			}
		}
	}
	if met[impl.NestMax] == 0 || met[impl.NestMax+1] == 0 {
		t.Error(met)
	}
}

// What stands in a value is worked out behind the tree, not in it; what std.text asks for, in it.
func TestNestOfValues(t *testing.T) {
	text := "local f = function(n, k) if n < 1 then %s else f(n - 1, k); f(%d, [-1])"
	for rounds := 66; rounds <= 74; rounds++ {
		for _, what := range []string{"k", "[-1]", "k[0]", "std.text(k)", "std.text([-1])", "k == k", "[-1] == k", "std.sort(k)", "std.sort([-1])", "std.map(function(x) x, k)", "std.filter(function(x) x < 1, k)", "std.fold(function(x, y) y, k, 0)", "{a: -1}.a", "{a: -1}"} {
			n := mustRead(t, fmt.Sprintf(text, what, rounds))
			if got, want := told(impl.Eval(n, impl.FuelMax)), told(evalAgain(n, impl.FuelMax, true)); got != want {
				t.Errorf("%s, %d: %s instead of %s", what, rounds, got, want)
			}
		}
	}
}

// Arrays and layers of ListMax.
func TestListMax(t *testing.T) {
	o := orchard{t: t}
	for _, c := range [][2]int{{0, 60}, {60, 0}, {1, 59}, {30, 30}} {
		n := mustRead(t, fmt.Sprintf("std.length(std.range(%d) + std.range(%d))", c[0], c[1]))
		o.comesTo(n, numValue(6, 1))
		o.hasCode(mustRead(t, fmt.Sprintf("std.length(std.range(%d) + [0] + std.range(%d))", c[0], c[1])), impl.EvalBig)
	}
	layers := "std.fold(function(o, n) o + {a+: 1}, std.range(%d), {a: 1}).a"
	for more := 55; more <= 60; more++ {
		n := mustRead(t, fmt.Sprintf(layers, more))
		if more+1 > impl.ListMax {
			o.hasCode(n, impl.EvalBig)
			continue
		}
		num, _ := impl.DecNew(more+1, 0)
		o.comesTo(n, numValue(num.Man, num.Exp))
	}
	o.hasCode(mustRead(t, "local d = function(n, o) if n < 1 then o else d(n - 1, o + o); d(6, {})"), impl.EvalBig)
	o.comesTo(mustRead(t, "local d = function(n, o) if n < 1 then o else d(n - 1, o + o); d(5, {})"), objectValue(""))
	o.hasCode(mustRead(t, "({a: std.range(60)} + {a+: [1]}).a"), impl.EvalBig)
	o.atLeast(15)
}

// Texts of TextMax bytes that come together.
func TestTextMax(t *testing.T) {
	o := orchard{t: t}
	for _, c := range [][2]int{{0, 1500}, {1500, 0}, {1, 1499}, {750, 750}} {
		a, b := textTree(c[0]), textTree(c[1])
		whole := textValue(strings.Repeat("a", 1500))
		o.comesTo(put(t, "t + u", a, b), whole)
		o.hasCode(put(t, "t + u + \"b\"", a, b), impl.EvalBig)
		o.comesTo(put(t, "({a: t} + {a+: u}).a", a, b), whole)
		o.hasCode(put(t, "({a: t} + {a+: \"b\"} + {a+: u}).a", a, b), impl.EvalBig)
		o.comesTo(put(t, "std.join(\"\", [t, u])", a, b), whole)
		o.hasCode(put(t, "std.join(\"b\", [t, u])", a, b), impl.EvalBig)
		o.hasCode(put(t, "std.join(\"\", [t, \"b\", u])", a, b), impl.EvalBig)
	}
	o.comesTo(put(t, "std.join(t, [u])", textTree(1500), textTree(1500)), textValue(strings.Repeat("a", 1500)))
	o.comesTo(put(t, "std.join(t, [])", textTree(1500)), textValue(""))
	o.comesTo(put(t, "std.join(t, [\"\", \"\"])", textTree(1500)), textValue(strings.Repeat("a", 1500)))
	o.hasCode(put(t, "std.join(t, [\"\", \"\", \"\"])", textTree(751)), impl.EvalBig)
	o.comesTo(put(t, "std.length(std.text([t]))", textTree(1496)), numValue(15, 2))
	o.hasCode(put(t, "std.length(std.text([t]))", textTree(1497)), impl.EvalBig)
	o.comesTo(put(t, "std.length(std.text(t))", textTree(1500)), numValue(15, 2))
	o.atLeast(30)
}

// textTree is a text of so many bytes.
func textTree(size int) impl.Node {
	return tree(impl.NodeText, strings.Repeat("a", size))
}

// Things that stand DeepMax deep in others, and one more.
func TestDeepMax(t *testing.T) {
	o := orchard{t: t}
	for more := 15; more <= 24; more++ {
		for _, each := range []string{"[m]", "{a: m}"} {
			deep := fmt.Sprintf("std.fold(function(m, n) %s, std.range(%d), 1)", each, more)
			want := numValue(1, 0)
			for range more {
				want = map[string]impl.Value{"[m]": arrayValue(want), "{a: m}": objectValue("a", want)}[each]
			}
			all := mustRead(t, deep)
			same := mustRead(t, "local a = "+deep+"; local b = "+deep+"; a == b")
			text := mustRead(t, "std.text("+deep+")")
			if more+1 > impl.DeepMax {
				o.hasCode(all, impl.EvalBig)
				o.hasCode(same, impl.EvalBig)
				o.hasCode(text, impl.EvalBig)
				// what is not the same further out is not looked at
				o.comesTo(mustRead(t, "local a = "+deep+"; [1, a] == [2, a]"), impl.Value{Kind: impl.ValueFalse})
				continue
			}
			o.comesTo(all, want)
			o.comesTo(same, impl.Value{Kind: impl.ValueTrue})
			o.comesTo(text, textValue(jsonOf(want)))
		}
	}
	// each `==`, and each text, begins anew: how deep it stands in another one does not count
	o.comesTo(mustRead(t, "local a = std.fold(function(m, n) [m], std.range(19), 1); [[a == a]] == [[true]]"), impl.Value{Kind: impl.ValueTrue})
	o.comesTo(mustRead(t, "local a = std.fold(function(m, n) [m], std.range(19), 1); [[std.length(std.text(a))]]"), arrayValue(arrayValue(numValue(39, 0))))
	o.atLeast(60)
}

// A value of SizeMax values, and one more.
func TestSizeMaxOfValues(t *testing.T) {
	o := orchard{t: t}
	text := "[std.range(60), std.range(60), std.range(60), std.range(%d)]"
	if v, code, _ := impl.Eval(mustRead(t, fmt.Sprintf(text, 15)), impl.FuelMax); code != 0 || impl.ValueSize(v) != impl.SizeMax {
		t.Error(code, impl.ValueSize(v))
	}
	for more := 16; more < 20; more++ {
		n := mustRead(t, fmt.Sprintf(text, more))
		o.hasCode(n, impl.EvalBig)
		o.hasCode(put(t, "std.text(t)", n), impl.EvalBig)
		o.comesTo(put(t, "local a = t; a == a", n), impl.Value{Kind: impl.ValueTrue})
	}
	if v, code, _ := impl.Eval(put(t, "std.text(t)", mustRead(t, fmt.Sprintf(text, 15))), impl.FuelMax); code != 0 || len(v.Text) > impl.TextMax {
		t.Error(code)
	}
	o.atLeast(12)
}

// What Eval answers is memory of its own, and nothing of the tree is changed.
func TestEvalNewMemory(t *testing.T) {
	for _, o := range append(grove(), outcome{tree: mustRead(t, "local a = [\"abc\", {x: \"d\"}]; {p: a, q: a, r: std.text(\"e\"), s: std.keys({k: 1})}")}) {
		was := copyTree(o.tree)
		for _, eval := range []func(impl.Node, int) (impl.Value, int, int){impl.Eval, impl.EvalAnew} {
			v, code, spent := eval(o.tree, impl.FuelMax)
			want := told(v, code, spent)
			for _, node := range nodesOf(&o.tree) {
				if sharesText(node.Text, v) {
					t.Fatalf("%s: shares %q", impl.Show(o.tree), node.Text)
				}
			}
			for _, part := range valuesOf(&v) {
				for i := range part.Names {
					part.Names[i] = "?"
				}
				_ = append(part.Names, "??")
				_ = append(part.Items, impl.Value{Kind: 98})
				part.Kind, part.Text, part.Num = 99, "?", impl.Dec{Man: 7}
			}
			if !impl.TreeSame(o.tree, was) || told(eval(o.tree, impl.FuelMax)) != want {
				t.Fatalf("%s was changed", impl.Show(was))
			}
		}
	}
}

// No two lists of a value are one.
func TestEvalSharesNoLists(t *testing.T) {
	v, code, _ := impl.Eval(mustRead(t, "local a = [1, {x: 2}]; [a, a, {p: a}, [y for y in [a, a]]]"), impl.FuelMax)
	if code != 0 {
		t.Fatal(code)
	}
	want := jsonOf(v)
	for i := range valuesOf(&v) {
		changed, _, _ := impl.Eval(mustRead(t, "local a = [1, {x: 2}]; [a, a, {p: a}, [y for y in [a, a]]]"), impl.FuelMax)
		part := valuesOf(&changed)[i]
		if len(part.Items) == 0 {
			continue
		}
		part.Items[0] = textValue("changed")
		if got := strings.Count(jsonOf(changed), "changed"); got != 1 {
			t.Errorf("%d in %s, of %s", got, jsonOf(changed), want)
		}
	}
}
