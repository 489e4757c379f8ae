package tests

import (
	"fmt"
	"math/rand"
	"slices"
	"strings"
	"testing"

	"loop.example/chancery/impl"
)

// How much is spent, of each function that is there from the beginning.
func TestCostsOfStd(t *testing.T) {
	wantCosts(t, []cost{
		{"std.length(\"ab\")", "2", 3, 3}, {"std.length([1, error \"x\"])", "2", 3, 3}, {"std.length({a: error \"x\", h:: 1})", "1", 3, 3}, {"std.length(1)", "code 3", 2, 2}, {"std.keys({b: 1, a: 2, h:: 3})", "[\"a\",\"b\"]", 5, 5}, {"std.keys([])", "code 3", 2, 2},
		{"std.text(\"a\")", "\"a\"", 3, 3}, {"std.text(1)", "\"1\"", 4, 4}, {"std.text([1])", "\"[1]\"", 6, 6}, {"std.text({a: [1], h:: 2})", "\"{\\\"a\\\":[1]}\"", 8, 8}, {"local a = [1]; [std.text(a), std.text(a)]", "[\"[1]\",\"[1]\"]", 15, 17}, {"std.text(function() 1)", "code 3", 3, 3}, {"std.type(1)", "\"number\"", 3, 3}, {"std.type(error \"x\")", "code 10", 3, 3},
		{"std.sort([2, 1])", "[1,2]", 7, 7}, {"local a = std.sort([1 + 1, 1]); [a, a]", "[[1,2],[1,2]]", 17, 23}, {"std.sort([1, \"a\", error \"x\"])", "code 3", 4, 4}, {"std.sort([null, 1])", "code 3", 3, 3}, {"std.sort([])", "[]", 3, 3}, {"std.range(2)", "[0,1]", 5, 5}, {"local a = std.range(2); [a[1], a[1]]", "[1,1]", 13, 15}, {"std.range(-1)", "code 5", 3, 3},
		{"std.has({a: error \"x\"}, \"a\")", "true", 4, 4}, {"std.has(1, 2)", "code 3", 3, 3}, {"std.has(1, error \"x\")", "code 10", 4, 4}, {"std.join(\"-\", [\"a\", \"b\"])", "\"a-b\"", 6, 6}, {"std.join(\"-\", [\"a\", 1, error \"x\"])", "code 3", 5, 5}, {"std.join(1, 2)", "code 3", 3, 3}, {"std.join(1, error \"x\")", "code 10", 4, 4},
		{"std.map(function(x) x, [1])", "[1]", 10, 11}, {"std.map(function(x) 1, [1])", "[1]", 8, 9}, {"std.map(function(x) 1, [1, 2])", "[1,1]", 12, 14}, {"std.length(std.map(function() error \"x\", [1, 2]))", "2", 5, 5}, {"std.map(1, [1])", "code 3", 3, 3}, {"std.map(1, error \"x\")", "code 10", 4, 4}, {"std.map(function() 1, [2])", "code 8", 6, 7}, {"local m = std.map(function(x) x + x, [1 + 1]); [m[0], m[0]]", "[4,4]", 23, 45},
		{"std.filter(function(x) true, [1])", "[1]", 7, 7}, {"std.filter(function(x) x == x, [1])", "[1]", 10, 12}, {"std.filter(function(x) false, [1, 2])", "[]", 6, 6}, {"std.filter(function(x) 1, [error \"x\"])", "code 3", 4, 4}, {"std.filter(function() true, [error \"x\"])", "code 8", 3, 3}, {"std.filter(1, error \"x\")", "code 10", 4, 4}, {"std.filter(1, [])", "code 3", 3, 3},
		{"std.fold(function(m, n) m + n, [1, 2], 3)", "6", 13, 13}, {"std.fold(function(m, n) m, [error \"x\"], 1)", "1", 6, 6}, {"std.fold(function(m, n) m + m, [0], 1 + 1)", "4", 10, 10}, {"std.fold(function(m, n) n + n, [1 + 1], 0)", "4", 11, 14}, {"std.fold(function(m, n) 1, [], error \"x\")", "code 10", 5, 5}, {"std.fold(1, [], error \"x\")", "code 3", 3, 3}, {"std.fold(function(m) 1, [2], 3)", "code 8", 4, 4}, {"std.fold(function(m) 1, [], 3)", "3", 5, 5},
	})
}

func TestStdTexts(t *testing.T) {
	wantOutcomes(t, [][2]string{
		{"std.length(\"\")", "0"}, {"std.length(\"\\x00\\xff\\n\")", "3"}, {"std.length([])", "0"}, {"std.length({})", "0"}, {"std.length({a: 1} + {a: 2, b: 3})", "2"}, {"std.length(null)", "code 3"}, {"std.length(true)", "code 3"}, {"std.length(function() 1)", "code 3"},
		{"std.keys({})", "[]"}, {"std.keys({b: 1, ab: 2, a: 3, a1: 4, _: 5})", "[\"_\",\"a\",\"a1\",\"ab\",\"b\"]"}, {"std.keys({b: 1} + {a: 2} + {b:: 3})", "[\"a\"]"}, {"std.keys(\"a\")", "code 3"}, {"std.keys(function() 1)", "code 3"},
		{"std.text(null)", "\"null\""}, {"std.text(true)", "\"true\""}, {"std.text(false)", "\"false\""}, {"std.text(-1.50)", "\"-1.5\""}, {"std.text(\"a\\n\\xff\")", "\"a\\u000a\\u00ff\""}, {"std.text([\"a\\n\"])", "\"[\\\"a\\\\u000a\\\"]\""}, {"std.text({b: 1, a: [null], h:: 2})", "\"{\\\"a\\\":[null],\\\"b\\\":1}\""}, {"std.text([function() 1])", "code 3"}, {"std.text([error \"x\"])", "code 10"},
		{"[std.type(x) for x in [null, true, false, 1, \"\", [], {}]]", "[\"null\",\"truth\",\"truth\",\"number\",\"text\",\"array\",\"object\"]"}, {"std.type(function() error \"x\")", "\"function\""}, {"std.type([error \"x\"])", "\"array\""},
		{"std.sort([3, -1, 2.5, 0, 3])", "[-1,0,2.5,3,3]"}, {"std.sort([\"b\", \"\", \"ab\", \"a\", \"\\xff\", \"B\"])", "[\"\",\"B\",\"a\",\"ab\",\"b\",\"\\u00ff\"]"}, {"std.sort([1, \"a\"])", "code 3"}, {"std.sort([\"a\", 1])", "code 3"}, {"std.sort([true])", "code 3"}, {"std.sort([[1]])", "code 3"}, {"std.sort([null])", "code 3"}, {"std.sort(\"ab\")", "code 3"}, {"std.sort({})", "code 3"}, {"std.sort([1, error \"x\"])", "code 10"},
		{"std.has({a: 1}, \"a\")", "true"}, {"std.has({a: 1}, \"b\")", "false"}, {"std.has({a:: 1}, \"a\")", "false"}, {"std.has({a+: 1}, \"a\")", "true"}, {"std.has({a: 1}, \"\")", "false"}, {"std.has({}, \"if\")", "false"}, {"std.has([1], 0)", "code 3"}, {"std.has({a: 1}, 1)", "code 3"}, {"std.has(\"a\", \"a\")", "code 3"}, {"std.has({a: 1} + {a:: 2} + {a: 3}, \"a\")", "true"},
		{"std.join(\", \", [\"a\", \"b\", \"c\"])", "\"a, b, c\""}, {"std.join(\"-\", [\"a\"])", "\"a\""}, {"std.join(\"-\", [])", "\"\""}, {"std.join(\"\", [\"\", \"\"])", "\"\""}, {"std.join(\"-\", [1])", "code 3"}, {"std.join(1, [\"a\"])", "code 3"}, {"std.join(\"a\", \"b\")", "code 3"}, {"std.join([\"a\"], \"b\")", "code 3"}, {"std.join(\"-\", [\"a\", error \"x\"])", "code 10"},
		{"std.map(function(x) x * x, [1, 2, 3])", "[1,4,9]"}, {"std.map(function(x) [x], [])", "[]"}, {"std.map([1], function(x) x)", "code 3"}, {"std.map(function(x) x, \"ab\")", "code 3"}, {"std.map(function(x) x, {})", "code 3"}, {"std.map(null, [])", "code 3"}, {"local f = 5; local x = 6; std.map(function(y) y + f + x, [1])", "[12]"}, {"std.map(function(x) x, [1, error \"a\", 3])[2]", "3"}, {"{k: 2, l: std.map(function(x) x * self.k, [1, 2])}.l", "[2,4]"},
		{"std.filter(function(x) x > 1, [1, 2, 3])", "[2,3]"}, {"std.filter(function(x) x, [true, false, true])", "[true,true]"}, {"std.filter(function(x) null, [1])", "code 3"}, {"std.filter(function(x) x, [true, 1])", "code 3"}, {"std.filter(function(x) true, [error \"x\", 2])[1]", "2"}, {"std.filter([1], function(x) true)", "code 3"}, {"std.filter(function(x) true, \"a\")", "code 3"},
		{"std.fold(function(m, n) m + n, [1, 2, 3], 10)", "16"}, {"std.fold(function(m, n) m + n, [\"b\", \"c\"], \"a\")", "\"abc\""}, {"std.fold(function(m, n) n, [1, 2], null)", "2"}, {"std.fold(function(m, n) [m, n], [1, 2], 0)", "[[0,1],2]"}, {"std.fold(function(m, n) m, [], [1])", "[1]"}, {"std.fold(function(m, n) n, [1], error \"x\")", "code 10"}, {"std.fold([1], function(m, n) m, 0)", "code 3"}, {"std.fold(function(m, n) m, \"a\", 0)", "code 3"}, {"std.fold(function(m, n) m + n, [1, \"a\"], 0)", "code 3"},
	})
}

func TestKeysMax(t *testing.T) {
	o := orchard{t: t}
	for count := 56; count <= 64; count++ {
		var parts, names []string
		for i := range count {
			name := fmt.Sprintf("k%02d", i)
			names = append(names, "\""+name+"\"")
			if i%8 == 0 {
				parts = append(parts, "{")
			}
			parts[len(parts)-1] += name + ":0,"
		}
		object := strings.Join(parts, "}+") + "}"
		n := mustRead(t, "std.keys("+object+")")
		if count > impl.ListMax {
			o.hasCode(n, impl.EvalBig)
		} else if v, code, _ := impl.Eval(n, impl.FuelMax); code != 0 || jsonOf(v) != "["+strings.Join(names, ",")+"]" {
			t.Errorf("%d: %d %s", count, code, jsonOf(v))
		}
		num, _ := impl.DecNew(count, 0)
		o.comesTo(mustRead(t, "std.length("+object+")"), numValue(num.Man, num.Exp))
	}
}

func TestP49Sort(t *testing.T) {
	r := rand.New(rand.NewSource(6))
	decs := pool()
	o := orchard{t: t}
	for i := range 2000 {
		var items []impl.Value
		for range i % 9 {
			d := decs[r.Intn(len(decs))]
			if len(items) > 0 && r.Intn(4) == 0 {
				d = items[0].Num
			}
			items = append(items, impl.Value{Kind: impl.ValueNum, Num: d})
		}
		n := impl.ValueTree(arrayValue(items...))
		want := arrayValue(slices.Clone(items)...)
		slices.SortStableFunc(want.Items, func(a, b impl.Value) int { return ratOf(a.Num).Cmp(ratOf(b.Num)) })
		o.comesTo(put(t, "std.sort(t)", n), want)
		o.comesTo(put(t, "std.sort(std.sort(t))", n), want)
		o.comesTo(put(t, "std.sort(t) == std.sort(std.sort(t))", n), truthValue)
	}
	o.atLeast(6000)
	for _, c := range []struct {
		text string
		want func(i int) int
	}{{"std.sort([59 - x for x in std.range(60)])", func(i int) int { return i }}, {"std.sort([x * 7 % 60 for x in std.range(60)])", func(i int) int { return i }}, {"std.sort([(59 - x) % 2 for x in std.range(60)])", func(i int) int { return i / 30 }}} {
		v, code, _ := impl.Eval(mustRead(t, c.text), impl.FuelMax)
		if code != 0 || len(v.Items) != 60 {
			t.Fatal(c.text, code)
		}
		for i, item := range v.Items {
			if impl.DecText(item.Num) != fmt.Sprint(c.want(i)) {
				t.Fatalf("%s: %s at %d", c.text, impl.DecText(item.Num), i)
			}
		}
	}
}

func TestP50Fold(t *testing.T) {
	r := rand.New(rand.NewSource(8))
	decs := pool()
	o := orchard{t: t}
	sums, wrong := 0, 0
	for i := range 3000 {
		var items []impl.Value
		for range i % 9 {
			items = append(items, impl.Value{Kind: impl.ValueNum, Num: decs[r.Intn(len(decs))]})
		}
		if i%3 == 0 {
			for j := range items {
				items[j].Num, _ = impl.DecNew(r.Intn(2000)-1000, -r.Intn(3))
			}
		}
		sum, room := impl.Dec{}, true
		for _, item := range items {
			if room {
				sum, room = impl.DecAdd(sum, item.Num)
			}
		}
		n := put(t, "std.fold(function(m, n) m + n, t, 0)", impl.ValueTree(arrayValue(items...)))
		if room {
			o.comesTo(n, impl.Value{Kind: impl.ValueNum, Num: sum})
			sums++
		} else {
			o.hasCode(n, impl.EvalNum)
			wrong++
		}
	}
	o.atLeast(3000)
	if sums < 1000 || wrong < 500 {
		t.Error(sums, wrong)
	}
	o.comesTo(mustRead(t, "std.fold(function(m, n) m + n, std.range(60), 0)"), numValue(177, 1))
}

func TestP51ForEach(t *testing.T) {
	o := orchard{t: t}
	for _, came := range grove() {
		whole := came.tree
		if came.code == 0 && came.value.Kind != impl.ValueArray {
			for _, text := range []string{"[1 for x in t]", "std.map(function(x) x, t)", "std.filter(function(x) true, t)"} {
				o.hasCode(put(t, text, whole), impl.EvalType)
			}
			continue
		}
		if came.code != 0 {
			whole = put(t, "[t]", whole)
		}
		for _, text := range []string{"[x for x in t]", "std.map(function(x) x, t)", "std.filter(function(x) true, t)"} {
			o.alike(put(t, text, whole), whole)
		}
		length := put(t, "std.length(t)", whole)
		for _, text := range []string{"std.length([1 for x in t])", "std.length(std.map(function(x) 1, t))", "std.length(std.filter(function(x) true, t))"} {
			o.alike(put(t, text, whole), length)
		}
		o.comesTo(put(t, "std.filter(function(x) false, t)", whole), arrayValue())
		if numbers := slices.Clone(came.value.Items); len(numbers) > 0 && !slices.ContainsFunc(numbers, func(v impl.Value) bool { return v.Kind != impl.ValueNum }) {
			noughts := make([]impl.Value, len(numbers))
			for i := range noughts {
				noughts[i] = numValue(0, 0)
			}
			o.comesTo(put(t, "[x - x for x in t]", whole), arrayValue(noughts...))
		}
	}
	o.atLeast(4000)
	wantOutcomes(t, [][2]string{
		{"[x - x for x in [1, 2.5, -3]]", "[0,0,0]"}, {"[x * 2 for x in []]", "[]"}, {"[[x * y for y in [1, 2]] for x in [3, 4]]", "[[3,6],[4,8]]"}, {"[x for x in [x for x in [7]]]", "[7]"}, {"local x = 5; [x for x in [x]]", "[5]"}, {"[x for x in [error \"x\", 2]][1]", "2"}, {"[error \"x\" for x in [1, 2]] == []", "false"},
	})
}

func TestP52Range(t *testing.T) {
	o := orchard{t: t}
	for count := -5; count <= 70; count++ {
		n := mustRead(t, fmt.Sprintf("std.range(%d)", count))
		if count < 0 || count > 60 {
			o.hasCode(n, impl.EvalPlace)
			continue
		}
		want := arrayValue()
		for i := range count {
			num, _ := impl.DecNew(i, 0)
			want.Items = append(want.Items, impl.Value{Kind: impl.ValueNum, Num: num})
		}
		o.comesTo(n, want)
	}
	for _, text := range []string{"0.5", "59.9", "60.1", "-0.5", "0.00000001", "99999999", "100000000", "9999999900000000", "-1", "60 + 1"} {
		o.hasCode(mustRead(t, "std.range("+text+")"), impl.EvalPlace)
	}
	for _, text := range []string{"\"1\"", "null", "true", "[1]", "{}", "function() 1"} {
		o.hasCode(mustRead(t, "std.range("+text+")"), impl.EvalType)
	}
	o.atLeast(90)
}

func TestP53Join(t *testing.T) {
	var texts []outcome
	for _, came := range cameTo(false) {
		if came.value.Kind == impl.ValueText {
			texts = append(texts, came)
		}
	}
	r := rand.New(rand.NewSource(1))
	o := orchard{t: t}
	for range 3000 {
		a, b, c := texts[r.Intn(len(texts))], texts[r.Intn(len(texts))], texts[r.Intn(len(texts))]
		o.comesTo(put(t, "t + u", a.tree, b.tree), textValue(a.value.Text+b.value.Text))
		o.comesTo(put(t, "std.join(\"\", [t, u, w])", a.tree, b.tree, c.tree), textValue(a.value.Text+b.value.Text+c.value.Text))
		o.alike(put(t, "std.join(\"\", [t, u, w])", a.tree, b.tree, c.tree), put(t, "t + u + w", a.tree, b.tree, c.tree))
		o.comesTo(put(t, "std.join(w, [t, u])", a.tree, b.tree, c.tree), textValue(a.value.Text+c.value.Text+b.value.Text))
	}
	o.atLeast(9000)
}
