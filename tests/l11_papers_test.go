package tests

import (
	"fmt"
	"math/rand"
	"slices"
	"strings"
	"testing"

	"loop.example/chancery/impl"
)

// papers is papers of names and texts, by turns.
func papers(words ...string) []impl.Paper {
	var out []impl.Paper
	for i := 0; i+1 < len(words); i += 2 {
		out = append(out, impl.Paper{Name: words[i], Text: words[i+1]})
	}
	return out
}

// manyPapers is so many papers, all of them ok.
func manyPapers(count int) []impl.Paper {
	var out []impl.Paper
	for i := range count {
		out = append(out, impl.Paper{Name: string(rune('a' + i)), Text: fmt.Sprint(i)})
	}
	return out
}

// wrongPapers is papers that are not ok.
func wrongPapers() [][]impl.Paper {
	return [][]impl.Paper{
		manyPapers(7), manyPapers(20), papers("", "1"), papers("if", "1"), papers("A", "1"), papers("1a", "1"), papers("abcdefghijklm", "1"), papers("a", strings.Repeat(" ", 1500)+"1"),
		papers("a", "1", "a", "1"), papers("b", "1", "a", "1"), papers("a", "1", "ab", "1", "aa", "1"), papers("ab", "1", "a", "1"), papers("a", "1", "b", "1", "std", "1"), papers("a", "1", "b", strings.Repeat("#", 1501)),
	}
}

func TestPapersOk(t *testing.T) {
	if impl.PaperMax != 6 {
		t.Error(impl.PaperMax)
	}
	for count := range 9 {
		if got := impl.PapersOk(manyPapers(count)); got != (count <= 6) {
			t.Errorf("%d papers: %v", count, got)
		}
	}
	for i, list := range wrongPapers() {
		if impl.PapersOk(list) {
			t.Errorf("%d: %v", i, list)
		}
	}
	for i, list := range [][]impl.Paper{nil, {}, papers("a", ""), papers("a", "("), papers("abcdefghijkl", "\x00"), papers("_", "1", "a", "1", "a1", "1", "a_", "1", "aa", "1", "b", "1"), papers("a", strings.Repeat(" ", 1500))} {
		if !impl.PapersOk(list) {
			t.Errorf("%d: %v", i, list)
		}
	}
}

func TestPapersOfWrongPapers(t *testing.T) {
	for i, list := range wrongPapers() {
		for _, paper := range append(list, impl.Paper{Name: "zz"}) {
			all, ok := impl.PapersOf(list, paper.Name)
			if got := told(impl.PapersEval(list, paper.Name, impl.FuelMax)); ok || len(all) > 0 || got != "code 11 0" {
				t.Errorf("%d: %v %v %s", i, all, ok, got)
			}
		}
	}
	list := papers("a", "1", "b", "(", "c", "x", "d", "self.a", "e", "\"", "f", "import g")
	for _, name := range []string{"b", "c", "d", "e", "f", "g", "", "A", "if"} {
		all, ok := impl.PapersOf(list, name)
		if got := told(impl.PapersEval(list, name, impl.FuelMax)); ok || len(all) > 0 || got != "code 11 0" {
			t.Errorf("%s: %v %v %s", name, all, ok, got)
		}
		taking := papers("a", "[import "+name+", 1][1]", "z", "import a")
		if name == "" || name == "A" || name == "if" {
			continue
		}
		for _, other := range list {
			if other.Name != "a" {
				taking = slices.Insert(taking, len(taking)-1, other)
			}
		}
		taking = slices.DeleteFunc(taking, func(paper impl.Paper) bool { return paper.Name == "f" && name != "f" })
		for _, start := range []string{"a", "z"} {
			if got := told(impl.PapersEval(taking, start, impl.FuelMax)); impl.PapersOk(taking) && got != "code 11 0" {
				t.Errorf("%s taken in by %s: %s", name, start, got)
			}
		}
	}
	for _, fuel := range []int{-1, impl.FuelMax + 1, 1 << 62, -1 << 63} {
		if got := told(impl.PapersEval(list, "a", fuel)); got != "code 11 0" {
			t.Errorf("%d: %s", fuel, got)
		}
	}
	if got := told(impl.PapersEval(list, "a", 0)) + told(impl.PapersEval(list, "a", 1)) + told(impl.PapersEval(list, "a", 2)); got != "code 1 0code 1 11 2" {
		t.Error(got)
	}
}

// needsAgain is what a paper needs, in another way: names are added as long as there are any; false, if one is none.
func needsAgain(list []impl.Paper, name string) ([]string, bool) {
	out := []string{name}
	for i := 0; i < len(out); i++ {
		at := slices.IndexFunc(list, func(paper impl.Paper) bool { return paper.Name == out[i] })
		if at < 0 {
			return nil, false
		}
		n, code, _ := impl.Parse(list[at].Text)
		if code != 0 || len(freesAgain(n, "")) > 0 || asksOutside(n) > 0 {
			return nil, false
		}
		for _, node := range nodesOf(&n) {
			if node.Kind == impl.NodeImport && !slices.Contains(out, node.Text) {
				out = append(out, node.Text)
			}
		}
	}
	slices.Sort(out)
	return out, true
}

// papersAgain is what a paper comes to, by the other way of working out.
func papersAgain(list []impl.Paper, name string, fuel int) (impl.Value, int, int) {
	all, ok := needsAgain(list, name)
	if !ok || fuel < 0 || fuel > 20000 {
		return impl.Value{}, 11, 0
	}
	a := &again{fuel: fuel, keep: true, papers: map[string]*pot{}}
	for _, paper := range list {
		if slices.Contains(all, paper.Name) {
			n, _, _ := impl.Parse(paper.Text)
			a.papers[paper.Name] = &pot{tree: n}
		}
	}
	return a.all(a.papers[name])
}

// shelves is papers that hang on a source of numbers alone, some of which take others in, that may be wrong or not there.
func shelves(seed int64, count int) [][]impl.Paper {
	g := grower{r: rand.New(rand.NewSource(seed))}
	names := []string{"aa", "b", "c", "d1", "e_", "f"}
	var out [][]impl.Paper
	for range count {
		var list []impl.Paper
		for i, name := range names[:1+g.r.Intn(6)] {
			g.papers = names[min(i+1, 5):]
			if g.r.Intn(3) == 0 {
				g.papers = names
			}
			if g.r.Intn(6) == 0 {
				g.papers = nil
			}
			text := g.expression("object", 2+g.r.Intn(4))
			switch g.r.Intn(40) {
			case 0:
				text = "import " + names[g.r.Intn(6)]
			case 1:
				text = "x + " + text
			case 2:
				text += "("
			}
			if len(text) <= impl.TextMax {
				list = append(list, impl.Paper{Name: name, Text: text})
			}
		}
		out = append(out, list)
	}
	return out
}

func TestP59Needs(t *testing.T) {
	found, several := 0, 0
	for _, list := range shelves(21, 2000) {
		for _, name := range []string{"aa", "b", "c", "f", "zz"} {
			want, known := needsAgain(list, name)
			got, ok := impl.PapersOf(list, name)
			if ok != known || !slices.Equal(got, want) {
				t.Fatalf("%v, %s: %v %v instead of %v %v", list, name, got, ok, want, known)
			}
			if !ok {
				continue
			}
			found++
			if len(got) > 1 {
				several++
			}
			for _, paper := range list {
				n, _, _ := impl.Parse(paper.Text)
				for _, taken := range impl.Imports(n) {
					if slices.Contains(got, paper.Name) && !slices.Contains(got, taken) {
						t.Fatalf("%v, %s: %s is missing in %v", list, name, taken, got)
					}
				}
			}
		}
	}
	if found < 1000 || several < 300 {
		t.Error(found, several)
	}
}

func TestP59Texts(t *testing.T) {
	list := papers("a", "[import c, {x: import b}]", "b", "1", "c", "(import d) + import b", "d", "import c", "e", "import e", "f", "import gone")
	for _, c := range [][2]string{{"a", "[a b c d] true"}, {"b", "[b] true"}, {"c", "[b c d] true"}, {"d", "[b c d] true"}, {"e", "[e] true"}, {"f", "[] false"}, {"gone", "[] false"}, {"", "[] false"}} {
		if all, ok := impl.PapersOf(list, c[0]); fmt.Sprint(all, ok) != c[1] {
			t.Errorf("%s: %v %v instead of %s", c[0], all, ok, c[1])
		}
	}
	chain := papers("a", "import f", "b", "import a", "c", "import b", "d", "import c", "e", "import d", "f", "1")
	if all, ok := impl.PapersOf(chain, "e"); !ok || fmt.Sprint(all) != "[a b c d e f]" {
		t.Error(all, ok)
	}
}

func TestP60Alone(t *testing.T) {
	held := 0
	for _, came := range grove() {
		text := impl.Show(came.tree)
		if len(text) > impl.TextMax || len(impl.Imports(came.tree)) > 0 {
			continue
		}
		if _, code, _ := impl.Parse(text); code != 0 {
			continue
		}
		list := papers("a", "import b", "b", text, "c", "(")
		for _, fuel := range []int{impl.FuelMax, came.spent, came.spent / 2, 0} {
			if got, want := told(impl.PapersEval(list, "b", fuel)), told(impl.Eval(came.tree, fuel)); got != want {
				t.Fatalf("%s with %d: %s instead of %s", text, fuel, got, want)
			}
		}
		held++
	}
	if held < 1000 {
		t.Error(held)
	}
}

func TestPapersAgain(t *testing.T) {
	r := rand.New(rand.NewSource(3))
	codes := map[int]int{}
	for _, list := range shelves(22, 3000) {
		for _, paper := range list {
			for _, fuel := range []int{impl.FuelMax, r.Intn(50), r.Intn(300)} {
				v, code, spent := impl.PapersEval(list, paper.Name, fuel)
				codes[code]++
				if got, want := told(v, code, spent), told(papersAgain(list, paper.Name, fuel)); got != want {
					t.Fatalf("%v, %s with %d: %s instead of %s", list, paper.Name, fuel, got, want)
				}
			}
		}
	}
	if codes[0] < 1000 || codes[impl.EvalLoop] < 20 {
		t.Error(codes)
	}
}

func TestP61Others(t *testing.T) {
	held := 0
	others := []string{"1 / 0", "(", "x", "error \"no\"", "import gone", "{a: 5, t: \"other\"}", ""}
	for i, list := range shelves(23, 2000) {
		for _, paper := range list {
			all, ok := impl.PapersOf(list, paper.Name)
			if !ok || len(all) == len(list) {
				continue
			}
			changed := slices.Clone(list)
			for j := range changed {
				if !slices.Contains(all, changed[j].Name) {
					changed[j].Text = others[(i+j)%len(others)]
				}
			}
			if got, want := told(impl.PapersEval(changed, paper.Name, impl.FuelMax)), told(impl.PapersEval(list, paper.Name, impl.FuelMax)); got != want {
				t.Fatalf("%v, %s: %s instead of %s", changed, paper.Name, got, want)
			}
			held++
		}
	}
	if held < 1000 {
		t.Error(held)
	}
}

func TestP62Import(t *testing.T) {
	held := 0
	for _, list := range shelves(24, 2500) {
		for _, paper := range list {
			if len(list) == impl.PaperMax {
				continue
			}
			more := append(slices.Clone(list), impl.Paper{Name: "z", Text: "import " + paper.Name})
			v, code, _ := impl.PapersEval(list, paper.Name, impl.FuelMax)
			w, other, _ := impl.PapersEval(more, "z", impl.FuelMax)
			if code == impl.EvalFuel || code == impl.EvalNest || other == impl.EvalFuel || other == impl.EvalNest {
				continue
			}
			if code != other || !sameParts(v, w) {
				t.Fatalf("%v, %s: %d %s, %d %s", list, paper.Name, code, jsonOf(v), other, jsonOf(w))
			}
			held++
		}
	}
	if held < 2000 {
		t.Error(held)
	}
}

func TestPapersTexts(t *testing.T) {
	base := papers("base", "{name: \"b\", port:: 80, url: self.name + \":\" + std.text(self.port), list: [1, 2.50]}", "main", "import base + {port: super.port + 0.5, list+: [3], all: [n * 2 for n in self.list]}")
	list := papers("a", "{x: 1} + import b", "b", "{y: (import a).x}", "c", "import c", "d", "import e", "e", "import d", "f", "local x = import f; 1")
	kept := papers("a", "[import b, import b, (import b)[0]]", "b", "[1 + 1]", "c", "[import c][0]", "d", "{v: 1, w: (import d).v}", "e", "import b == import b", "f", "{x: self.y, y: 1}")
	for _, c := range []struct {
		list []impl.Paper
		name string
		want string
	}{
		{base, "base", "{\"list\":[1,2.5],\"name\":\"b\",\"url\":\"b:80\"} 21"},
		{base, "main", "{\"all\":[2,5,6],\"list\":[1,2.5,3],\"name\":\"b\",\"port\":80.5,\"url\":\"b:80.5\"} 47"},
		// where b asks for a, that is done, and so is its field
		{list, "a", "{\"x\":1,\"y\":1} 10"},
		{list, "c", "code 9 1"}, {list, "d", "code 9 2"}, {list, "e", "code 9 2"}, {list, "f", "1 3"},
		// the cell of b is worked out once, and what stands in it
		{kept, "a", "[[2],[2],2] 16"}, {kept, "c", "code 9 4"}, {kept, "d", "{\"v\":1,\"w\":1} 7"}, {kept, "e", "true 10"}, {kept, "f", "{\"x\":1,\"y\":1} 7"},
	} {
		if got := told(impl.PapersEval(c.list, c.name, impl.FuelMax)); got != c.want {
			t.Errorf("%s: %s instead of %s", c.name, got, c.want)
		}
	}
}

// paperCost is what a paper comes to, or "code" and that, and how much is spent.
type paperCost struct {
	list  []impl.Paper
	name  string
	want  string
	spent int
}

// wantPaperCosts holds what papers come to with FuelMax, with just as much as is spent, and with all that is less.
func wantPaperCosts(t *testing.T, list []paperCost) {
	t.Helper()
	for _, c := range list {
		want := fmt.Sprint(c.want, " ", c.spent)
		for _, fuel := range []int{impl.FuelMax, c.spent + 1, c.spent} {
			if got := told(impl.PapersEval(c.list, c.name, fuel)); got != want {
				t.Errorf("%v, %s with %d: %s instead of %s", c.list, c.name, fuel, got, want)
			}
		}
		for fuel := range c.spent {
			if got, want := told(impl.PapersEval(c.list, c.name, fuel)), fmt.Sprint("code 1 ", fuel); got != want {
				t.Errorf("%v, %s with %d: %s instead of %s", c.list, c.name, fuel, got, want)
			}
		}
	}
}

// A paper that takes itself in while it is worked out is a loop, wherever that stands in it.
func TestPaperAsksForItself(t *testing.T) {
	var list []paperCost
	for text, spent := range map[string]int{
		"import a": 1, "import a + {}": 2, "{} + import a": 3, "-import a": 2, "[import a][0]": 4, "(import a).b": 2, "(function(x) import a)(1)": 3,
		"if true then import a else 1": 3, "local q = import a; q": 3, "std.length(import a)": 2, "[x for x in import a]": 2, "{b: import a}.b": 3, "import a == 1": 2,
		// what stands in it asks for itself, when the paper is done
		"[(import a)[0]]": 5, "{b: (import a).b}": 4, "{b: (import a).c, c: (import a).b}": 6, "{b: 1} + {b+: (import a).b}": 6,
	} {
		list = append(list, paperCost{papers("a", text), "a", "code 9", spent})
	}
	wantPaperCosts(t, list)
}

// A paper that is asked for only when it is done is not worked out once more, nor is what was asked for in it.
func TestPaperIsDoneOnce(t *testing.T) {
	wantPaperCosts(t, []paperCost{
		{papers("a", "{b: 1, c: (import a).b}"), "a", "{\"b\":1,\"c\":1}", 7}, {papers("a", "{c: 1, b: (import a).c}"), "a", "{\"b\":1,\"c\":1}", 7}, {papers("a", "{a: 1} + {b: (import a).a}"), "a", "{\"a\":1,\"b\":1}", 9},
		{papers("a", "[1 + 1, (import a)[0]]"), "a", "[2,2]", 10}, {papers("a", "[(import a)[1], 1 + 1]"), "a", "[2,2]", 10}, {papers("a", "[1, (import a)[0], (import a)[1]]"), "a", "[1,1,1]", 12},
		{papers("a", "local f = import a; {x: 1, y: f.x, z: f.y}"), "a", "{\"x\":1,\"y\":1,\"z\":1}", 12}, {papers("a", "{x:: 1 + 1, y: (import a).x, z: self.x}"), "a", "{\"y\":2,\"z\":2}", 11},
		{papers("a", "{x: 1, y: self.x, z: ((import a) + {x: 2, z: 0}).y}"), "a", "{\"x\":1,\"y\":1,\"z\":2}", 15},
		// not asked for at all
		{papers("a", "[1, import a][0]"), "a", "1", 5}, {papers("a", "{x:: import a, y: 1}"), "a", "{\"y\":1}", 4}, {papers("a", "local q = import a; 1"), "a", "1", 3}, {papers("a", "true || import a"), "a", "true", 3},
		// a function is no value, whatever it would take in
		{papers("a", "function(x) import a"), "a", "code 3", 2},
		// taken in by one that is asked for, it is done once as well
		{papers("a", "{b: 1, c: (import a).b}", "z", "import a"), "z", "{\"b\":1,\"c\":1}", 8}, {papers("a", "{b: 1, c: (import a).b}", "z", "[import a, (import a).c]"), "z", "[{\"b\":1,\"c\":1},1]", 13}, {papers("a", "import a", "z", "import a"), "z", "code 9", 2},
	})
}

// Two and three papers that take one another in, from each of them.
func TestPapersInARing(t *testing.T) {
	two := papers("a", "import b + {}", "b", "import a + {}")
	behind := papers("a", "{x: 1, y: (import b).z}", "b", "{z: (import a).x}")
	beneath := papers("a", "{x: 1} + import b", "b", "{y: (import a).x}")
	fields := papers("a", "{x: (import b).x}", "b", "{x: (import a).x}")
	items := papers("a", "[1 + 1, import b]", "b", "[(import a)[0], (import a)[0]]")
	three := papers("a", "import b + {}", "b", "import c + {}", "c", "import a + {}")
	round := papers("a", "{x: 1, y: (import b).y}", "b", "{y: (import c).z}", "c", "{z: (import a).x}")
	plain := papers("a", "import b", "b", "import c", "c", "import a")
	wantPaperCosts(t, []paperCost{
		{two, "a", "code 9", 4}, {two, "b", "code 9", 4}, {behind, "a", "{\"x\":1,\"y\":1}", 10}, {behind, "b", "{\"z\":1}", 7}, {beneath, "a", "{\"x\":1,\"y\":1}", 10}, {beneath, "b", "{\"y\":1}", 9},
		{fields, "a", "code 9", 7}, {fields, "b", "code 9", 7}, {items, "a", "[2,[2,2]]", 17}, {items, "b", "[2,2]", 14},
		{three, "a", "code 9", 6}, {three, "b", "code 9", 6}, {three, "c", "code 9", 6}, {round, "a", "{\"x\":1,\"y\":1}", 13}, {round, "b", "{\"y\":1}", 10}, {round, "c", "{\"z\":1}", 7}, {plain, "a", "code 9", 3}, {plain, "b", "code 9", 3}, {plain, "c", "code 9", 3},
	})
}

// Papers see nothing of who takes them in, and what they are given is not changed.
func TestPapersAreAlone(t *testing.T) {
	for _, c := range [][2]string{{"local x = 1; import b", "x"}, {"{x: 1, y: import b}.y", "self.x"}, {"(function(x) import b)(1)", "x"}} {
		if got := told(impl.PapersEval(papers("a", c[0], "b", c[1]), "a", impl.FuelMax)); got != "code 11 0" {
			t.Errorf("%s, %s: %s", c[0], c[1], got)
		}
	}
	list := papers("a", "[import b, \"ab\"]", "b", "\"cd\"", "c", "1")
	was := slices.Clone(list)
	all, _ := impl.PapersOf(list, list[0].Name)
	v, _, _ := impl.PapersEval(list, "a", impl.FuelMax)
	for _, name := range all {
		for _, paper := range list {
			if within(name, paper.Name) || within(name, paper.Text) {
				t.Errorf("%s shares the papers' memory", name)
			}
		}
	}
	for _, part := range valuesOf(&v) {
		if within(part.Text, list[0].Text) || within(part.Text, list[1].Text) {
			t.Errorf("%s shares the papers' memory", part.Text)
		}
	}
	all[0] = "?"
	_ = append(all, "??")
	again, _ := impl.PapersOf(list, "a")
	if !slices.Equal(list, was) || fmt.Sprint(again) != "[a b]" {
		t.Error(list, again)
	}
}
