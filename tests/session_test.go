package tests

import (
	"fmt"
	"math/rand"
	"regexp"
	"slices"
	"strings"
	"testing"

	"loop.example/chancery/impl"
)

// wantAnswers holds a session against lines and answers, by turns.
func wantAnswers(t *testing.T, words ...string) {
	t.Helper()
	var lines []string
	want := ""
	for i := 0; i+1 < len(words); i += 2 {
		lines = append(lines, words[i])
		want += words[i+1] + "\n"
	}
	was := slices.Clone(lines)
	if got := impl.Session(lines); got != want {
		t.Errorf("%q: %q instead of %q", lines, got, want)
	}
	if !slices.Equal(lines, was) {
		t.Errorf("%q were written into", was)
	}
}

func TestP72Example(t *testing.T) {
	wantAnswers(t,
		"paper base {name: \"b\", port:: 80, url: self.name + \":\" + std.text(self.port), list: [1, 2.50]}", "ok",
		"paper main import base + {port: super.port + 0.5, list+: [3], all: [n * 2 for n in self.list if]}", "ok",
		"eval main", "fault 11",
		"paper main import base + {port: super.port + 0.5, list+: [3], all: [n * 2 for n in self.list]}", "ok",
		"eval main", "{\"all\":[2,5,6],\"list\":[1,2.5,3],\"name\":\"b\",\"port\":80.5,\"url\":\"b:80.5\"}",
		"wide base", "{\n  \"list\": [\n    1,\n    2.5\n  ],\n  \"name\": \"b\",\n  \"url\": \"b:80\"\n}",
		"toml base", "list = [1,2.5]\nname = \"b\"\nurl = \"b:80\"\n",
		"paper sys {a: {x: 1, y: \"q\"}, b: true}", "ok",
		"toml sys", "b = true\n[a]\nx = 1\ny = \"q\"\n",
		"eval lost", "fault 11",
		"calc local f = function(n) if n < 2 then 1 else n * f(n - 1); [f(n) for n in std.range(7)]", "[1,1,2,6,24,120,720]",
		"calc 1 / 3 + 0.1", "0.43333333", "calc 10 / 0", "fault 6", "calc {a: 1}.b", "fault 4", "calc local q = q; q", "fault 9",
		"calc std.fold(function(m, n) m + n, [1, 2, 3], 0) == 6 && !false", "true",
		"show (1+2)*-(3.0).x", "(1 + 2) * -(3).x", "small if a then \"b\\n\" else [ c , d ]", "if a then\"b\\n\"else[c,d]",
		"calc [1, 2", "wrong 12 at 5", "calc error \"no\"", "fault 10", "what", "what",
	)
}

// Each word, with each of its answers.
func TestP72Words(t *testing.T) {
	wantAnswers(t, "paper a 1", "ok", "paper A 1", "no", "paper if 1", "no", "paper abcdefghijklm 1", "no", "paper abcdefghijkl 1", "ok", "paper b-c 1", "no",
		"eval a", "1", "wide a", "1", "toml a", "no toml", "eval abcdefghijkl", "1", "eval b", "fault 11", "wide b", "fault 11", "toml b", "fault 11", "eval A", "fault 11")
	wantAnswers(t, "paper a [1 / 0, error \"x\"]", "ok", "eval a", "fault 6", "wide a", "fault 6", "toml a", "fault 6", "paper b {x: [null], y: {}}", "ok", "eval b", "{\"x\":[null],\"y\":{}}", "wide b", "{\n  \"x\": [\n    null\n  ],\n  \"y\": {}\n}", "toml b", "no toml", "paper c {y: {}}", "ok", "toml c", "[y]\n", "paper d {}", "ok", "toml d", "", "wide d", "{}", "paper d {x:: 1}", "ok", "eval d", "{}")
	wantAnswers(t, "paper a local f = function(n) f(n); f(1)", "ok", "eval a", "fault 2", "calc local f = function(n) f(n); f(1)", "fault 2", "calc x", "fault 12", "show x", "x", "small x + y", "x+y", "calc self.a", "fault 12", "calc import a", "fault 11", "calc [1, import a][0]", "1", "calc function(x) x", "fault 3", "calc 1 2", "wrong 12 at 2", "calc $", "wrong 1 at 0", "calc \"a", "wrong 2 at 0", "calc 1e5", "wrong 3 at 0", "calc 1 +", "wrong 11 at 3", "calc {1", "wrong 13 at 1", "calc std.x(1)", "wrong 14 at 8",
		"show 1 +", "wrong 11 at 3", "small 1 +", "wrong 11 at 3", "show \"a\" [0]", "\"a\"[0]", "show # x", "wrong 11 at 3", "calc {b: 2, a: \"x\"}", "{\"a\":\"x\",\"b\":2}", "calc \"\\n\"", "\"\\u000a\"")
	long := strings.Repeat(" ", impl.TextMax-1) + "1"
	wantAnswers(t, "paper a "+long, "ok", "eval a", "1", "paper a "+long+" ", "no", "eval a", "1", "calc "+long, "1", "calc "+long+" ", "wrong 4 at 0", "show "+long+" ", "wrong 4 at 0", "small "+strings.Repeat("a ", 301), "wrong 4 at 600")
	quoted := "\"" + strings.Repeat("a", impl.TextMax-2) + "\""
	wantAnswers(t, "small "+quoted, quoted, "show "+quoted, quoted)
	// shown, it has blanks, and too many bytes to be cut into tokens
	quoted = quoted[:impl.TextMax-5] + "\""
	wantAnswers(t, "small ["+quoted+",1]", "", "show ["+quoted+",1]", "["+quoted+", 1]")
}

// Lines without a blank, with two, and with nothing behind the blank.
func TestP72Blanks(t *testing.T) {
	wantAnswers(t, "", "what", " ", "what", "  ", "what", "paper", "what", "eval", "what", "wide", "what", "toml", "what", "show", "what", "small", "what", "calc", "what",
		"paper ", "what", "paper a", "what", "eval a", "fault 11", "paper a ", "ok", "eval a", "fault 11", "paper  ", "no", "paper  1", "no", "paper  a 1", "no", "eval ", "fault 11", "wide ", "fault 11", "toml ", "fault 11", "show ", "wrong 11 at 0", "small ", "wrong 11 at 0", "calc ", "wrong 11 at 0")
	wantAnswers(t, "paper a  1", "ok", "eval a", "1", "eval  a", "fault 11", "eval a ", "fault 11", "wide  a", "fault 11", "toml a ", "fault 11", "show  1", "1", "calc  1 ", "1", "small   1  +  2 ", "1+2", "paper a 2 ", "ok", "eval a", "2", " eval a", "what", " paper b 1", "what", "Eval a", "what", "evals a", "what", "ev al a", "what", "eval\ta", "what", "calc\t1", "what", "calc\n1", "what", "calc \n1\t", "1", "paper\ta 1", "what", "paper a\t1", "what", "paper a\t 1", "no", "paper a \n3", "ok", "eval a", "3", "eval a\n", "fault 11", "eval a a", "fault 11", "\x00", "what", "\xff 1", "what")
}

// Papers that are put anew, that take themselves in, and that take in others that are not there, or no more than six.
func TestP72Papers(t *testing.T) {
	wantAnswers(t, "eval a", "fault 11", "paper a 1", "ok", "eval a", "1", "paper a 2", "ok", "eval a", "2", "paper a (", "ok", "eval a", "fault 11", "paper a 3", "ok", "eval a", "3", "paper b import a", "ok", "eval b", "3", "paper a 4", "ok", "eval b", "4", "paper a import b", "ok", "eval b", "fault 9", "eval a", "fault 9", "paper b import c", "ok", "eval a", "fault 11", "paper c 5", "ok", "eval a", "5", "toml a", "no toml")
	wantAnswers(t, "paper a import a", "ok", "eval a", "fault 9", "wide a", "fault 9", "toml a", "fault 9", "paper a {x: 1, y: (import a).x}", "ok", "eval a", "{\"x\":1,\"y\":1}", "toml a", "x = 1\ny = 1\n", "paper a {x: import a}", "ok", "eval a", "fault 7", "paper a [(import a)[0]]", "ok", "eval a", "fault 9", "paper a import lost", "ok", "eval a", "fault 11", "paper a x", "ok", "eval a", "fault 11", "paper a self.x", "ok", "eval a", "fault 11")
	wantAnswers(t, "paper f 1", "ok", "paper b 2", "ok", "paper d 3", "ok", "paper a 4", "ok", "paper e 5", "ok", "paper c 6", "ok", "paper g 7", "no", "paper a_ 7", "no", "eval g", "fault 11", "eval a", "4", "eval f", "1", "paper c [import a, import b, import d, import e, import f]", "ok", "eval c", "[4,2,3,5,1]", "paper A 1", "no", "paper f 8", "ok", "eval c", "[4,2,3,5,8]", "paper a 0", "ok", "eval c", "[0,2,3,5,8]")
}

// Each line is answered with the papers that are there then, not with those of lines behind it.
func TestP72Order(t *testing.T) {
	var words []string
	for i := range 10 {
		words = append(words, fmt.Sprintf("paper a local f = function(n) if n < 1 then %d else f(n - 1); [f(x) for x in std.range(30)][29]", i), "ok", "eval a", fmt.Sprint(i), fmt.Sprintf("paper b [import a, %d]", 10*i), "ok", "eval b", fmt.Sprintf("[%d,%d]", i, 10*i))
	}
	for range 20 {
		wantAnswers(t, words...)
	}
}

func TestP72FortyLines(t *testing.T) {
	if got := impl.Session(nil) + impl.Session([]string{}); got != "" {
		t.Errorf("%q", got)
	}
	for count := 1; count <= 45; count++ {
		var lines []string
		want := ""
		for i := range count {
			lines = append(lines, fmt.Sprint("calc ", i))
			if i < 40 {
				want += fmt.Sprint(i, "\n")
			}
		}
		if got := impl.Session(lines); got != want {
			t.Errorf("%d lines: %q", count, got)
		}
		if got := impl.Session(make([]string, count)); got != strings.Repeat("what\n", min(count, 40)) {
			t.Errorf("%d empty lines: %q", count, got)
		}
	}
	if got := impl.Session(make([]string, 100000)); got != strings.Repeat("what\n", 40) {
		t.Errorf("%q", got)
	}
}

var (
	paperLine = regexp.MustCompile(`(?s)^paper ([^ ]*) (.*)$`)
	otherLine = regexp.MustCompile(`(?s)^(eval|wide|toml|show|small|calc) (.*)$`)
)

// sessionAgain is a session in another way: one line behind the other, papers by name.
func sessionAgain(lines []string) string {
	out := ""
	texts := map[string]string{}
	for _, line := range lines[:min(len(lines), 40)] {
		if parts := paperLine.FindStringSubmatch(line); parts != nil {
			old, there := texts[parts[1]]
			texts[parts[1]] = parts[2]
			if impl.NameOk(parts[1]) && len(parts[2]) <= 1500 && len(texts) <= 6 {
				out += "ok\n"
				continue
			}
			out += "no\n"
			texts[parts[1]] = old
			if !there {
				delete(texts, parts[1])
			}
			continue
		}
		answer := "what"
		if parts := otherLine.FindStringSubmatch(line); parts != nil {
			answer = answerAgain(texts, parts[1], parts[2])
		}
		out += answer + "\n"
	}
	return out
}

// answerAgain is what a word is answered of what stands behind it.
func answerAgain(texts map[string]string, word, rest string) string {
	var v impl.Value
	var code int
	if slices.Contains([]string{"eval", "wide", "toml"}, word) {
		var list []impl.Paper
		for name, text := range texts {
			list = append(list, impl.Paper{Name: name, Text: text})
		}
		slices.SortFunc(list, func(a, b impl.Paper) int { return strings.Compare(a.Name, b.Name) })
		v, code, _ = papersAgain(list, rest, 20000)
	} else {
		n, wrong, at := impl.Parse(rest)
		switch {
		case wrong > 0:
			return fmt.Sprintf("wrong %d at %d", wrong, at)
		case word == "show":
			return impl.Show(n)
		case word == "small":
			return impl.Small(n)
		}
		v, code, _ = impl.Eval(n, 20000)
	}
	if code > 0 {
		return fmt.Sprint("fault ", code)
	}
	switch word {
	case "wide":
		return wideOf(v)
	case "toml":
		if text, ok := tomlAgain(v); ok {
			return text
		}
		return "no toml"
	}
	return jsonOf(v)
}

// sessionLines is lines that hang on a source of numbers alone, some of which are wrong.
func sessionLines(r *rand.Rand, shelf []impl.Paper) []string {
	g := grower{r: r, papers: []string{"aa", "b", "c", "d1"}}
	names := []string{"aa", "b", "c", "d1", "e_", "f", "g", "if", "", "abcdefghijklm", "aa b"}
	var lines []string
	for _, paper := range shelf {
		lines = append(lines, "paper "+paper.Name+" "+paper.Text)
	}
	for len(lines) < 45 {
		name := names[r.Intn(6+r.Intn(6))]
		text := g.expression("object", 1+r.Intn(4))
		switch r.Intn(12) {
		case 0, 1, 2:
			lines = append(lines, "paper "+name+" "+text)
		case 3:
			lines = append(lines, "calc "+text, "show "+text, "small "+text)
		case 4:
			whole := "paper calc show small eval wide toml " + text
			from := r.Intn(37)
			lines = append(lines, whole[from:from+r.Intn(len(whole)-from)])
		case 5:
			lines = append(lines, "calc "+text[:r.Intn(len(text)+1)])
		default:
			lines = append(lines, []string{"eval ", "wide ", "toml ", "eval"}[min(r.Intn(20)/6, 3)]+name)
		}
	}
	return lines[:30+r.Intn(16)]
}

func TestP72Again(t *testing.T) {
	r := rand.New(rand.NewSource(41))
	starts := map[string]int{}
	for _, shelf := range shelves(43, 400) {
		lines := sessionLines(r, shelf)
		got, want := impl.Session(lines), sessionAgain(lines)
		if got != want {
			t.Fatalf("%q: %q instead of %q", lines, got, want)
		}
		for _, answer := range strings.Split(got, "\n") {
			start, _, _ := strings.Cut(answer, " ")
			starts[start]++
		}
	}
	for _, start := range []string{"ok", "no", "what", "fault", "wrong", "{"} {
		if starts[start] < 30 {
			t.Errorf("%d of %s", starts[start], start)
		}
	}
}

func TestP73CalcIsEval(t *testing.T) {
	held := 0
	for _, came := range grove() {
		text := impl.Show(came.tree)
		if len(text) > impl.TextMax || len(impl.Imports(came.tree)) > 0 {
			continue
		}
		if _, code, _ := impl.Parse(text); code != 0 {
			continue
		}
		answers := strings.Split(impl.Session([]string{"calc " + text, "paper a " + text, "eval a"}), "\n")
		want := jsonOf(came.value)
		if came.code != 0 {
			want = fmt.Sprint("fault ", came.code)
		}
		if !slices.Equal(answers, []string{want, "ok", want, ""}) {
			t.Fatalf("%s: %q instead of %s", text, answers, want)
		}
		held++
	}
	if held < 1000 {
		t.Error(held)
	}
}
