package tests

import (
	"math/rand"
	"strings"
	"testing"

	"loop.example/chancery/impl"
)

func TestCodesOfParse(t *testing.T) {
	if got := [4]int{impl.ParseMore, impl.ParseSign, impl.ParseName, impl.ParseTree}; got != [4]int{11, 12, 13, 14} {
		t.Error(got)
	}
}

// mustRead reads a text that is an expression.
func mustRead(t *testing.T, text string) impl.Node {
	t.Helper()
	n, code, at := impl.Parse(text)
	if code != 0 || at != 0 {
		t.Fatalf("%q: %d at %d", text, code, at)
	}
	return n
}

// allBrackets is a tree as a text in which all that can be in brackets is.
func allBrackets(n impl.Node) string {
	var kids []string
	for _, kid := range n.Kids {
		kids = append(kids, allBrackets(kid))
	}
	list := func(from int) string { return strings.Join(kids[from:], ",") }
	switch n.Kind {
	case impl.NodeError:
		return "(error" + kids[0] + ")"
	case impl.NodeNot:
		return "(!" + kids[0] + ")"
	case impl.NodeMinus:
		return "(-" + kids[0] + ")"
	case impl.NodeTwo:
		return "(" + kids[0] + n.Text + kids[1] + ")"
	case impl.NodeIf:
		return "(if" + kids[0] + "then" + kids[1] + "else" + kids[2] + ")"
	case impl.NodeLocal:
		return "(local " + n.Text + "=" + kids[0] + ";" + kids[1] + ")"
	case impl.NodeFunc:
		last := len(n.Kids) - 1
		var names []string
		for _, kid := range n.Kids[:last] {
			names = append(names, kid.Text)
		}
		return "(function(" + strings.Join(names, ",") + ")" + kids[last] + ")"
	case impl.NodeCall:
		return "(" + kids[0] + "(" + list(1) + "))"
	case impl.NodeDot:
		return "(" + kids[0] + "." + n.Text + ")"
	case impl.NodeAt:
		return "(" + kids[0] + "[" + kids[1] + "])"
	case impl.NodeArray:
		return "([" + list(0) + "])"
	case impl.NodeFor:
		return "([" + kids[1] + "for " + n.Text + " in" + kids[0] + "])"
	case impl.NodeObject:
		return "({" + list(0) + "})"
	case impl.NodeField:
		return n.Text + []string{":", "::", "+:"}[n.Num.Man] + kids[0]
	case impl.NodeStd:
		return "(std." + n.Text + "(" + list(0) + "))"
	}
	return leafInBrackets(n)
}

func leafInBrackets(n impl.Node) string {
	switch n.Kind {
	case impl.NodeNum:
		return "(" + impl.DecText(n.Num) + ")"
	case impl.NodeText:
		return "(" + impl.QuotePut(n.Text) + ")"
	case impl.NodeName:
		return "(" + n.Text + ")"
	case impl.NodeSuper:
		return "(super." + n.Text + ")"
	case impl.NodeImport:
		return "(import " + n.Text + ")"
	}
	return "(" + []string{1: "null", 2: "true", 3: "false", 7: "self"}[n.Kind] + ")"
}

// reads asks that a text be read as a tree, or have too many tokens; and says whether it was read.
func reads(t *testing.T, text string, want impl.Node) bool {
	t.Helper()
	n, code, at := impl.Parse(text)
	if code == impl.LexMany {
		_, lexCode, lexAt := impl.Lex(text)
		if lexCode != code || lexAt != at || !impl.TreeSame(n, impl.Node{}) {
			t.Fatalf("%q: %d at %d", text, code, at)
		}
		return false
	}
	if code != 0 || at != 0 || !impl.TreeSame(n, want) {
		t.Fatalf("%q: %d at %d, or read otherwise: %+v", text, code, at, n)
	}
	return true
}

func TestP18Reads(t *testing.T) {
	count := 0
	for _, n := range forest() {
		if reads(t, allBrackets(n), n) {
			count++
		}
	}
	if count < 2000 {
		t.Errorf("only %d were read", count)
	}
}

func TestP18Signs(t *testing.T) {
	for _, c := range [][2]string{
		{"1 || 2 && 3", "((1)||((2)&&(3)))"}, {"1 && 2 || 3", "(((1)&&(2))||(3))"},
		{"a == b && c != d", "(((a)==(b))&&((c)!=(d)))"}, {"a < b == c >= d", "(((a)<(b))==((c)>=(d)))"},
		{"a + b <= c - d", "(((a)+(b))<=((c)-(d)))"}, {"a + b * c - d / e % f", "(((a)+((b)*(c)))-(((d)/(e))%(f)))"},
		{"a - b + c - d", "((((a)-(b))+(c))-(d))"}, {"a == b != c == d", "((((a)==(b))!=(c))==(d))"}, {"a < b <= c > d >= e", "(((((a)<(b))<=(c))>(d))>=(e))"},
		{"a || b || c", "(((a)||(b))||(c))"}, {"a && b && c", "(((a)&&(b))&&(c))"}, {"a - (b - c)", "((a)-((b)-(c)))"},
		{"-a * !b", "((-(a))*(!(b)))"}, {"- - !a.b", "(-(-(!((a).b))))"}, {"-1 .a[2](3)", "(-((((1).a)[(2)])((3))))"},
		{"a * b || c == d + e && f < g", "(((a)*(b))||(((c)==((d)+(e)))&&((f)<(g))))"},
		{"f(a)(b, c,)[d].e()", "((((((f)((a)))((b),(c)))[(d)]).e)())"},
		{"error a + error_", "(error((a)+(error_)))"}, {"if a || b then c else d || e", "(if((a)||(b))then(c)else((d)||(e)))"},
		{"function(a, b,) a + b", "(function(a,b)((a)+(b)))"}, {"function () 1", "(function()(1))"}, {"local a = b; a + 1", "(local a=(b);((a)+(1)))"},
		{"local a = local b = 1; b; a", "(local a=(local b=(1);(b));(a))"}, {"if a then if b then c else d else e", "(if(a)then(if(b)then(c)else(d))else(e))"},
		{"error if a then b else error c", "(error(if(a)then(b)else(error(c))))"},
		{"[1, [2,], []]", "([(1),([(2)]),([])])"}, {"[a + b for c in d + e]", "([((a)+(b))for c in((d)+(e))])"}, {"[local a = 1; a for b in c]", "([(local a=(1);(a))for b in(c)])"},
		{"[[a for b in c] for d in [e]]", "([([(a)for b in(c)])for d in([(e)])])"},
		{"{a: 1, b :: 2, c +: 3,}", "({a:(1),b::(2),c+:(3)})"}, {"{a: if b then c else d, e: f}", "({a:(if(b)then(c)else(d)),e:(f)})"},
		{"import a.b", "((import a).b)"}, {"super.a.b", "((super.a).b)"}, {"self.a", "((self).a)"}, {"self[super . a]", "((self)[(super.a)])"},
		{"std.length(a) + std . fold ( a , b , c , )", "((std.length((a)))+(std.fold((a),(b),(c))))"}, {"std.keys(a).b", "((std.keys((a))).b)"},
		{"null == true", "((null)==(true))"}, {"\"local\" + \"{\"", "((\"local\")+(\"{\"))"}, {"((((1))))", "(1)"}, {"1.50", "(1.5)"}, {"100000000", "(100000000)"},
		{"a # + b\n.c", "((a).c)"}, {"nulls", "(nulls)"}, {"self_", "(self_)"},
	} {
		if got := allBrackets(mustRead(t, c[0])); got != c[1] {
			t.Errorf("%s: %s instead of %s", c[0], got, c[1])
		}
	}
}

// wrongTexts is texts that are no expression, the code, and what stands ahead of the place.
var wrongTexts = []struct {
	text  string
	code  int
	ahead string
}{
	// a code of Lex stands ahead of all
	{"1 2 $", impl.LexSign, "1 2 "}, {") \"a", impl.LexOpen, ") "}, {"then 1.", impl.LexNum, "then "}, {"1.x", impl.LexNum, ""},
	{"( \"\\q\"", impl.LexSign, "( "}, {"a b abcdefghijklm", impl.LexSign, "a b "},
	// an atom must begin, and it is the end
	{"", impl.ParseMore, ""}, {"  ", impl.ParseMore, "  "}, {"# a", impl.ParseMore, "# a"}, {"f(", impl.ParseMore, "f("}, {"f(1,", impl.ParseMore, "f(1,"},
	{"[", impl.ParseMore, "["}, {"[1, ", impl.ParseMore, "[1, "}, {"(", impl.ParseMore, "("}, {"a[", impl.ParseMore, "a["}, {"1 +", impl.ParseMore, "1 +"}, {"1 + 2 *  ", impl.ParseMore, "1 + 2 *  "},
	{"!", impl.ParseMore, "!"}, {"-", impl.ParseMore, "-"}, {"error", impl.ParseMore, "error"}, {"if", impl.ParseMore, "if"}, {"if a then", impl.ParseMore, "if a then"},
	{"if a then b else", impl.ParseMore, "if a then b else"}, {"local a =", impl.ParseMore, "local a ="}, {"local a = 1;", impl.ParseMore, "local a = 1;"},
	{"function()", impl.ParseMore, "function()"}, {"[a for b in", impl.ParseMore, "[a for b in"}, {"{a:", impl.ParseMore, "{a:"}, {"{a::", impl.ParseMore, "{a::"}, {"{a+:", impl.ParseMore, "{a+:"},
	{"std.length(", impl.ParseMore, "std.length("}, {"std.map(a,", impl.ParseMore, "std.map(a,"},
	// no atom begins so
	{")", impl.ParseSign, ""}, {" ]", impl.ParseSign, " "}, {"}", impl.ParseSign, ""}, {",", impl.ParseSign, ""}, {":", impl.ParseSign, ""}, {"::a", impl.ParseSign, ""}, {";", impl.ParseSign, ""},
	{".a", impl.ParseSign, ""}, {"+ 1", impl.ParseSign, ""}, {"* 1", impl.ParseSign, ""}, {"= 1", impl.ParseSign, ""}, {"1 + + 2", impl.ParseSign, "1 + "}, {"1 + * 2", impl.ParseSign, "1 + "},
	{"()", impl.ParseSign, "("}, {"[,]", impl.ParseSign, "["}, {"[1,,2]", impl.ParseSign, "[1,"}, {"f(,)", impl.ParseSign, "f("}, {"f(1,,)", impl.ParseSign, "f(1,"}, {"a[]", impl.ParseSign, "a["},
	{"std.length(,)", impl.ParseSign, "std.length("}, {"if then a else b", impl.ParseName, "if "}, {"{a: }", impl.ParseSign, "{a: "}, {"{a: , b: 1}", impl.ParseSign, "{a: "}, {"local a = ; a", impl.ParseSign, "local a = "},
	{"error ;", impl.ParseSign, "error "}, {"function() )", impl.ParseSign, "function() "}, {"! ]", impl.ParseSign, "! "}, {"- }", impl.ParseSign, "- "}, {"[a for b in ]", impl.ParseSign, "[a for b in "},
	// a sign or word must stand there
	{"local a 1; a", impl.ParseSign, "local a "}, {"local a == 1; a", impl.ParseSign, "local a "}, {"local a", impl.ParseSign, "local a"}, {"local a = 1 a", impl.ParseSign, "local a = 1 "}, {"local a = 1, a", impl.ParseSign, "local a = 1"}, {"local a = 1", impl.ParseSign, "local a = 1"},
	{"local a \"=\" 1; a", impl.ParseSign, "local a "}, {"if a b else c", impl.ParseSign, "if a "}, {"if a", impl.ParseSign, "if a"}, {"if a else b", impl.ParseSign, "if a "}, {"if a then b", impl.ParseSign, "if a then b"}, {"if a then b then c", impl.ParseSign, "if a then b "},
	{"if a \"then\" b else c", impl.ParseSign, "if a "}, {"function a", impl.ParseSign, "function "}, {"function", impl.ParseSign, "function"}, {"function(a", impl.ParseSign, "function(a"}, {"function(a b) a", impl.ParseSign, "function(a "}, {"function(a; b) a", impl.ParseSign, "function(a"},
	{"(1", impl.ParseSign, "(1"}, {"(1, 2)", impl.ParseSign, "(1"}, {"(1]", impl.ParseSign, "(1"}, {"a[1", impl.ParseSign, "a[1"}, {"a[1, 2]", impl.ParseSign, "a[1"}, {"a[1)", impl.ParseSign, "a[1"}, {"f(1", impl.ParseSign, "f(1"}, {"f(1 2)", impl.ParseSign, "f(1 "}, {"f(1]", impl.ParseSign, "f(1"},
	{"[1", impl.ParseSign, "[1"}, {"[1 2]", impl.ParseSign, "[1 "}, {"[1; 2]", impl.ParseSign, "[1"}, {"[1, 2", impl.ParseSign, "[1, 2"}, {"[1, 2 for a in b]", impl.ParseSign, "[1, 2 "}, {"[1, 2 3]", impl.ParseSign, "[1, 2 "}, {"[1)", impl.ParseSign, "[1"},
	{"[a for b", impl.ParseSign, "[a for b"}, {"[a for b c]", impl.ParseSign, "[a for b "}, {"[a for b = c]", impl.ParseSign, "[a for b "}, {"[a for b in c", impl.ParseSign, "[a for b in c"}, {"[a for b in c, d]", impl.ParseSign, "[a for b in c"}, {"[a for b in c,]", impl.ParseSign, "[a for b in c"}, {"[a for b in c for d in e]", impl.ParseSign, "[a for b in c "}, {"[a, for b in c]", impl.ParseName, "[a, "},
	{"{a", impl.ParseSign, "{a"}, {"{a 1}", impl.ParseSign, "{a "}, {"{a = 1}", impl.ParseSign, "{a "}, {"{a}", impl.ParseSign, "{a"}, {"{a + : 1}", impl.ParseSign, "{a "}, {"{a: 1", impl.ParseSign, "{a: 1"}, {"{a: 1 b: 2}", impl.ParseSign, "{a: 1 "}, {"{a: 1; b: 2}", impl.ParseSign, "{a: 1"}, {"{a: 1]", impl.ParseSign, "{a: 1"}, {"{a: :1}", impl.ParseSign, "{a: "},
	{"super", impl.ParseSign, "super"}, {"super[a]", impl.ParseSign, "super"}, {"super a", impl.ParseSign, "super "}, {"std", impl.ParseSign, "std"}, {"std length(a)", impl.ParseSign, "std "}, {"std(a)", impl.ParseSign, "std"}, {"std.length", impl.ParseSign, "std.length"}, {"std.length a", impl.ParseSign, "std.length "}, {"std.length[a]", impl.ParseSign, "std.length"},
	{"std.length(a", impl.ParseSign, "std.length(a"}, {"std.map(a b)", impl.ParseSign, "std.map(a "}, {"std.map(a; b)", impl.ParseSign, "std.map(a"},
	// something stands behind the whole
	{"1 2", impl.ParseSign, "1 "}, {"a b", impl.ParseSign, "a "}, {"a \"b\"", impl.ParseSign, "a "}, {"a)", impl.ParseSign, "a"}, {"[1]]", impl.ParseSign, "[1]"}, {"{} {}", impl.ParseSign, "{} "}, {"a = b", impl.ParseSign, "a "}, {"a, b", impl.ParseSign, "a"}, {"a; b", impl.ParseSign, "a"}, {"a !b", impl.ParseSign, "a "}, {"a : b", impl.ParseSign, "a "},
	{"a then", impl.ParseSign, "a "}, {"a if b", impl.ParseSign, "a "}, {"a for b in c", impl.ParseSign, "a "}, {"1 \"+\" 2", impl.ParseSign, "1 "}, {"[1,2,3,4,5,6,7,8,9] 0", impl.ParseSign, "[1,2,3,4,5,6,7,8,9] "}, {"a null", impl.ParseSign, "a "}, {"a local b = 1; c", impl.ParseSign, "a "},
	// there must be a name
	{"local", impl.ParseName, "local"}, {"local 1 = 2; 3", impl.ParseName, "local "}, {"local if = 2; 3", impl.ParseName, "local "}, {"local \"a\" = 2; 3", impl.ParseName, "local "}, {"local = 1; 2", impl.ParseName, "local "}, {"local std = 1; 2", impl.ParseName, "local "},
	{"a.", impl.ParseName, "a."}, {"a.1", impl.ParseName, "a."}, {"a.if", impl.ParseName, "a."}, {"a.\"b\"", impl.ParseName, "a."}, {"a..b", impl.ParseName, "a."}, {"a.self", impl.ParseName, "a."}, {"1 .+", impl.ParseName, "1 ."},
	{"function(", impl.ParseName, "function("}, {"function(1)", impl.ParseName, "function("}, {"function(,)", impl.ParseName, "function("}, {"function(a,,) a", impl.ParseName, "function(a,"}, {"function(a, 1) a", impl.ParseName, "function(a, "}, {"function(self) a", impl.ParseName, "function("}, {"function((a)) a", impl.ParseName, "function("}, {"function(a,", impl.ParseName, "function(a,"}, {"function(\"a\") a", impl.ParseName, "function("},
	{"[a for", impl.ParseName, "[a for"}, {"[a for 1 in b]", impl.ParseName, "[a for "}, {"[a for in b]", impl.ParseName, "[a for "}, {"[for a in b]", impl.ParseName, "["},
	{"{", impl.ParseName, "{"}, {"{1: 2}", impl.ParseName, "{"}, {"{,}", impl.ParseName, "{"}, {"{a: 1,,}", impl.ParseName, "{a: 1,"}, {"{a: 1, ", impl.ParseName, "{a: 1, "}, {"{\"a\": 1}", impl.ParseName, "{"}, {"{if: 1}", impl.ParseName, "{"}, {"{null: 1}", impl.ParseName, "{"}, {"{]", impl.ParseName, "{"}, {"{:1}", impl.ParseName, "{"},
	{"import", impl.ParseName, "import"}, {"import 1", impl.ParseName, "import "}, {"import \"a\"", impl.ParseName, "import "}, {"import if", impl.ParseName, "import "}, {"import (a)", impl.ParseName, "import "}, {"super.", impl.ParseName, "super."}, {"super.1", impl.ParseName, "super."}, {"super.super", impl.ParseName, "super."},
	{"std.", impl.ParseName, "std."}, {"std.1(a)", impl.ParseName, "std."}, {"std.if(a)", impl.ParseName, "std."}, {"std.\"map\"(a)", impl.ParseName, "std."},
	{"then", impl.ParseName, ""}, {"else", impl.ParseName, ""}, {"for", impl.ParseName, ""}, {"in", impl.ParseName, ""}, {"1 + if a then b else c", impl.ParseName, "1 + "}, {"1 + local a = 1; a", impl.ParseName, "1 + "}, {"1 || function() 1", impl.ParseName, "1 || "}, {"-error a", impl.ParseName, "-"}, {"!if a then b else c", impl.ParseName, "!"}, {"a * error b", impl.ParseName, "a * "}, {"f(then)", impl.ParseName, "f("}, {"[in]", impl.ParseName, "["},
	// no such function of so many, told behind the bracket
	{"std.length()", impl.ParseTree, "std.length()"}, {"std.foo()", impl.ParseTree, "std.foo()"}, {"std.foo(a)", impl.ParseTree, "std.foo(a)"}, {"std.length(a, b)", impl.ParseTree, "std.length(a, b)"}, {"std.map(a)", impl.ParseTree, "std.map(a)"}, {"std.map(a, b, c)", impl.ParseTree, "std.map(a, b, c)"}, {"std.fold(a, b)", impl.ParseTree, "std.fold(a, b)"}, {"std.fold(a, b, c, d,)", impl.ParseTree, "std.fold(a, b, c, d,)"},
	{"std.length() + 1", impl.ParseTree, "std.length() "}, {"std.foo() + 1", impl.ParseTree, "std.foo() "}, {"[std.keys() then", impl.ParseTree, "[std.keys() "}, {"(std.length_(a)", impl.ParseTree, "(std.length_(a)"}, {"std.lengt(a) # b", impl.ParseTree, "std.lengt(a) # b"},
	// what is read is no tree that is ok, told at the end
	{"[1,2,3,4,5,6,7,8,9]", impl.ParseTree, "[1,2,3,4,5,6,7,8,9]"}, {"[1,2,3,4,5,6,7,8,9]  ", impl.ParseTree, "[1,2,3,4,5,6,7,8,9]  "}, {"f(1,2,3,4,5,6,7,8) + 1", impl.ParseTree, "f(1,2,3,4,5,6,7,8) + 1"}, {"function(a, a) 1", impl.ParseTree, "function(a, a) 1"}, {"function(a,b,c,d,e,f,g,h) 1", impl.ParseTree, "function(a,b,c,d,e,f,g,h) 1"}, {"{a: 1, a:: 2}", impl.ParseTree, "{a: 1, a:: 2}"}, {"[{a: 1, b: 2, a+: 3}, 4]", impl.ParseTree, "[{a: 1, b: 2, a+: 3}, 4]"},
	{"{a:1,b:1,c:1,d:1,e:1,f:1,g:1,h:1,i:1}", impl.ParseTree, "{a:1,b:1,c:1,d:1,e:1,f:1,g:1,h:1,i:1}"},
}

func TestP18Codes(t *testing.T) {
	for _, c := range wrongTexts {
		n, code, at := impl.Parse(c.text)
		if code != c.code || at != len(c.ahead) || !impl.TreeSame(n, impl.Node{}) {
			t.Errorf("%q: %d at %d instead of %d at %d", c.text, code, at, c.code, len(c.ahead))
		}
		if !strings.HasPrefix(c.text, c.ahead) {
			t.Errorf("%q does not begin with %q", c.text, c.ahead)
		}
	}
}

func TestP18Limits(t *testing.T) {
	for i, c := range []struct {
		text string
		code int
		at   int
	}{
		{strings.Repeat("!", 19) + "a", 0, 0}, {strings.Repeat("!", 20) + "a", impl.ParseTree, 21},
		{"1" + strings.Repeat("+1", 19), 0, 0}, {"1" + strings.Repeat("+1", 20), impl.ParseTree, 41}, {"a" + strings.Repeat(" .a", 20), impl.ParseTree, 61},
		{strings.Repeat("(", 140) + "1" + strings.Repeat(")", 140), 0, 0},
		{"[" + strings.Repeat("[1,1,1,1,1,1,1,1],", 8) + "]", 0, 0},
		{"f" + strings.Repeat("(2,2,2,2,2,2,2)", 19), 0, 0}, {"f" + strings.Repeat("(2,2,2,2,2,2,2,)", 19), impl.LexMany, 300},
		{"\"" + strings.Repeat("a", 1498) + "\"", 0, 0}, {"\"" + strings.Repeat("a", 1499) + "\"", impl.LexMany, 0}, {strings.Repeat(" ", 1499) + "1", 0, 0}, {strings.Repeat(" ", 1500) + "1", impl.LexMany, 0},
		{strings.Repeat("(", 150) + "1" + strings.Repeat(")", 149), impl.ParseSign, 300}, {strings.Repeat("(", 150) + "1" + strings.Repeat(")", 150), impl.LexMany, 300}, {strings.Repeat("(", 300), impl.ParseMore, 300}, {strings.Repeat("{", 300), impl.ParseName, 1},
	} {
		n, code, at := impl.Parse(c.text)
		if code != c.code || at != c.at || impl.TreeOk(n) != (code == 0) {
			t.Errorf("%d: %d at %d", i, code, at)
		}
	}
}

// The nodes of a tree that is read are counted: a text of 200 is read, one of 201 is not.
func TestP18Size(t *testing.T) {
	row := "!!!!!!!!!!!!!!!!!1"                              // 18 nodes
	text := "[[" + strings.Repeat(row+",", 7) + row + "]," + // 146 of them
		row + "," + row + "," + row
	if n := mustRead(t, text+"]"); impl.TreeSize(n) != 200 {
		t.Fatal(impl.TreeSize(n))
	}
	over := text + ",1]"
	if _, code, at := impl.Parse(over); code != impl.ParseTree || at != len(over) {
		t.Fatal(code, at)
	}
}

// soundCode asks that what is told of a text be a tree that is ok and read back, or a code with a place in it.
func soundCode(t *testing.T, text string) int {
	t.Helper()
	n, code, at := impl.Parse(text)
	if code == 0 {
		if at != 0 || !impl.TreeOk(n) {
			t.Fatalf("%q: at %d, %+v", text, at, n)
		}
		reads(t, impl.Show(n), n)
		return code
	}
	if at < 0 || at > len(text) || !impl.TreeSame(n, impl.Node{}) {
		t.Fatalf("%q: %d at %d, %+v", text, code, at, n)
	}
	_, lexCode, lexAt := impl.Lex(text)
	if (code < 10) != (lexCode != 0) || lexCode != 0 && (code != lexCode || at != lexAt) {
		t.Fatalf("%q: %d at %d, but Lex %d at %d", text, code, at, lexCode, lexAt)
	}
	return code
}

// cutAndMixed is texts of trees with tokens taken out, put in, or others in their place.
func cutAndMixed() []string {
	r := rand.New(rand.NewSource(11))
	extra := strings.Fields(words + " " + signs + " a b 1 2.5 length \"t\"")
	var out []string
	for _, n := range forest() {
		tokens, code, _ := impl.Lex(impl.Show(n))
		if code != 0 || len(tokens) > 60 {
			continue
		}
		var pieces []string
		for _, token := range tokens {
			pieces = append(pieces, sourceOf(token))
		}
		i := r.Intn(len(pieces))
		other := extra[r.Intn(len(extra))]
		head, tail := strings.Join(pieces[:i], " "), strings.Join(pieces[i+1:], " ")
		out = append(out, head+" "+tail, head+" "+other+" "+tail, head+" "+pieces[i]+" "+other+" "+tail, head)
	}
	return out
}

func TestP18Mixed(t *testing.T) {
	counts := map[int]int{}
	for _, text := range cutAndMixed() {
		counts[soundCode(t, text)]++
	}
	for _, code := range []int{0, impl.ParseMore, impl.ParseSign, impl.ParseName, impl.ParseTree} {
		if counts[code] < 20 {
			t.Errorf("code %d only %d times", code, counts[code])
		}
	}
	for _, text := range textsOf([]string{"a", "1 ", ".", "[", "]", "(", ")", ",", "-", "{", ":", "}", " for ", " in "}, 4) {
		soundCode(t, text)
	}
}

// What stands behind the first token that does not fit does not matter.
func TestP18FirstFromTheLeft(t *testing.T) {
	for _, text := range cutAndMixed() {
		_, code, at := impl.Parse(text)
		if code < 10 || at >= len(text) {
			continue
		}
		tokens, _, _ := impl.Lex(text[at:])
		end := at + tokens[1].At
		for _, tail := range []string{"", " ) ] } then 5", " , a", " ; : std . ("} {
			if _, again, where := impl.Parse(text[:end] + tail); again != code || where != at {
				t.Fatalf("%q: %d at %d, but %q: %d at %d", text, code, at, text[:end]+tail, again, where)
			}
		}
	}
}

func TestP19Around(t *testing.T) {
	for _, n := range forest() {
		text := impl.Show(n)
		if len(text) > impl.TextMax {
			continue
		}
		for _, wide := range []string{" " + text, text + " ", "\n\t " + text + "\t\n ", "# x\n" + text + "# y", "(" + text + ")", "( " + text + "\n)", "((" + text + "))"} {
			reads(t, wide, n)
		}
	}
}

func TestP19WrongAround(t *testing.T) {
	for _, c := range wrongTexts {
		if c.code < 10 {
			continue
		}
		if _, code, at := impl.Parse("  " + c.text); code != c.code || at != len(c.ahead)+2 {
			t.Errorf("%q with blanks ahead: %d at %d", c.text, code, at)
		}
	}
}

func TestP20Brackets(t *testing.T) {
	for _, n := range forest() {
		text := impl.Show(n)
		tokens, code, _ := impl.Lex(text)
		if code != 0 {
			continue
		}
		for _, wrong := range []string{"(" + text, "[" + text, "{" + text, text + ")", text + "]", text + "}"} {
			if tree, code, at := impl.Parse(wrong); code == 0 || at < 0 || at > len(wrong) || !impl.TreeSame(tree, impl.Node{}) {
				t.Fatalf("%q is read", wrong)
			}
		}
		open := 0
		for _, token := range tokens {
			if open > 0 {
				if _, code, at := impl.Parse(text[:token.At]); code == 0 || at > token.At {
					t.Fatalf("%q is read", text[:token.At])
				}
			}
			open += bracketStep(token)
		}
	}
}

// bracketStep is 1 for a bracket that opens, -1 for one that ends.
func bracketStep(token impl.Token) int {
	if token.Kind == impl.TokSign && strings.Contains("([{", token.Text) {
		return 1
	}
	if token.Kind == impl.TokSign && strings.Contains(")]}", token.Text) {
		return -1
	}
	return 0
}
