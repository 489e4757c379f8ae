package tests

import (
	"fmt"
	"math/rand"
	"regexp"
	"slices"
	"strings"
	"testing"

	"loop.example/chancery/impl"
)

const words = "null true false if then else local function self super error import for in std"

// signs is in the order of the document.
const signs = ":: +: <= >= == != && || { } [ ] ( ) , : ; . + - * / % < > ! ="

// everyByte is a text of all bytes there are.
func everyByte() string {
	out := make([]byte, 256)
	for i := range out {
		out[i] = byte(i)
	}
	return string(out)
}

// textsOf is all texts of at most so many of these pieces.
func textsOf(pieces []string, most int) []string {
	out, last := []string{""}, []string{""}
	for range most {
		var next []string
		for _, head := range last {
			for _, piece := range pieces {
				next = append(next, head+piece)
			}
		}
		out, last = append(out, next...), next
	}
	return out
}

func TestLimitsAndKindsOfTokens(t *testing.T) {
	if got := [3]int{impl.TextMax, impl.TokenMax, impl.NameMax}; got != [3]int{1500, 300, 12} {
		t.Error(got)
	}
	if got := [5]int{impl.TokName, impl.TokNum, impl.TokText, impl.TokSign, impl.TokEnd}; got != [5]int{1, 2, 3, 4, 5} {
		t.Error(got)
	}
	if got := [4]int{impl.LexSign, impl.LexOpen, impl.LexNum, impl.LexMany}; got != [4]int{1, 2, 3, 4} {
		t.Error(got)
	}
}

func TestP11QuoteBack(t *testing.T) {
	texts := append(textsOf([]string{"a", "\"", "\\", "\n", "x", "n", "\x00", "\xff", "0"}, 4), everyByte(), strings.Repeat("\\", 5000))
	for _, text := range texts {
		quoted := impl.QuotePut(text)
		if back, ok := impl.QuoteGet(quoted); back != text || !ok {
			t.Fatalf("%q is read back from %s as %q %v", text, quoted, back, ok)
		}
		list, code, at := impl.Lex(quoted)
		if len(quoted) <= impl.TextMax && (code != 0 || at != 0 || len(list) != 2 || list[0] != (impl.Token{Kind: impl.TokText, Text: text})) {
			t.Fatalf("%s is cut into %+v, %d at %d", quoted, list, code, at)
		}
	}
}

func TestP11QuotePut(t *testing.T) {
	for i := range 256 {
		b := byte(i)
		want := fmt.Sprintf("\"\\x%02x\"", b)
		switch {
		case b == '\n':
			want = `"\n"`
		case b == '"':
			want = `"\""`
		case b == '\\':
			want = `"\\"`
		case 32 <= b && b <= 126:
			want = "\"" + string(rune(b)) + "\""
		}
		if got := impl.QuotePut(string([]byte{b})); got != want {
			t.Errorf("QuotePut of byte %d: %s, want %s", i, got, want)
		}
		any := fmt.Sprintf("\"\\x%02x\"", b)
		if got, ok := impl.QuoteGet(any); !ok || got != string([]byte{b}) {
			t.Errorf("QuoteGet of %s: %q %v", any, got, ok)
		}
	}
	if got := impl.QuotePut(""); got != `""` {
		t.Errorf("QuotePut of nothing: %s", got)
	}
}

func TestP11QuoteGetRefuses(t *testing.T) {
	wrong := []string{
		``, `"`, `a`, `ab`, `"a`, `a"`, `a""`, `""a`, ` ""`, `"" `, `"a"b"`, `"""`, `"\"`, `"\\\"`, `"\`, `\"\"`, `'a'`,
		`"\q"`, `"\t"`, `"\r"`, `"\N"`, `"\X41"`, `"\x"`, `"\x4"`, `"\x4g"`, `"\xg4"`, `"\x4A"`, `"\xA4"`, `"\x 4"`, `"\x4"1"`, `"\u0041"`, `"\/"`, "\"\\\n\"", "\"\\\x00\"",
	}
	for i := range 256 {
		if b := byte(i); b < 32 || b > 126 {
			wrong = append(wrong, "\""+string([]byte{b})+"\"")
		}
	}
	for _, text := range wrong {
		if got, ok := impl.QuoteGet(text); ok || got != "" {
			t.Errorf("QuoteGet of %q: %q %v", text, got, ok)
		}
	}
}

func TestP12Name(t *testing.T) {
	for _, name := range []string{"a", "z", "_", "a1", "_1", "x_9z", "q0123456789_", "abcdefghijkl", "nul", "nulls", "iff", "_if", "in1", "stdx"} {
		if !impl.NameOk(name) {
			t.Errorf("%q is a name", name)
		}
		if longer := "q" + name; impl.NameOk(longer) != (len(longer) <= impl.NameMax) {
			t.Errorf("NameOk of %q", longer)
		}
	}
	for _, text := range strings.Fields(words) {
		if impl.NameOk(text) {
			t.Errorf("%q is a word", text)
		}
		if !impl.NameOk("q" + text) {
			t.Errorf("q%s is a name", text)
		}
	}
	for _, text := range []string{"", "1", "1a", "9_", "abcdefghijklm", "A", "aB", "a b", "a ", " a", "a.b", "a-b", "a\n", "a\x00", "\xe4", "a\xe4", "\"a\"", strings.Repeat("a", 2000)} {
		if impl.NameOk(text) {
			t.Errorf("%q is no name", text)
		}
	}
}

func TestP12NameBytes(t *testing.T) {
	for i := range 256 {
		b := byte(i)
		letter := 'a' <= b && b <= 'z' || b == '_'
		figure := '0' <= b && b <= '9'
		if got := impl.NameOk(string([]byte{b})); got != letter {
			t.Errorf("NameOk of byte %d: %v", i, got)
		}
		if got := impl.NameOk(string([]byte{'q', b})); got != (letter || figure) {
			t.Errorf("NameOk of q and byte %d: %v", i, got)
		}
	}
}

// lexed is what Lex answers, as a text.
func lexed(list []impl.Token, code, at int) string {
	return fmt.Sprintf("%#v %d %d", list, code, at)
}

var lexPieces = []struct {
	kind  int
	shape *regexp.Regexp
}{
	{0, regexp.MustCompile(`^(?:[ \n\t]|#[^\n]*)+`)},
	{impl.TokName, regexp.MustCompile(`^[a-z_][a-z_0-9]*`)},
	{impl.TokNum, regexp.MustCompile(`^[0-9][a-z_0-9.]*`)},
	{impl.TokText, regexp.MustCompile(`^(?s:"(?:[^"\\\n]|\\.)*")`)},
	{impl.TokSign, regexp.MustCompile(`^(?:::|\+:|<=|>=|==|!=|&&|\|\||[{}\[\](),:;.+\-*/%<>!=])`)},
}

// pieceOf is what the document's table takes from the left of a text; nothing, if nothing fits.
func pieceOf(text string) (int, string) {
	for _, p := range lexPieces {
		if found := p.shape.FindString(text); found != "" {
			return p.kind, found
		}
	}
	return 0, ""
}

// pieceCode is what is wrong with a piece, and its Text.
func pieceCode(kind int, piece string, rest string) (int, string) {
	switch kind {
	case impl.TokName:
		if len(piece) > 12 {
			return impl.LexSign, ""
		}
	case impl.TokNum:
		if _, ok := impl.DecRead(piece); !ok {
			return impl.LexNum, ""
		}
	case impl.TokText:
		inner, ok := impl.QuoteGet(piece)
		if !ok {
			return impl.LexSign, ""
		}
		return 0, inner
	case 0:
		if strings.HasPrefix(rest, "\"") {
			return impl.LexOpen, ""
		}
		return impl.LexSign, ""
	}
	return 0, piece
}

// lexAgain cuts a text by the shapes of its pieces.
func lexAgain(text string) ([]impl.Token, int, int) {
	if len(text) > 1500 {
		return nil, impl.LexMany, 0
	}
	var list []impl.Token
	for at := 0; at < len(text); {
		kind, piece := pieceOf(text[at:])
		if kind != 0 || piece == "" {
			code, inner := pieceCode(kind, piece, text[at:])
			if code == 0 && len(list) == 300 {
				code = impl.LexMany
			}
			if code != 0 {
				return nil, code, at
			}
			list = append(list, impl.Token{Kind: kind, Text: inner, At: at})
		}
		at += len(piece)
	}
	return append(list, impl.Token{Kind: impl.TokEnd, At: len(text)}), 0, 0
}

// lexTexts is texts whose tokens touch in many ways, with and without codes.
func lexTexts() []string {
	out := textsOf([]string{"a", "1", ".", "\"", "\\", "\n", "#", " ", ":", "+", "=", "&", "|", "!", "\t", "\r", "A"}, 4)
	pieces := append(strings.Fields(words+" "+signs), "a", "x1", "_", "abcdefghijkl", "0", "1.5", "12", "1.", "01", "\"", "\"q\"", `"\\"`, `"\""`, `\`, `"\x41"`, `"\z"`, " ", "\n", "\t", "# x\n", "#", "&", "|", "$", "\xff", "abcdefghijklm")
	random := rand.New(rand.NewSource(1))
	for range 20000 {
		var text strings.Builder
		for range random.Intn(12) {
			text.WriteString(pieces[random.Intn(len(pieces))])
		}
		out = append(out, text.String())
	}
	return out
}

func TestP13Lex(t *testing.T) {
	for _, text := range lexTexts() {
		got, want := lexed(impl.Lex(text)), lexed(lexAgain(text))
		if got != want {
			t.Fatalf("Lex of %q: %s, want %s", text, got, want)
		}
	}
}

func TestP13Tokens(t *testing.T) {
	for _, text := range lexTexts() {
		list, code, at := impl.Lex(text)
		if code != 0 {
			if list != nil || at < 0 || at >= len(text) {
				t.Fatalf("Lex of %q: %+v, %d at %d", text, list, code, at)
			}
			continue
		}
		last := len(list) - 1
		if list[last] != (impl.Token{Kind: impl.TokEnd, At: len(text)}) || at != 0 {
			t.Fatalf("Lex of %q ends with %+v, 0 at %d", text, list[last], at)
		}
		for i, token := range list[:last] {
			if token.At >= list[i+1].At {
				t.Fatalf("Lex of %q: %+v is not ahead of %+v", text, token, list[i+1])
			}
			alone, code, _ := impl.Lex(sourceOf(token))
			if code != 0 || len(alone) != 2 || alone[0].Kind != token.Kind || alone[0].Text != token.Text {
				t.Fatalf("%+v alone is %+v, %d", token, alone, code)
			}
		}
	}
}

// sourceOf is a token as it stands in a text.
func sourceOf(token impl.Token) string {
	if token.Kind == impl.TokText {
		return impl.QuotePut(token.Text)
	}
	return token.Text
}

func TestP13Codes(t *testing.T) {
	for _, c := range []struct {
		text string
		code int
		at   int
	}{
		{"$", impl.LexSign, 0}, {"a $", impl.LexSign, 2}, {"&", impl.LexSign, 0}, {"a & &b", impl.LexSign, 2}, {"|", impl.LexSign, 0}, {"||&", impl.LexSign, 2},
		{"A", impl.LexSign, 0}, {"aB", impl.LexSign, 1}, {"1A", impl.LexSign, 1}, {"a\r", impl.LexSign, 1}, {"\x00", impl.LexSign, 0}, {"a\xc3\xa4", impl.LexSign, 1}, {"'a'", impl.LexSign, 0}, {"\\", impl.LexSign, 0},
		{"abcdefghijklm", impl.LexSign, 0}, {" abcdefghijkl1", impl.LexSign, 1}, {strings.Repeat("a", 1500), impl.LexSign, 0},
		{`"\q"`, impl.LexSign, 0}, {`a "\x4"`, impl.LexSign, 2}, {"\"\\\n\"", impl.LexSign, 0}, {"\"a\tb\"", impl.LexSign, 0}, {"\"\xff\"", impl.LexSign, 0}, {`"a" "\X41"`, impl.LexSign, 4},
		{`"`, impl.LexOpen, 0}, {`a "b`, impl.LexOpen, 2}, {`"a\"`, impl.LexOpen, 0}, {`"a\\\"`, impl.LexOpen, 0}, {`"\`, impl.LexOpen, 0}, {`"a""`, impl.LexOpen, 3}, {`"\q`, impl.LexOpen, 0},
		{"\"a\nb\"", impl.LexOpen, 0}, {"\"\\q\n\"", impl.LexOpen, 0}, {"\"\\\\\n\"", impl.LexOpen, 0}, {"\"\\\n", impl.LexOpen, 0}, {"\"\\\n\n\"", impl.LexOpen, 0}, {"\"a # b", impl.LexOpen, 0},
		{"1.2.3", impl.LexNum, 0}, {"a 01", impl.LexNum, 2}, {"1.", impl.LexNum, 0}, {"1a", impl.LexNum, 0}, {"1_", impl.LexNum, 0}, {"3.x", impl.LexNum, 0}, {"-1..2", impl.LexNum, 1}, {"123456789", impl.LexNum, 0}, {"0.000000001", impl.LexNum, 0},
		{"01 $", impl.LexNum, 0}, {"$ 01", impl.LexSign, 0}, {"\" 01", impl.LexOpen, 0},
	} {
		if list, code, at := impl.Lex(c.text); list != nil || code != c.code || at != c.at {
			t.Errorf("Lex of %q: %+v, %d at %d; want %d at %d", c.text, list, code, at, c.code, c.at)
		}
	}
}

func TestP13Many(t *testing.T) {
	full := strings.Repeat("1 ", 300)
	for _, c := range []struct {
		text string
		code int
		at   int
	}{
		{strings.Repeat(" ", 1501), impl.LexMany, 0}, {"$" + strings.Repeat(" ", 1500), impl.LexMany, 0}, {strings.Repeat("\"", 1501), impl.LexMany, 0},
		{full + "a", impl.LexMany, 600}, {full + "  ,", impl.LexMany, 602}, {full + "\"\" $", impl.LexMany, 600}, {full + "1 01", impl.LexMany, 600}, {strings.Repeat("+", 301), impl.LexMany, 300},
		{full + "$", impl.LexSign, 600}, {full + " \"", impl.LexOpen, 601}, {full + "01", impl.LexNum, 600}, {full + "abcdefghijklm", impl.LexSign, 600}, {full + `"\q"`, impl.LexSign, 600},
		{"$" + full + "1", impl.LexSign, 0},
	} {
		if list, code, at := impl.Lex(c.text); list != nil || code != c.code || at != c.at {
			t.Errorf("Lex of %q: %d at %d; want %d at %d", c.text, code, at, c.code, c.at)
		}
	}
	for _, text := range []string{full, full + "# 1 1 1", full + "\n", strings.Repeat("+", 300)} {
		if list, code, at := impl.Lex(text); code != 0 || at != 0 || len(list) != 301 {
			t.Errorf("Lex of 300 tokens: %d, %d at %d", len(list), code, at)
		}
	}
	long := "\"" + strings.Repeat("a", 1498) + "\""
	if list, code, _ := impl.Lex(long); code != 0 || len(list) != 2 || list[1].At != 1500 {
		t.Errorf("Lex of 1500 bytes: %d, %d", len(list), code)
	}
}

func TestP13Signs(t *testing.T) {
	for _, sign := range strings.Fields(signs) {
		want := lexed([]impl.Token{{Kind: impl.TokSign, Text: sign}, {Kind: impl.TokEnd, At: len(sign)}}, 0, 0)
		if got := lexed(impl.Lex(sign)); got != want {
			t.Errorf("Lex of %s: %s", sign, got)
		}
	}
	for _, c := range []struct{ text, want string }{
		{":::", ":: :"}, {"::::", ":: ::"}, {"+::", "+: :"}, {":+:", ": +:"}, {"<==", "<= ="}, {"===", "== ="}, {"=<=", "= <="}, {"!==", "!= ="}, {"!!=", "! !="},
		{"&&&&", "&& &&"}, {"||||", "|| ||"}, {"+-", "+ -"}, {"a+:1", "a +: 1"}, {"a.b", "a . b"}, {"a.1", "a . 1"}, {"-1.5", "- 1.5"}, {"1-2", "1 - 2"}, {".5", ". 5"}, {"[1].a", "[ 1 ] . a"},
		{"a1b2", "a1b2"}, {"if", "if"}, {"iff null", "iff null"}, {`"\\"a`, `\ a`}, {`"\\\""a`, `\" a`}, {`"a""b"`, "a b"}, {"a#b\nc", "a c"}, {"a # \"\n#\n\tb#", "a b"}, {"", ""}, {" \n\t#", ""}, {`"#"`, "#"},
	} {
		list, code, _ := impl.Lex(c.text)
		var texts []string
		for _, token := range list[:max(len(list)-1, 0)] {
			texts = append(texts, token.Text)
		}
		if got := strings.Join(texts, " "); got != c.want || code != 0 {
			t.Errorf("Lex of %q: %q, %d; want %q", c.text, got, code, c.want)
		}
	}
}

// withoutPlaces is tokens by Kind and Text.
func withoutPlaces(list []impl.Token) []impl.Token {
	out := slices.Clone(list)
	for i := range out {
		out[i].At = 0
	}
	return out
}

func TestP14Blanks(t *testing.T) {
	for _, text := range lexTexts() {
		list, code, _ := impl.Lex(text)
		if code != 0 {
			continue
		}
		var pieces []string
		for _, token := range list {
			pieces = append(pieces, sourceOf(token))
		}
		for _, gap := range []string{" ", "\n", "\t", "#\n", " # \" ' $ A \xff\n", "\n\n\t  #a#b\n #c\n"} {
			wide := gap + strings.Join(pieces, gap) + gap + "# end"
			again, code, at := impl.Lex(wide)
			if code != 0 || !slices.Equal(withoutPlaces(again), withoutPlaces(list)) {
				t.Fatalf("Lex of %q: %+v, %d at %d; want %+v", wide, again, code, at, list)
			}
		}
	}
}

func TestLexKeepsNothing(t *testing.T) {
	const text = "a + 1"
	first, _, _ := impl.Lex(text)
	want := lexed(impl.Lex(text))
	second, code, at := impl.Lex(text)
	spare := first[:cap(first)]
	for i := range spare {
		spare[i] = impl.Token{Kind: 9, Text: "x", At: 9}
	}
	if got := lexed(second, code, at); got != want {
		t.Errorf("a list changes with another one: %s", got)
	}
	if got := lexed(impl.Lex(text)); got != want {
		t.Errorf("Lex answers otherwise then: %s", got)
	}
}
