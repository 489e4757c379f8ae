package impl

import (
	"errors"
	"strconv"
	"strings"
)

// Limits of texts.
const (
	TextMax  = 1500
	TokenMax = 300
	NameMax  = 12
)

// Kinds of tokens.
const (
	TokName = 1
	TokNum  = 2
	TokText = 3
	TokSign = 4
	TokEnd  = 5
)

// Codes of texts that are wrong.
const (
	LexSign = 1
	LexOpen = 2
	LexNum  = 3
	LexMany = 4
)

// The figures of a byte behind a stroke and x.
const hexFigures = "0123456789abcdef"

// lexSigns has a sign ahead of each one that is its beginning, as the first that fits is taken.
var lexSigns = [...]string{
	"::", "+:", "<=", ">=", "==", "!=", "&&", "||",
	"{", "}", "[", "]", "(", ")", ",", ":", ";", ".",
	"+", "-", "*", "/", "%", "<", ">", "!", "=",
}

// Token is a piece of a text, and where it begins.
type Token struct {
	Kind int
	Text string
	At   int
}

// Lex cuts a text into tokens; or a code, and where.
func Lex(text string) ([]Token, int, int) {
	reader := lexReader{text: text, state: readNext}
	err := reader.run()
	var fault lexFault
	if errors.As(err, &fault) {
		return nil, fault.code, fault.at
	}
	return reader.tokens, 0, 0
}

// NameOk says whether a text is a name.
func NameOk(text string) bool {
	if text == "" || len(text) > NameMax || !isLetter(text[0]) {
		return false
	}
	return runLength(text, isNamePart) == len(text) && !isWord(text)
}

// QuotePut is a text between quotes.
func QuotePut(text string) string {
	return paperQuoting().put(text)
}

// QuoteGet reads a text between quotes.
func QuoteGet(text string) (string, bool) {
	got, size := paperQuoting().get(text)
	if size == 0 || size < len(text) {
		return "", false
	}
	return got, true
}

// lexFault is a code of Lex, and where.
type lexFault struct {
	code int
	at   int
}

// Error tells the code and the place.
func (f lexFault) Error() string {
	return "code " + strconv.Itoa(f.code) + " at " + strconv.Itoa(f.at)
}

// lexReader goes through a text; its state is what it does where it stands, none at the end.
type lexReader struct {
	text   string
	at     int
	tokens []Token
	state  func(*lexReader) error
}

// run goes from state to state up to the end, or to the first fault.
func (r *lexReader) run() error {
	if len(r.text) > TextMax {
		return lexFault{code: LexMany}
	}
	for r.state != nil {
		if err := r.state(r); err != nil {
			return err
		}
	}
	return nil
}

// rest is what has not been read yet.
func (r *lexReader) rest() string {
	return r.text[r.at:]
}

// fault is an error at the token that begins here.
func (r *lexReader) fault(code int) error {
	return lexFault{code: code, at: r.at}
}

// put keeps a token of so many bytes that begins here, and goes on behind it.
func (r *lexReader) put(kind int, text string, size int) error {
	if len(r.tokens) == TokenMax {
		return r.fault(LexMany)
	}
	r.tokens = append(r.tokens, Token{Kind: kind, Text: text, At: r.at})
	r.at += size
	r.state = readNext
	return nil
}

// readNext passes over a run of blanks, or chooses by its first byte how to read what stands here.
func readNext(r *lexReader) error {
	rest := r.rest()
	switch {
	case rest == "":
		r.state = readEnd
	case isBlank(rest[0]):
		r.at += runLength(rest, isBlank)
	case rest[0] == '#':
		r.at += runLength(rest, isRemarkPart)
	case isLetter(rest[0]):
		r.state = readName
	case isFigure(rest[0]):
		r.state = readNum
	case rest[0] == '"':
		r.state = readText
	default:
		r.state = readSign
	}
	return nil
}

// readEnd puts the end behind all tokens; it is not counted among them.
func readEnd(r *lexReader) error {
	r.tokens = append(r.tokens, Token{Kind: TokEnd, At: r.at})
	r.state = nil
	return nil
}

// readName reads letters and figures, words among them.
func readName(r *lexReader) error {
	size := runLength(r.rest(), isNamePart)
	if size > NameMax {
		return r.fault(LexSign)
	}
	return r.put(TokName, r.copied(size), size)
}

// readNum reads all that touches a figure, so that nothing is cut off from a number that is none.
func readNum(r *lexReader) error {
	size := runLength(r.rest(), isNumPart)
	text := r.copied(size)
	if _, ok := DecRead(text); !ok {
		return r.fault(LexNum)
	}
	return r.put(TokNum, text, size)
}

// readText reads a text between quotes.
func readText(r *lexReader) error {
	size := quotedLength(r.rest())
	if size == 0 {
		return r.fault(LexOpen)
	}
	text, ok := QuoteGet(r.rest()[:size])
	if !ok {
		return r.fault(LexSign)
	}
	return r.put(TokText, text, size)
}

// readSign reads the first sign that stands here.
func readSign(r *lexReader) error {
	for _, sign := range lexSigns {
		if strings.HasPrefix(r.rest(), sign) {
			return r.put(TokSign, sign, len(sign))
		}
	}
	return r.fault(LexSign)
}

// copied is so many bytes from here on, as a text that shares nothing with the one that is read.
func (r *lexReader) copied(size int) string {
	return strings.Clone(r.rest()[:size])
}

// quotedLength is how many bytes there are from a quote to the one that ends
// it; 0, if there is none, or the line ends ahead of it.
func quotedLength(text string) int {
	for i := 1; i < len(text); i++ {
		switch text[i] {
		case '"':
			return i + 1
		case '\n':
			return 0
		case '\\':
			i++ // the byte behind a stroke ends nothing
		}
	}
	return 0
}

// runLength is how many bytes a text begins with that are all of one sort.
func runLength(text string, isSort func(byte) bool) int {
	size := 0
	for size < len(text) && isSort(text[size]) {
		size++
	}
	return size
}

// isBlank says whether a byte is passed over between tokens.
func isBlank(b byte) bool {
	return b == ' ' || b == '\n' || b == '\t'
}

// isRemarkPart says whether a remark goes on with a byte.
func isRemarkPart(b byte) bool {
	return b != '\n'
}

// isLetter says whether a name may begin with a byte.
func isLetter(b byte) bool {
	return 'a' <= b && b <= 'z' || b == '_'
}

// isNamePart says whether a name may go on with a byte.
func isNamePart(b byte) bool {
	return isLetter(b) || isFigure(b)
}

// isNumPart says whether what begins with a figure goes on with a byte.
func isNumPart(b byte) bool {
	return isNamePart(b) || b == '.'
}

// isWord says whether a text is a word of the language, and so no name.
func isWord(text string) bool {
	switch text {
	case "null", "true", "false", "if", "then", "else", "local", "function",
		"self", "super", "error", "import", "for", "in", "std":
		return true
	}
	return false
}

// quoting is how bytes that do not stand for themselves are written between quotes.
type quoting struct {
	hex     string // what stands ahead of the two figures of any byte
	marks   string // what may stand behind a stroke
	bytes   string // what each of the marks is read as
	written int    // how many of the marks, from the first on, are written, too
}

// paperQuoting is how texts stand in papers.
func paperQuoting() quoting {
	return quoting{hex: `\x`, marks: `"\n`, bytes: "\"\\\n", written: 3}
}

// put is a text between quotes.
func (q quoting) put(text string) string {
	var out strings.Builder
	out.WriteByte('"')
	for i := range len(text) {
		q.putByte(&out, text[i])
	}
	out.WriteByte('"')
	return out.String()
}

// putByte writes a byte as it stands between quotes.
func (q quoting) putByte(out *strings.Builder, b byte) {
	if standsForItself(b) {
		out.WriteByte(b)
		return
	}
	if mark := strings.IndexByte(q.bytes[:q.written], b); mark >= 0 {
		out.WriteByte('\\')
		out.WriteByte(q.marks[mark])
		return
	}
	out.WriteString(q.hex)
	out.WriteByte(hexFigures[b/16])
	out.WriteByte(hexFigures[b%16])
}

// get is the text between two quotes that a text begins with, and how many
// bytes it is written with; 0, if it does not begin so.
func (q quoting) get(text string) (string, int) {
	if !strings.HasPrefix(text, `"`) {
		return "", 0
	}
	var out strings.Builder
	for at := 1; at < len(text); {
		if text[at] == '"' {
			return out.String(), at + 1
		}
		b, size := q.getByte(text[at:])
		if size == 0 {
			return "", 0
		}
		out.WriteByte(b)
		at += size
	}
	return "", 0
}

// getByte is the byte that a text, not empty, begins with, as it stands
// between quotes, and how many bytes it is written with; 0, if it is not written so.
func (q quoting) getByte(text string) (byte, int) {
	if standsForItself(text[0]) {
		return text[0], 1
	}
	if figures, found := strings.CutPrefix(text, q.hex); found {
		if b, ok := hexByte(figures); ok {
			return b, len(q.hex) + 2
		}
		return 0, 0
	}
	if text[0] != '\\' || len(text) < 2 {
		return 0, 0
	}
	if mark := strings.IndexByte(q.marks, text[1]); mark >= 0 {
		return q.bytes[mark], 2
	}
	return 0, 0
}

// standsForItself says whether a byte is written between quotes as it is.
func standsForItself(b byte) bool {
	return 32 <= b && b <= 126 && b != '"' && b != '\\'
}

// hexByte is the byte of the two figures that a text begins with.
func hexByte(text string) (byte, bool) {
	if len(text) < 2 {
		return 0, false
	}
	high := strings.IndexByte(hexFigures, text[0])
	low := strings.IndexByte(hexFigures, text[1])
	if high < 0 || low < 0 {
		return 0, false
	}
	return byte(high*16 + low), true
}
