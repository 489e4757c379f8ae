package tests

import (
	"encoding/json"
	"fmt"
	"io"
	"math/rand"
	"regexp"
	"slices"
	"strings"

	"loop.example/chancery/impl"
)

func numValue(man, exp int) impl.Value {
	return impl.Value{Kind: impl.ValueNum, Num: impl.Dec{Man: man, Exp: exp}}
}

func textValue(text string) impl.Value {
	return impl.Value{Kind: impl.ValueText, Text: text}
}

func arrayValue(items ...impl.Value) impl.Value {
	return impl.Value{Kind: impl.ValueArray, Items: items}
}

// objectValue is an object of names with blanks between, and as many items.
func objectValue(names string, items ...impl.Value) impl.Value {
	return impl.Value{Kind: impl.ValueObject, Names: strings.Fields(names), Items: items}
}

// copyValue is a value that shares nothing with another one.
func copyValue(v impl.Value) impl.Value {
	out := impl.Value{Kind: v.Kind, Num: v.Num, Text: strings.Clone(v.Text)}
	for _, item := range v.Items {
		out.Items = append(out.Items, copyValue(item))
	}
	for _, name := range v.Names {
		out.Names = append(out.Names, strings.Clone(name))
	}
	return out
}

// valuesOf is all values in a value, itself first.
func valuesOf(v *impl.Value) []*impl.Value {
	out := []*impl.Value{v}
	for i := range v.Items {
		out = append(out, valuesOf(&v.Items[i])...)
	}
	return out
}

// plainValues is values without any in them.
func plainValues() []impl.Value {
	return []impl.Value{
		{}, {Kind: impl.ValueTrue}, {Kind: impl.ValueFalse},
		numValue(0, 0), numValue(-1, 0), numValue(25, -1), numValue(-25, -1), numValue(impl.ManMax, impl.ExpMax), numValue(-impl.ManMax, impl.ExpMax), numValue(1, -impl.ExpMax), numValue(-1, -impl.ExpMax),
		textValue(""), textValue("null"), textValue("[1,\"a\":{}]"), textValue("\\\"/\\u0041\b\f\n\r\t"), textValue("\x00\x1f ~\x7f\x80\xff"), textValue("é€"), textValue(everyByte()),
		arrayValue(), objectValue(""),
	}
}

// valuesWith is values of each kind that have a value right in them, at several places.
func valuesWith(v impl.Value) []impl.Value {
	one := numValue(1, 0)
	return []impl.Value{
		arrayValue(v), arrayValue(v, one), arrayValue(one, v), arrayValue(one, v, v),
		objectValue("a", v), objectValue("a b", v, one), objectValue("_ a a1 ab z9_", one, v, one, v, one),
	}
}

// grownValue is a value that hangs on a source of numbers alone.
func grownValue(r *rand.Rand, deep int) impl.Value {
	if deep == 1 || r.Intn(5) == 0 {
		plain := plainValues()
		return plain[r.Intn(len(plain))]
	}
	ways := valuesWith(grownValue(r, deep-1))
	out := copyValue(ways[r.Intn(len(ways))])
	out.Items[r.Intn(len(out.Items))] = grownValue(r, deep-1)
	return out
}

// values is values of all kinds, in all kinds, and some that are greater, all of them ok.
func values() []impl.Value {
	out := plainValues()
	for _, v := range plainValues() {
		for _, outer := range valuesWith(v) {
			out = append(out, outer)
			out = append(out, valuesWith(outer)...)
		}
	}
	r := rand.New(rand.NewSource(7))
	for i := range 300 {
		out = append(out, grownValue(r, 2+i%5))
	}
	out = append(out, tower(20), heap(200), arrayValue(textValue(strings.Repeat("\x00", 1500)), textValue("a")))
	for _, v := range out {
		if why := whyNoValue(v); why != "" {
			panic("there is a value that is wrong: " + why)
		}
	}
	return out
}

// tower is a value so deep, arrays and objects by turns.
func tower(deep int) impl.Value {
	out := numValue(1, 0)
	for i := range deep - 1 {
		out = []impl.Value{arrayValue(out), objectValue("a", out)}[i%2]
	}
	return out
}

// heap is a value of so many values, at least 2, three deep at most.
func heap(size int) impl.Value {
	out := objectValue("a b", arrayValue(), arrayValue())
	for i := range size - 3 {
		out.Items[i%2].Items = append(out.Items[i%2].Items, numValue(i%10, 0))
	}
	return out
}

// whyNoValue says what is wrong with a value, by the words of the document; empty, if nothing is.
func whyNoValue(v impl.Value) string {
	size, deep := sizeAndDeepOf(v)
	if size > 200 || deep > 20 {
		return fmt.Sprint("size ", size, " deep ", deep)
	}
	for _, part := range valuesOf(&v) {
		if why := whyNoPart(*part); why != "" {
			return why
		}
	}
	return ""
}

func sizeAndDeepOf(v impl.Value) (int, int) {
	size, deep := 1, 0
	for _, item := range v.Items {
		s, d := sizeAndDeepOf(item)
		size, deep = size+s, max(deep, d)
	}
	return size, deep + 1
}

// whyNoPart says what is wrong with a value, but for those in it.
func whyNoPart(v impl.Value) string {
	switch {
	case v.Kind < 0 || v.Kind > 6:
		return "kind"
	case v.Num != (impl.Dec{}) && v.Kind != 3 || !impl.DecOk(v.Num):
		return "number"
	case v.Text != "" && v.Kind != 4 || len(v.Text) > 1500:
		return "text"
	case len(v.Items) > 0 && v.Kind != 5 && v.Kind != 6:
		return "items"
	case len(v.Names) > 0 && v.Kind != 6 || v.Kind == 6 && len(v.Names) != len(v.Items):
		return "names"
	case !slices.IsSorted(v.Names) || len(slices.Compact(slices.Clone(v.Names))) != len(v.Names):
		return "order"
	}
	if slices.ContainsFunc(v.Names, func(name string) bool { return !impl.NameOk(name) }) {
		return "no name"
	}
	return ""
}

// wrongValues is values that are not ok, each kind of wrongness at the top and further in.
func wrongValues() []impl.Value {
	one := numValue(1, 0)
	bare := []impl.Value{{Kind: -1}, {Kind: 7}, numValue(10, 0), numValue(0, 1), numValue(impl.ManMax+1, 0), numValue(-impl.ManMax-1, 0), numValue(1, impl.ExpMax+1), numValue(1, -impl.ExpMax-1), textValue(strings.Repeat("a", 1501))}
	for kind := range 7 {
		if kind != impl.ValueNum {
			bare = append(bare, impl.Value{Kind: kind, Num: impl.Dec{Man: 1}})
		}
		if kind != impl.ValueText {
			bare = append(bare, impl.Value{Kind: kind, Text: "a"})
		}
		if kind != impl.ValueObject {
			bare = append(bare, impl.Value{Kind: kind, Names: []string{"a"}}, impl.Value{Kind: kind, Items: []impl.Value{one}, Names: []string{"a"}})
		}
		if kind != impl.ValueArray {
			bare = append(bare, impl.Value{Kind: kind, Items: []impl.Value{one}})
		}
	}
	for _, names := range []string{"b a", "a a", "ab a", "a b a", "a", "a b", "a b c d", "if a b", "a null z", "a b std", "A a b", "a b9 c.d", "a b é", "1 a b", "a abcdefghijklm b"} {
		items := []impl.Value{one, one, one}
		if count := len(strings.Fields(names)); names[0] == 'b' || count == 2 && names != "a b" {
			items = items[:count]
		}
		bare = append(bare, objectValue(names, items...))
	}
	bare = append(bare, impl.Value{Kind: impl.ValueObject, Names: []string{""}, Items: []impl.Value{one}}, objectValue("a"))
	out := slices.Clone(bare)
	for _, v := range bare {
		out = append(out, arrayValue(one, v), objectValue("a b", v, one), arrayValue(objectValue("a", v)))
	}
	return append(out, tower(21), heap(201), sharedValue(70), endlessValue())
}

// sharedValue has two items that are the same, so deep: more values than can be gone through one by one.
func sharedValue(deep int) impl.Value {
	out := numValue(1, 0)
	for range deep - 1 {
		out = arrayValue(out, out)
	}
	return out
}

// endlessValue stands in itself.
func endlessValue() impl.Value {
	items := []impl.Value{numValue(1, 0), arrayValue()}
	items[1].Items = items
	return arrayValue(items...)
}

// pieceOfJson is what JSON of the document is made of, blanks aside.
const pieceOfJson = `[\[\]{},:]|null|true|false|-?(?:0|[1-9][0-9]*)(?:\.[0-9]+)?|"(?:[ !#-\[\]-~]|\\["\\/bfnrt]|\\u00[0-9a-f]{2})*"`

// jsonPiece is one piece; jsonPieces any number of them, well put together or not.
var (
	jsonPiece  = regexp.MustCompile(pieceOfJson)
	jsonPieces = regexp.MustCompile(`^(?:[ \t\n\r]|` + pieceOfJson + `)*$`)
)

// jsonAgain reads a value from JSON in another way: the library's reader, of texts that are made of those pieces.
func jsonAgain(text string) (impl.Value, bool) {
	if len(text) > 12000 || !jsonPieces.MatchString(text) || !json.Valid([]byte(text)) {
		return impl.Value{}, false
	}
	decoder := json.NewDecoder(strings.NewReader(text))
	decoder.UseNumber()
	v, ok := decoded(decoder)
	if _, err := decoder.Token(); err != io.EOF || !ok || whyNoValue(v) != "" {
		return impl.Value{}, false
	}
	return v, true
}

// decoded reads a value token by token; false, if a number has no room, or a name stands there twice.
func decoded(decoder *json.Decoder) (impl.Value, bool) {
	token, err := decoder.Token()
	if err != nil {
		return impl.Value{}, false
	}
	switch x := token.(type) {
	case bool:
		return impl.Value{Kind: map[bool]int{true: 1, false: 2}[x]}, true
	case json.Number:
		num, ok := impl.DecRead(string(x))
		return impl.Value{Kind: 3, Num: num}, ok
	case string:
		return impl.Value{Kind: 4, Text: bytesOf(x)}, true
	case json.Delim:
		return decodedItems(decoder, x == '{')
	}
	return impl.Value{}, true
}

func decodedItems(decoder *json.Decoder, named bool) (impl.Value, bool) {
	fields := map[string]impl.Value{}
	out := impl.Value{Kind: 5}
	for decoder.More() {
		name := ""
		if named {
			token, _ := decoder.Token()
			name = bytesOf(token.(string))
			if _, twice := fields[name]; twice {
				return out, false
			}
		}
		item, ok := decoded(decoder)
		if !ok {
			return out, false
		}
		fields[name] = item
		out.Items = append(out.Items, item)
	}
	decoder.Token()
	if named {
		out = impl.Value{Kind: 6}
		for name := range fields {
			out.Names = append(out.Names, name)
		}
		slices.Sort(out.Names)
		for _, name := range out.Names {
			out.Items = append(out.Items, fields[name])
		}
	}
	return out, true
}

// bytesOf is a text of a byte for each sign of another one.
func bytesOf(text string) string {
	var out []byte
	for _, sign := range text {
		out = append(out, byte(sign))
	}
	return string(out)
}
