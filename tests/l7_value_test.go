package tests

import (
	"math"
	"math/rand"
	"strings"
	"testing"
	"unsafe"

	"loop.example/chancery/impl"
)

func TestKindsOfValues(t *testing.T) {
	kinds := []int{impl.ValueNull, impl.ValueTrue, impl.ValueFalse, impl.ValueNum, impl.ValueText, impl.ValueArray, impl.ValueObject}
	for i, kind := range kinds {
		if kind != i {
			t.Errorf("kind %d is %d", i, kind)
		}
	}
}

func TestP26Values(t *testing.T) {
	for _, v := range values() {
		if !impl.ValueOk(v) {
			t.Fatalf("%v is not ok", v)
		}
		size := 1
		for _, item := range v.Items {
			if !impl.ValueOk(item) {
				t.Fatalf("%v is not ok in %v", item, v)
			}
			size += impl.ValueSize(item)
		}
		if want, _ := sizeAndDeepOf(v); impl.ValueSize(v) != size || size != want {
			t.Fatalf("%v: %d, %d, %d", v, impl.ValueSize(v), size, want)
		}
	}
}

func TestP26Wrong(t *testing.T) {
	for i, v := range wrongValues() {
		if impl.ValueOk(v) {
			t.Errorf("%d: %v is ok", i, v)
		}
	}
}

// valueChanges is all ways in which a part of a value may be another one.
func valueChanges() []func(v *impl.Value) {
	out := []func(v *impl.Value){
		func(v *impl.Value) { v.Kind++ }, func(v *impl.Value) { v.Kind-- }, func(v *impl.Value) { v.Kind = 0 }, func(v *impl.Value) { v.Kind += 4 },
		func(v *impl.Value) { v.Num.Man++ }, func(v *impl.Value) { v.Num.Exp++ }, func(v *impl.Value) { v.Num.Exp = -9 },
		func(v *impl.Value) { v.Text += "a" }, func(v *impl.Value) { v.Text += strings.Repeat("é", 750) },
		func(v *impl.Value) { v.Items = append(v.Items, impl.Value{}) }, func(v *impl.Value) { v.Items = v.Items[:max(1, len(v.Items))-1] },
		func(v *impl.Value) { v.Names = append(v.Names, "zz") }, func(v *impl.Value) { v.Names = append(v.Names, "a") }, func(v *impl.Value) { v.Names = v.Names[:max(1, len(v.Names))-1] },
		func(v *impl.Value) { v.Names = append(v.Names, "zz"); v.Items = append(v.Items, impl.Value{}) },
		func(v *impl.Value) { v.Names = append(v.Names, "if"); v.Items = append(v.Items, impl.Value{}) },
	}
	for _, name := range []string{"", "A", "a", "b", "zz", "true", "abcdefghijkl", "abcdefghijklm"} {
		out = append(out, func(v *impl.Value) {
			if len(v.Names) > 0 {
				v.Names[len(v.Names)-1] = name
			}
		})
	}
	return out
}

// everyChange calls for a value and each copy of it in which one part of one value is another one.
func everyChange(v impl.Value, call func(changed impl.Value)) {
	count := len(valuesOf(&v))
	for i := range min(count, 12) {
		for _, change := range valueChanges() {
			changed := copyValue(v)
			change(valuesOf(&changed)[i])
			call(changed)
		}
	}
}

func TestP26Changed(t *testing.T) {
	for _, v := range values() {
		everyChange(v, func(changed impl.Value) {
			if why := whyNoValue(changed); impl.ValueOk(changed) != (why == "") {
				t.Fatalf("%v: %v, though %q", changed, impl.ValueOk(changed), why)
			}
			if want, _ := sizeAndDeepOf(changed); impl.ValueSize(changed) != want {
				t.Fatalf("%v: %d instead of %d", changed, impl.ValueSize(changed), want)
			}
		})
	}
}

func TestP26Limits(t *testing.T) {
	for deep := 1; deep <= 23; deep++ {
		if v := tower(deep); impl.ValueOk(v) != (deep <= 20) || impl.ValueSize(v) != deep {
			t.Errorf("%d deep: %v %d", deep, impl.ValueOk(v), impl.ValueSize(v))
		}
		if v := arrayValue(numValue(1, 0), tower(deep), arrayValue()); impl.ValueOk(v) != (deep <= 19) {
			t.Errorf("%d deep beside others: %v", deep, impl.ValueOk(v))
		}
	}
	for size := 3; size <= 210; size++ {
		v := heap(size)
		if impl.ValueOk(v) != (size <= 200) || impl.ValueSize(v) != size {
			t.Errorf("%d: %v %d", size, impl.ValueOk(v), impl.ValueSize(v))
		}
		if _, ok := impl.JsonGet(jsonOf(v)); ok != (size <= 200) {
			t.Errorf("%d: read %v", size, ok)
		}
	}
	wide := impl.Value{Kind: impl.ValueArray, Items: make([]impl.Value, 198)}
	if !impl.ValueOk(wide) || !impl.ValueOk(arrayValue(wide)) || impl.ValueOk(arrayValue(arrayValue(wide))) {
		t.Error("198 items, and none, one or two around")
	}
	for size := 1499; size <= 1502; size++ {
		if v := textValue(strings.Repeat("\xff", size)); impl.ValueOk(v) != (size <= 1500) || impl.ValueSize(v) != 1 {
			t.Errorf("a text of %d: %v", size, impl.ValueOk(v))
		}
	}
	if !impl.ValueOk(objectValue("abcdefghijkl", impl.Value{})) || impl.ValueOk(objectValue("abcdefghijklm", impl.Value{})) {
		t.Error("a name of 12, and of 13")
	}
}

func TestP26WithoutEnd(t *testing.T) {
	if got := impl.ValueSize(endlessValue()); got != math.MaxInt {
		t.Error(got)
	}
	if got := impl.ValueSize(sharedValue(40)); got != 1<<40-1 {
		t.Error(got)
	}
	if got := impl.ValueSize(sharedValue(100)); got != math.MaxInt {
		t.Error(got)
	}
	deep := impl.Value{}
	for range 300000 {
		deep = arrayValue(deep)
	}
	if impl.ValueSize(deep) != 300001 || impl.ValueOk(deep) || !impl.ValueSame(deep, deep) {
		t.Error("a value that is very deep")
	}
	for _, v := range []impl.Value{endlessValue(), sharedValue(60)} {
		if !impl.ValueSame(v, v) || impl.ValueSame(v, arrayValue(v)) || impl.ValueSame(v, impl.Value{}) {
			t.Error("values that share lists")
		}
	}
	if !impl.ValueSame(endlessValue(), endlessValue()) || !impl.ValueSame(sharedValue(60), sharedValue(60)) || impl.ValueSame(sharedValue(60), sharedValue(61)) {
		t.Error("values that share lists, each its own")
	}
}

// Chapter 7 says of ValueSame that all parts are the same.
func TestValueSame(t *testing.T) {
	all := append(values()[:60], wrongValues()...)
	for i, a := range all {
		for j, b := range all {
			if i >= len(all)-2 || j >= len(all)-2 {
				continue // without end, or nearly so: see above
			}
			want := sameParts(a, b)
			if impl.ValueSame(a, b) != want || i == j && !want {
				t.Fatalf("%v, %v: %v", a, b, !want)
			}
		}
		if i < len(all)-2 && !impl.ValueSame(a, copyValue(a)) {
			t.Fatalf("%v is not the same as a copy", a)
		}
	}
	empty := impl.Value{Items: []impl.Value{}, Names: []string{}}
	if !impl.ValueSame(empty, impl.Value{}) || !impl.ValueSame(impl.Value{}, empty) || !impl.ValueOk(empty) {
		t.Error("an empty list is none")
	}
}

// sameParts holds two values against each other, part by part.
func sameParts(a, b impl.Value) bool {
	if a.Kind != b.Kind || a.Num != b.Num || a.Text != b.Text || len(a.Items) != len(b.Items) || strings.Join(a.Names, " ")+" " != strings.Join(b.Names, " ")+" " || len(a.Names) != len(b.Names) {
		return false
	}
	for i := range a.Items {
		if !sameParts(a.Items[i], b.Items[i]) {
			return false
		}
	}
	return true
}

func TestValueSameChanged(t *testing.T) {
	for _, v := range values() {
		everyChange(v, func(changed impl.Value) {
			want := sameParts(v, changed)
			if impl.ValueSame(v, changed) != want || impl.ValueSame(changed, v) != want {
				t.Fatalf("%v, %v: %v", v, changed, !want)
			}
		})
	}
}

// jsonOf is JSON of a value, also of one that is not ok.
func jsonOf(v impl.Value) string {
	switch v.Kind {
	case impl.ValueArray, impl.ValueObject:
		var items []string
		for i, item := range v.Items {
			name := ""
			if v.Kind == impl.ValueObject {
				name = jsonOf(textValue(v.Names[i])) + ":"
			}
			items = append(items, name+jsonOf(item))
		}
		ends := map[int]string{impl.ValueArray: "[]", impl.ValueObject: "{}"}[v.Kind]
		return ends[:1] + strings.Join(items, ",") + ends[1:]
	case impl.ValueNum:
		return impl.DecText(v.Num)
	case impl.ValueText:
		return jsonText(v.Text)
	}
	return []string{"null", "true", "false"}[v.Kind]
}

// jsonText is a text between quotes, by a table of all bytes that have their own writing.
func jsonText(text string) string {
	const plain = " !#$%&'()*+,-./0123456789:;<=>?@ABCDEFGHIJKLMNOPQRSTUVWXYZ[]^_`abcdefghijklmnopqrstuvwxyz{|}~"
	out := ""
	for _, b := range []byte(text) {
		switch {
		case strings.IndexByte(plain, b) >= 0:
			out += string(rune(b))
		case b == '"':
			out += "\\\""
		case b == '\\':
			out += "\\\\"
		default:
			out += "\\u00" + string("0123456789abcdef"[b>>4]) + string("0123456789abcdef"[b&15])
		}
	}
	return "\"" + out + "\""
}

func TestP28JsonPut(t *testing.T) {
	for _, v := range values() {
		if got, want := impl.JsonPut(v), jsonOf(v); got != want {
			t.Fatalf("%s instead of %s", got, want)
		}
	}
	for _, c := range []struct {
		v    impl.Value
		text string
	}{
		{impl.Value{}, "null"}, {impl.Value{Kind: impl.ValueTrue}, "true"}, {impl.Value{Kind: impl.ValueFalse}, "false"}, {numValue(-25, -1), "-2.5"}, {numValue(12, 2), "1200"}, {arrayValue(), "[]"}, {objectValue(""), "{}"},
		{textValue("a/\"\\\n\t\x7e\x7f\x80\xff\x1f "), `"a/\"\\\u000a\u0009~\u007f\u0080\u00ff\u001f "`},
		{objectValue("a b", arrayValue(numValue(1, 0), numValue(2, 0)), objectValue("c", textValue("d"))), `{"a":[1,2],"b":{"c":"d"}}`},
	} {
		if got := impl.JsonPut(c.v); got != c.text {
			t.Errorf("%s instead of %s", got, c.text)
		}
	}
}

func TestP28JsonBack(t *testing.T) {
	for _, v := range values() {
		text := impl.JsonPut(v)
		got, ok := impl.JsonGet(text)
		if len(text) > 12000 {
			t.Fatalf("a text of %d bytes", len(text))
		}
		if !ok || !sameParts(got, v) || impl.JsonPut(got) != text {
			t.Fatalf("%s: %v", text, got)
		}
	}
}

func TestP28WrongValues(t *testing.T) {
	for i, v := range wrongValues() {
		if got := impl.JsonPut(v); got != "" {
			t.Errorf("%d: %s", i, got)
		}
		if got := impl.ValueTree(v); !impl.TreeSame(got, impl.Node{}) {
			t.Errorf("%d: %v", i, got)
		}
	}
}

// wantJson holds what JsonGet reads of a text against the other reader, and against what the document says of it.
func wantJson(t *testing.T, text string) bool {
	t.Helper()
	got, ok := impl.JsonGet(text)
	want, wanted := jsonAgain(text)
	if ok != wanted || !sameParts(got, want) {
		t.Fatalf("%q: %v %v instead of %v %v", text, got, ok, want, wanted)
	}
	if again, ok2 := impl.JsonGet(impl.JsonPut(got)); ok && (!ok2 || !sameParts(again, got) || !impl.ValueOk(got)) {
		t.Fatalf("%q: %v, and then %v", text, got, again)
	}
	return ok
}

func TestP28Mixed(t *testing.T) {
	read := 0
	for _, text := range textsOf([]string{"[", "]", "{", "}", ",", ":", "1", "-", "0", ".", "\"a\"", "\"b\"", "null", " ", "\""}, 4) {
		if wantJson(t, text) {
			read++
		}
	}
	for _, text := range textsOf([]string{"{", "}", ",", ":1", "\"a\"", "\"b\"", "{}"}, 6) {
		if wantJson(t, text) {
			read++
		}
	}
	if read < 100 {
		t.Error(read)
	}
}

func TestP28Changed(t *testing.T) {
	r := rand.New(rand.NewSource(11))
	const put = "[]{},:\"\\un0-.1eE/a \t\n\r\v\x80+tf'#"
	for _, v := range values() {
		text := impl.JsonPut(v)
		if len(text) > 400 {
			continue
		}
		for range 40 {
			at, b := r.Intn(len(text)+1), put[r.Intn(len(put))]
			wantJson(t, text[:at]+string([]byte{b})+text[at:])
			if at < len(text) {
				wantJson(t, text[:at]+text[at+1:])
				wantJson(t, text[:at]+string([]byte{b})+text[at+1:])
			}
		}
	}
}

func TestP28Blanks(t *testing.T) {
	r := rand.New(rand.NewSource(13))
	for _, v := range values() {
		wide := "\n\t \r"
		for _, piece := range jsonPiece.FindAllString(impl.JsonPut(v), -1) {
			wide += piece + "\r \n\t "[r.Intn(3):][:r.Intn(3)]
		}
		if got, ok := impl.JsonGet(wide); !ok || !sameParts(got, v) {
			t.Fatalf("%q: %v", wide, got)
		}
	}
	for _, blank := range []string{"\v", "\f", "\x00", "\xa0", "\u00a0", "\ufeff", "#", "/**/"} {
		for _, text := range []string{blank + "1", "1" + blank, "[1," + blank + "2]", "{\"a\"" + blank + ":1}"} {
			if _, ok := impl.JsonGet(text); ok {
				t.Errorf("%q is read", text)
			}
		}
	}
}

func TestP28Texts(t *testing.T) {
	for _, c := range [][2]string{
		{`"\/\b\f\n\r\t\"\\"`, "/\b\f\n\r\t\"\\"}, {`"\u0041\u0000\u00ff\u007f\u0022\u005c"`, "A\x00\xff\x7f\"\\"}, {`"\\u0041"`, "\\u0041"}, {`"\\\u0041"`, "\\A"}, {`"/'~ "`, "/'~ "}, {`""`, ""}, {` "a" `, "a"}, {`"\u00e9"`, "\xe9"},
	} {
		if got, ok := impl.JsonGet(c[0]); !ok || !sameParts(got, textValue(c[1])) {
			t.Errorf("%s: %v", c[0], got)
		}
	}
	for b := range 256 {
		quoted := "\"a" + string([]byte{byte(b)}) + "c\""
		if _, ok := impl.JsonGet(quoted); ok != (b >= 32 && b <= 126 && b != '"' && b != '\\') {
			t.Errorf("%q: %v", quoted, ok)
		}
		behind := "\"\\" + string([]byte{byte(b)}) + "\""
		if _, ok := impl.JsonGet(behind); ok != (strings.IndexByte("\"\\/bfnrt", byte(b)) >= 0) {
			t.Errorf("%q: %v", behind, ok)
		}
		hex := "\"\\u00" + string("0123456789abcdef"[b>>4]) + string("0123456789abcdef"[b&15]) + "\""
		if got, ok := impl.JsonGet(hex); !ok || got.Text != string([]byte{byte(b)}) {
			t.Errorf("%q: %q", hex, got.Text)
		}
		for _, hex := range []string{"\\u00" + string([]byte{byte(b)}) + "0", "\\u000" + string([]byte{byte(b)})} {
			if _, ok := impl.JsonGet("\"" + hex + "\""); ok != (strings.IndexByte("0123456789abcdef", byte(b)) >= 0) {
				t.Errorf("%q: %v", hex, ok)
			}
		}
	}
}

func TestP28NoTexts(t *testing.T) {
	for _, text := range []string{
		"", " ", "nul", "nulll", "Null", "NULL", "truefalse", "true false", "tru e", "undefined", "NaN", "a", "'a'", "\"", "\"a", "a\"", "\"\\\"", "\"a\" \"b\"", "\"a\"b", "\"\n\"",
		`"\u0100"`, `"\u1000"`, `"\u00FF"`, `"\u00"`, `"\u000"`, `"\u"`, `"\U0041"`, `"\x41"`, `"\v"`, `"\a"`, `"\0"`, `"\'"`, `"\N"`, `"é"`, "\"\x7f\"", "\"\t\"",
		"+1", "- 1", "-", "--1", "01", "-01", "1.", ".5", "1e5", "1E5", "0x1", "1_0", "1,", ",1", "1 2", "1.2.3", "1-2", "100000001", "0.000000001", "123456789012345678", "99999999900000000",
		"[", "]", "[1", "1]", "[1,]", "[,1]", "[,]", "[1 2]", "[1,,2]", "[1;2]", "[]]", "[[]", "[)", "(1)", "[1}", "[] []", "[1]2", "[\"a\":1]",
		"{", "}", "{]", "{a:1}", "{\"a\"}", "{\"a\":}", "{\"a\":1,}", "{,}", "{\"a\" 1}", "{\"a\":1 \"b\":2}", "{\"a\"::1}", "{1:2}", "{null:1}", "{\"a\":1}}", "{\"a\":1,\"a\":1}", "{\"a\":1,\"b\":2,\"a\":3}", "{\"a\":1,\"\\u0061\":2}", "{\"A\":1}", "{\"\":1}", "{\"if\":1}", "{\"abcdefghijklm\":1}", "{\"a b\":1}", "{\"a\":1;\"b\":2}", "{\"a\"=1}", "{\"a\":[}", "{\"b\":{\"a\":1,\"a\":2}}",
		"// a\n1", "1 # a", "\ufeff1",
	} {
		if got, ok := impl.JsonGet(text); ok || !sameParts(got, impl.Value{}) {
			t.Errorf("%q is read: %v", text, got)
		}
	}
}

func TestP28Names(t *testing.T) {
	want := objectValue("_ a a1 ab b", numValue(5, 0), numValue(2, 0), numValue(4, 0), numValue(3, 0), numValue(1, 0))
	for _, text := range []string{
		`{"_":5,"a":2,"a1":4,"ab":3,"b":1}`, `{"b":1,"a":2,"ab":3,"a1":4,"_":5}`, "{ \"ab\" : 3 ,\n\"b\":1,\"_\":5,\"a1\"\t:\r4,\"a\":2 } ", `{"\u0062":1,"\u0061":2,"a\u0062":3,"a\u0031":4,"\u005f":5}`,
	} {
		if got, ok := impl.JsonGet(text); !ok || !sameParts(got, want) {
			t.Errorf("%s: %v", text, got)
		}
	}
	got, ok := impl.JsonGet(`{"b":{"y":1,"x":[{"q":0,"p":-0.50}]},"a":-0}`)
	inner := objectValue("x y", arrayValue(objectValue("p q", numValue(-5, -1), numValue(0, 0))), numValue(1, 0))
	if !ok || !sameParts(got, objectValue("a b", numValue(0, 0), inner)) {
		t.Error(got)
	}
}

func TestP28Limits(t *testing.T) {
	for size := 11999; size <= 12001; size++ {
		blanks := strings.Repeat(" ", size-1)
		for _, text := range []string{"1" + blanks, blanks + "1"} {
			if got, ok := impl.JsonGet(text); ok != (size <= 12000) || ok && !sameParts(got, numValue(1, 0)) {
				t.Errorf("%d bytes: %v", size, ok)
			}
		}
	}
	for size := 1499; size <= 1501; size++ {
		for _, piece := range []string{"a", "\\u00ff", "\\n"} {
			if got, ok := impl.JsonGet("[\"" + strings.Repeat(piece, size) + "\"]"); ok != (size <= 1500) || ok && len(got.Items[0].Text) != size {
				t.Errorf("%d of %s: %v", size, piece, ok)
			}
		}
	}
	for deep := 1; deep <= 22; deep++ {
		if _, ok := impl.JsonGet(jsonOf(tower(deep))); ok != (deep <= 20) {
			t.Errorf("%d deep: %v", deep, ok)
		}
	}
	for _, open := range []string{"[", "{\"a\":", "[[],", "\"", "-", "{\"a\":[", "null", "\\"} {
		if _, ok := impl.JsonGet(strings.Repeat(open, 12000/len(open))); ok {
			t.Errorf("many %s", open)
		}
	}
	great := impl.Value{Kind: impl.ValueArray}
	for range 9 {
		great.Items = append(great.Items, textValue(strings.Repeat("\xff", 1500)))
	}
	if text := impl.JsonPut(great); text != jsonOf(great) || len(text) < 12000 {
		t.Error("a text of more than 12000 bytes is written")
	} else if _, ok := impl.JsonGet(text); ok {
		t.Error("a text of more than 12000 bytes is read")
	}
}

func TestP30Cut(t *testing.T) {
	for _, v := range values() {
		text := impl.JsonPut(v)
		for _, bracket := range []string{"[", "]", "{", "}"} {
			if got, ok := impl.JsonGet(text + bracket); ok || !sameParts(got, impl.Value{}) {
				t.Fatalf("%s%s: %v", text, bracket, got)
			}
		}
		if v.Kind == impl.ValueNum {
			continue
		}
		for size := len(text) - 1; size >= max(0, len(text)-300); size-- {
			if got, ok := impl.JsonGet(text[:size]); ok || !sameParts(got, impl.Value{}) {
				t.Fatalf("%s: %v", text[:size], got)
			}
		}
	}
}

// What JsonGet answers is memory of its own: lists that share none, not even spare room, and texts that share none with the one that is read.
func TestJsonNewMemory(t *testing.T) {
	for _, v := range values() {
		text := impl.JsonPut(v)
		got, _ := impl.JsonGet(text)
		for _, part := range valuesOf(&got) {
			_ = append(part.Items[:len(part.Items):cap(part.Items)], impl.Value{Kind: 99})
			_ = append(part.Names[:len(part.Names):cap(part.Names)], "?")
			if within(part.Text, text) {
				t.Fatalf("%q shares the text that was read", part.Text)
			}
			for _, name := range part.Names {
				if within(name, text) {
					t.Fatalf("%q shares the text that was read", name)
				}
			}
		}
		if !sameParts(got, v) {
			t.Fatalf("%s: lists share room", text)
		}
	}
}

// within says whether a text lies in the memory of another one.
func within(part, whole string) bool {
	if part == "" || whole == "" {
		return false
	}
	from, at := uintptr(unsafe.Pointer(unsafe.StringData(whole))), uintptr(unsafe.Pointer(unsafe.StringData(part)))
	return from <= at && at < from+uintptr(len(whole))
}

func TestValueTree(t *testing.T) {
	one := numTree(1, 0)
	for _, c := range []struct {
		v    impl.Value
		want impl.Node
	}{
		{impl.Value{}, tree(impl.NodeNull, "")}, {impl.Value{Kind: impl.ValueTrue}, tree(impl.NodeTrue, "")}, {impl.Value{Kind: impl.ValueFalse}, tree(impl.NodeFalse, "")},
		{numValue(0, 0), numTree(0, 0)}, {numValue(25, -1), numTree(25, -1)}, {numValue(-25, -1), tree(impl.NodeMinus, "", numTree(25, -1))}, {numValue(-impl.ManMax, impl.ExpMax), tree(impl.NodeMinus, "", numTree(impl.ManMax, impl.ExpMax))},
		{textValue(""), tree(impl.NodeText, "")}, {textValue("\x00\xff\"a"), tree(impl.NodeText, "\x00\xff\"a")}, {arrayValue(), tree(impl.NodeArray, "")}, {objectValue(""), tree(impl.NodeObject, "")},
		{arrayValue(numValue(1, 0), impl.Value{}), tree(impl.NodeArray, "", one, tree(impl.NodeNull, ""))},
		{objectValue("a b", numValue(1, 0), arrayValue(numValue(-1, 0))), tree(impl.NodeObject, "", fieldTree("a", 0, one), fieldTree("b", 0, tree(impl.NodeArray, "", tree(impl.NodeMinus, "", one))))},
	} {
		if got := impl.ValueTree(c.v); !impl.TreeSame(got, c.want) {
			t.Errorf("%v: %v instead of %v", c.v, got, c.want)
		}
	}
}

// treeAgain is the tree of a value, by its parts.
func treeAgain(v impl.Value) impl.Node {
	out := tree([]int{impl.NodeNull, impl.NodeTrue, impl.NodeFalse, impl.NodeNum, impl.NodeText, impl.NodeArray, impl.NodeObject}[v.Kind], v.Text)
	out.Num = v.Num
	for i, item := range v.Items {
		kid := treeAgain(item)
		if v.Kind == impl.ValueObject {
			kid = fieldTree(v.Names[i], 0, kid)
		}
		out.Kids = append(out.Kids, kid)
	}
	if v.Num.Man < 0 {
		out.Num.Man = -v.Num.Man
		return tree(impl.NodeMinus, "", out)
	}
	return out
}

func TestValueTrees(t *testing.T) {
	made := 0
	for _, v := range values() {
		want := treeAgain(v)
		if whyWrong(want) != "" {
			want = impl.Node{}
		} else {
			made++
		}
		was := copyValue(v)
		got := impl.ValueTree(v)
		if !impl.TreeSame(got, want) {
			t.Fatalf("%v: %v instead of %v", v, got, want)
		}
		if len(impl.Frees(got)) != 0 {
			t.Fatalf("%v has names from outside", got)
		}
		for _, node := range nodesOf(&got) {
			if sharesText(node.Text, v) {
				t.Fatalf("%q shares the value's memory", node.Text)
			}
			node.Kind, node.Text, node.Num = 99, "?", impl.Dec{Man: 7}
			_ = append(node.Kids, impl.Node{Kind: 98})
		}
		if !sameParts(v, was) {
			t.Fatalf("%v was changed", was)
		}
	}
	if made < 500 {
		t.Error(made)
	}
}

// sharesText says whether a text lies in the memory of a text or name of a value.
func sharesText(text string, v impl.Value) bool {
	for _, part := range valuesOf(&v) {
		if within(text, part.Text) {
			return true
		}
		for _, name := range part.Names {
			if within(text, name) {
				return true
			}
		}
	}
	return false
}

func TestValueTreeLimits(t *testing.T) {
	for count := 7; count <= 10; count++ {
		names := strings.Join(strings.Split("abcdefghij"[:count], ""), " ")
		items := make([]impl.Value, count)
		for _, v := range []impl.Value{arrayValue(items...), objectValue(names, items...), arrayValue(objectValue(names, items...))} {
			if got := impl.ValueTree(v); impl.TreeOk(got) != (count <= 8) || count > 8 && !impl.TreeSame(got, impl.Node{}) {
				t.Errorf("%d items: %v", count, got)
			}
		}
	}
	for deep := 1; deep <= 21; deep++ {
		arrays, objects := numValue(1, 0), numValue(-1, 0)
		for range deep - 1 {
			arrays, objects = arrayValue(arrays), objectValue("a", objects)
		}
		if got := impl.ValueTree(arrays); impl.TreeOk(got) != (deep <= 20) || impl.TreeOk(got) && impl.TreeDeep(got) != deep {
			t.Errorf("%d deep: %v", deep, got)
		}
		// a field stands between two objects, and a sign ahead of the number
		if got := impl.ValueTree(objects); impl.TreeOk(got) != (2*deep <= 20) || impl.TreeOk(got) && impl.TreeDeep(got) != 2*deep {
			t.Errorf("%d deep: %v", deep, got)
		}
	}
	for below := 60; below <= 64; below++ {
		v := numbersBelow(below)
		got := impl.ValueTree(v)
		if want := 137 + below; !impl.ValueOk(v) || impl.TreeOk(got) != (want <= 200) || impl.TreeOk(got) && impl.TreeSize(got) != want {
			t.Errorf("%d numbers below 0: %d", below, impl.TreeSize(got))
		}
	}
	short := textValue(strings.Repeat("a", 1500))
	if got := impl.ValueTree(short); !impl.TreeOk(got) || got.Text != short.Text {
		t.Error("a text of 1500 bytes")
	}
}

// numbersBelow is a value of 137 values, 64 numbers among them, so many of which are below 0, and have a sign ahead in the tree.
func numbersBelow(count int) impl.Value {
	out := arrayValue()
	for i := range 8 {
		part := arrayValue()
		for j := range 8 {
			number := numValue(1, 0)
			if i*8+j < count {
				number = numValue(-1, 0)
			}
			part.Items = append(part.Items, arrayValue(number))
		}
		out.Items = append(out.Items, part)
	}
	return out
}
