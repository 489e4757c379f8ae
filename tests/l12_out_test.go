package tests

import (
	"bytes"
	"encoding/json"
	"fmt"
	"math/rand"
	"regexp"
	"slices"
	"strings"
	"testing"

	"loop.example/chancery/impl"
)

// formMax is how many bytes a text may have that a value is read from.
const formMax = 8 * impl.TextMax

// wideOf is wide JSON, by the library.
func wideOf(v impl.Value) string {
	var out bytes.Buffer
	if err := json.Indent(&out, []byte(jsonOf(v)), "", "  "); err != nil {
		panic(err)
	}
	return out.String()
}

func TestP29Wide(t *testing.T) {
	for _, v := range values() {
		g := guardOf(v)
		text := impl.JsonWide(g.value)
		if text != wideOf(v) || !g.whole() {
			t.Fatalf("%s instead of %s", text, wideOf(v))
		}
		got, ok := impl.JsonGet(text)
		if fits := len(text) <= formMax; ok != fits || fits && !sameParts(got, v) {
			t.Fatalf("%s is read as %v %v", text, got, ok)
		}
	}
	for i, v := range wrongValues() {
		if got := impl.JsonWide(v); got != "" {
			t.Errorf("%d: %s", i, got)
		}
	}
}

func TestP29Texts(t *testing.T) {
	for _, c := range [][2]string{
		{"1", "1"}, {"null", "null"}, {"[]", "[]"}, {"{}", "{}"}, {"\"a\\u000a\"", "\"a\\u000a\""}, {"[1]", "[\n  1\n]"}, {"[[],{}]", "[\n  [],\n  {}\n]"}, {"[[1,2],3]", "[\n  [\n    1,\n    2\n  ],\n  3\n]"},
		{"{\"a\":1}", "{\n  \"a\": 1\n}"}, {"{\"b\":{\"c\":[]},\"a\":[null,\"a: b\"]}", "{\n  \"a\": [\n    null,\n    \"a: b\"\n  ],\n  \"b\": {\n    \"c\": []\n  }\n}"}, {"[[[[-0.5]]]]", "[\n  [\n    [\n      [\n        -0.5\n      ]\n    ]\n  ]\n]"},
	} {
		if got := impl.JsonWide(mustGet(t, c[0])); got != c[1] {
			t.Errorf("%s: %q instead of %q", c[0], got, c[1])
		}
	}
	if got := impl.JsonWide(tower(20)); got != wideOf(tower(20)) || len(got) < 500 {
		t.Error(got)
	}
	if impl.JsonWide(tower(21)) != "" || impl.JsonWide(heap(201)) != "" || impl.JsonWide(heap(200)) != wideOf(heap(200)) {
		t.Error("limits")
	}
}

func TestP29Blanks(t *testing.T) {
	for _, v := range values() {
		for _, text := range []string{" " + impl.JsonPut(v) + "\n\t ", "\r\n" + impl.JsonPut(v), "\n" + impl.JsonWide(v) + " \n"} {
			if got, ok := impl.JsonGet(text); ok != (len(text) <= formMax) || ok && !sameParts(got, v) {
				t.Fatalf("%q: %v %v", text, got, ok)
			}
		}
	}
}

// mustGet is a value by its JSON.
func mustGet(t *testing.T, text string) impl.Value {
	t.Helper()
	v, ok := impl.JsonGet(text)
	if !ok {
		t.Fatalf("%s is no value", text)
	}
	return v
}

// objectsOf is an object and all objects that are fields of these, in the order in which TOML tells them, with their paths.
func objectsOf(path string, v impl.Value) ([]string, []impl.Value) {
	paths, all := []string{path}, []impl.Value{v}
	for i, item := range v.Items {
		if item.Kind == impl.ValueObject {
			below, inner := objectsOf(strings.TrimPrefix(path+"."+v.Names[i], "."), item)
			paths, all = append(paths, below...), append(all, inner...)
		}
	}
	return paths, all
}

// tomlAgain is TOML of a value in another way: the lines of all its objects, one behind the other.
func tomlAgain(v impl.Value) (string, bool) {
	if v.Kind != impl.ValueObject || whyNoValue(v) != "" {
		return "", false
	}
	out := ""
	paths, all := objectsOf("", v)
	for at, object := range all {
		if at > 0 {
			out += "[" + paths[at] + "]\n"
		}
		for i, item := range object.Items {
			if item.Kind == impl.ValueObject {
				continue
			}
			for _, part := range valuesOf(&item) {
				if part.Kind == impl.ValueNull || part.Kind == impl.ValueObject {
					return "", false
				}
			}
			out += object.Names[i] + " = " + jsonOf(item) + "\n"
		}
	}
	return out, true
}

// iniAgain is that, of an object of objects without others.
func iniAgain(v impl.Value) (string, bool) {
	text, ok := tomlAgain(v)
	for _, object := range v.Items {
		ok = ok && object.Kind == impl.ValueObject
		for _, item := range object.Items {
			ok = ok && 1 <= item.Kind && item.Kind <= 4
		}
	}
	if !ok {
		return "", false
	}
	return text, true
}

// aLine is a line of TOML, with the newline.
var aLine = regexp.MustCompile(`^(?:([a-z_0-9]+) = ([^\n]*)|\[([a-z_0-9.]+)\])\n`)

// tomlGetAgain reads TOML in another way: objects by their paths, which are put together from the last one on.
func tomlGetAgain(text string) (impl.Value, bool) {
	objects := map[string]map[string]impl.Value{"": {}}
	paths := []string{""}
	rest := text
	for rest != "" {
		line := aLine.FindStringSubmatch(rest)
		if line == nil || len(text) > formMax {
			return impl.Value{}, false
		}
		rest = rest[len(line[0]):]
		last := paths[len(paths)-1]
		if line[3] != "" {
			if objects[line[3]] != nil {
				return impl.Value{}, false
			}
			objects[line[3]] = map[string]impl.Value{}
			paths = append(paths, line[3])
			continue
		}
		item, ok := jsonAgain(line[2])
		if _, twice := objects[last][line[1]]; !ok || twice {
			return impl.Value{}, false
		}
		objects[last][line[1]] = item
	}
	for _, path := range slices.Backward(paths[1:]) {
		at := strings.LastIndexByte(path, '.')
		outer := objects[path[:max(at, 0)]]
		if _, twice := outer[path[at+1:]]; outer == nil || twice {
			return impl.Value{}, false
		}
		outer[path[at+1:]] = objectOf(objects[path])
	}
	v := objectOf(objects[""])
	again, ok := tomlAgain(v)
	if !ok || again != text {
		return impl.Value{}, false
	}
	return v, true
}

// objectOf is an object of some fields.
func objectOf(fields map[string]impl.Value) impl.Value {
	out := impl.Value{Kind: impl.ValueObject}
	for name := range fields {
		out.Names = append(out.Names, name)
	}
	slices.Sort(out.Names)
	for _, name := range out.Names {
		out.Items = append(out.Items, fields[name])
	}
	return out
}

// flatValue is a value without nulls and objects, that hangs on a source of numbers alone.
func flatValue(r *rand.Rand, deep int) impl.Value {
	if deep > 1 && r.Intn(3) == 0 {
		out := arrayValue()
		for range r.Intn(4) {
			out.Items = append(out.Items, flatValue(r, deep-1))
		}
		return out
	}
	for {
		plain := plainValues()
		if v := plain[r.Intn(len(plain))]; v.Kind != impl.ValueNull && v.Kind != impl.ValueObject && len(v.Text) < 20 {
			return v
		}
	}
}

// fittingValue is an object that can be written as TOML, so deep at most; one that can be written as INI, if it is so.
func fittingValue(r *rand.Rand, deep int, ini bool) impl.Value {
	fields := map[string]impl.Value{}
	for range r.Intn(5) {
		name := []string{"a", "b", "ab", "a1", "_", "abcdefghijkl", "c"}[r.Intn(7)]
		switch {
		case ini && deep == 2:
			fields[name] = fittingValue(r, 1, true)
		case ini:
			fields[name] = flatValue(r, 1)
			if fields[name].Kind == impl.ValueArray {
				delete(fields, name)
			}
		case deep > 1 && r.Intn(2) == 0:
			fields[name] = fittingValue(r, deep-1, false)
		default:
			fields[name] = flatValue(r, 3)
		}
	}
	return objectOf(fields)
}

// fittingValues is values that can be written as TOML, every third of them as INI.
func fittingValues(count int) []impl.Value {
	r := rand.New(rand.NewSource(17))
	out := []impl.Value{objectValue(""), objectValue("a", objectValue("")), objectValue("a", arrayValue())}
	for i := range count {
		out = append(out, fittingValue(r, 2+(i/3)%4*min(i%3, 1), i%3 == 0))
	}
	return out
}

// wantForms holds what TOML and INI are of a value against the other way, and that it is read back.
func wantForms(t *testing.T, v impl.Value) {
	t.Helper()
	g := guardOf(v)
	toml, ok := impl.TomlPut(g.value)
	if want, fits := tomlAgain(v); toml != want || ok != fits || !g.whole() {
		t.Fatalf("%s: %q %v instead of %q %v", jsonOf(v), toml, ok, want, fits)
	}
	ini, isIni := impl.IniPut(g.value)
	if want, fits := iniAgain(v); ini != want || isIni != fits || !g.whole() {
		t.Fatalf("%s: INI %q %v instead of %q %v", jsonOf(v), ini, isIni, want, fits)
	}
	if isIni && (ini != toml || !ok) {
		t.Fatalf("%q is not %q", ini, toml)
	}
	if ok && len(toml) <= formMax {
		wantRead(t, toml, v, true)
		wantOwnText(t, toml)
	}
	if isIni && len(ini) <= formMax {
		got, read := impl.IniGet(ini)
		if !read || !sameParts(got, v) {
			t.Fatalf("%q is read as %v", ini, got)
		}
	}
}

// wantRead holds what TomlGet and IniGet read against a value, and that it is written as the same text.
func wantRead(t *testing.T, text string, want impl.Value, fits bool) {
	t.Helper()
	got, ok := impl.TomlGet(text)
	if ok != fits || !sameParts(got, want) {
		t.Fatalf("%q: %v %v instead of %v %v", text, got, ok, want, fits)
	}
	if again, put := impl.TomlPut(got); ok && (again != text || !put) {
		t.Fatalf("%q is written as %q", text, again)
	}
	_, isIni := iniAgain(want)
	if !fits || !isIni {
		want = impl.Value{}
	}
	got, ok = impl.IniGet(text)
	if ok != (fits && isIni) || !sameParts(got, want) {
		t.Fatalf("INI %q: %v %v instead of %v %v", text, got, ok, want, fits && isIni)
	}
	if again, put := impl.IniPut(got); ok && (again != text || !put) {
		t.Fatalf("%q is written as %q", text, again)
	}
}

// wantOwnText holds that what is read shares nothing with the text.
func wantOwnText(t *testing.T, text string) {
	t.Helper()
	for _, get := range []func(string) (impl.Value, bool){impl.TomlGet, impl.IniGet} {
		v, _ := get(text)
		for _, part := range valuesOf(&v) {
			if within(part.Text, text) || slices.ContainsFunc(part.Names, func(name string) bool { return within(name, text) }) {
				t.Fatalf("%q is shared", text)
			}
		}
		wantOwn(t, v)
	}
}

func TestP63Back(t *testing.T) {
	for _, v := range append(values(), fittingValues(3000)...) {
		wantForms(t, v)
	}
	for _, v := range values() {
		wantForms(t, objectValue("a", v))
		wantForms(t, objectValue("a b", v, objectValue("c", v)))
		wantForms(t, objectValue("a b c", objectValue("x y", v, v), v, objectValue("z", objectValue("", nil...))))
	}
}

func TestP63Texts(t *testing.T) {
	for _, c := range [][2]string{
		{"{}", ""}, {"{\"a\":1}", "a = 1\n"}, {"{\"a\":{}}", "[a]\n"}, {"{\"b\":true,\"a\":[[],[1,\"x\"]]}", "a = [[],[1,\"x\"]]\nb = true\n"}, {"{\"a\":{\"b\":{\"c\":{}}}}", "[a]\n[a.b]\n[a.b.c]\n"},
		{"{\"a\":{\"x\":1,\"c\":{},\"y\":\"q\"},\"b\":[true,[2]]}", "b = [true,[2]]\n[a]\nx = 1\ny = \"q\"\n[a.c]\n"}, {"{\"a\":{\"z\":{\"k\":1},\"c\":-0.5},\"ab\":{\"z\":2},\"b\":{\"a\":{}}}", "[a]\nc = -0.5\n[a.z]\nk = 1\n[ab]\nz = 2\n[b]\n[b.a]\n"},
		{"{\"a\":\"\\n = [b]\\\\\\\"\"}", "a = \"\\u000a = [b]\\\\\\\"\"\n"}, {"{\"a\":\"\\u00ff\"}", "a = \"\\u00ff\"\n"},
	} {
		v := mustGet(t, c[0])
		if got, ok := impl.TomlPut(v); !ok || got != c[1] {
			t.Errorf("%s: %q %v instead of %q", c[0], got, ok, c[1])
		}
		wantRead(t, c[1], v, true)
	}
}

func TestP63NoTexts(t *testing.T) {
	for _, text := range []string{
		"a = 1", "a = 1\n\n", "\n", " ", "\na = 1\n", "a = 1\r\n", "a=1\n", "a  = 1\n", "a =  1\n", "a = 1 \n", " a = 1\n", "a = 1\n b = 2\n", "a\t= 1\n", "a: 1\n", "a = \n", "a\n", " = 1\n", "= 1\n", "a = 1 = 2\n", "# a\n", "a = 1 # b\n", "a = 1;b = 2\n",
		"b = 1\na = 2\n", "a = 1\na = 1\n", "a = 1\na = 2\n", "ab = 1\na = 2\n", "A = 1\n", "if = 1\n", "abcdefghijklm = 1\n", "\"a\" = 1\n", "a.b = 1\n", "1 = 2\n", "a = a\n", "a = null\n", "a = [null]\n", "a = {}\n", "a = {\"b\":1}\n", "a = [{}]\n", "a = [[1,{}]]\n",
		"a = 01\n", "a = 1.0\n", "a = 1.50\n", "a = -0\n", "a = +1\n", "a = 1e2\n", "a = 100000001\n", "a = [1, 2]\n", "a = [1,]\n", "a = [ ]\n", "a = [1\n", "a = [\n1]\n", "a = True\n", "a = 'b'\n", "a = \"\n", "a = \"b\" \n", "a = \"\\n\"\n", "a = \"\\/\"\n", "a = \"\\u0041\"\n", "a = \"\\u000A\"\n", "a = \"\xff\"\n", "a = \"\t\"\n",
		"[a]", "[a]\n[a]\n", "[b]\n[a]\n", "[a.b]\n", "[a]\n[b.c]\n", "[a]\n[a.b.c]\n", "[a.b]\n[a]\n", "[a]\n[ab.c]\n", "[a]\n[b]\n[a.c]\n", "[a]\n[a.c]\n[a.b]\n", "[a]\n[a.b]\n[a.b]\n", "[a]\n[a.b]\nx = 1\n[a]\n", "[]\n", "[]\n[.]\n", "[.]\n", "[a.]\n", "[a]\n[a.]\n", "[a]\n[.b]\n", "[a]\n[a..b]\n", "[ a ]\n", "[a] \n", " [a]\n", "[[a]]\n", "[a\n", "a]\n", "[a]b = 1\n", "[a]]\n", "[A]\n", "[if]\n", "[\"a\"]\n", "[a]\nx = 1\n[a]\ny = 2\n",
		"[a]\nb = 1\n[a.b]\n", "a = 1\n[a]\n", "[a]\n\nb = 1\n", "[a]\nb = 1\na = 2\n", "[a]\nb = 1\n\n", "[a]\r\n", "[a,b]\n", "{}", "{\"a\":1}", "null", "1\n", "[1]\n", "[1]", "\x00", "a = 1\n\x00",
	} {
		wantRead(t, text, impl.Value{}, false)
	}
}

// wantLines holds what is read of a text against the other reader.
func wantLines(t *testing.T, text string) bool {
	t.Helper()
	want, ok := tomlGetAgain(text)
	wantRead(t, text, want, ok)
	return ok
}

func TestP63Mixed(t *testing.T) {
	read := map[bool]int{}
	for _, text := range textsOf([]string{"a = 1\n", "b = []\n", "[a]\n", "[b]\n", "[a.a]\n", "[a.b]\n", "[a.b.a]\n", "[b.a]\n", "[c]\n"}, 5) {
		read[wantLines(t, text)]++
	}
	for _, text := range textsOf([]string{"a", "b", " = ", "1", "\n", "[", "]", ".", " ", "\"", "="}, 5) {
		read[wantLines(t, text)]++
	}
	for _, text := range textsOf([]string{"[", "]", ",", "a = ", "1", "\n", "{", "}"}, 6) {
		read[wantLines(t, text)]++
	}
	if read[true] < 300 {
		t.Error(read)
	}
}

// changedText is a text in which a byte or a line is another one, is missing, is there twice, or stands elsewhere.
func changedText(r *rand.Rand, text string) string {
	const bytesPut = "[]{}.= \n\r\t\"\\#,0a-_A1u\x00\xff"
	b := string(bytesPut[r.Intn(len(bytesPut))])
	at := r.Intn(len(text) + 1)
	lines := strings.SplitAfter(text, "\n")
	from, to := r.Intn(len(lines)), r.Intn(len(lines))
	switch r.Intn(6) {
	case 0:
		return text[:at] + b + text[at:]
	case 1:
		return text[:max(at, 1)-1] + text[at:]
	case 2:
		return text[:max(at, 1)-1] + b + text[at:]
	case 3:
		lines[from], lines[to] = lines[to], lines[from]
	case 4:
		lines = slices.Delete(lines, from, from+1)
	case 5:
		lines = slices.Insert(lines, to, lines[from])
	}
	return strings.Join(lines, "")
}

func TestP63Changed(t *testing.T) {
	r := rand.New(rand.NewSource(19))
	read := map[bool]int{}
	for _, v := range fittingValues(1500) {
		text, _ := tomlAgain(v)
		for range 30 {
			read[wantLines(t, changedText(r, text))]++
		}
	}
	if read[true] < 2000 || read[false] < 20000 {
		t.Error(read)
	}
}

// longForm is an object of an object of texts, whose TOML has so many bytes, at least 11000 and fewer than 12100.
func longForm(t *testing.T, size int) impl.Value {
	t.Helper()
	names := strings.Fields("a b c d e f g h i")
	section := objectValue(strings.Join(names, " "))
	left := size - len("[s]\n")
	for i := range names {
		part := min((left+len(names)-i-1)/(len(names)-i), 1500+len("a = \"\"\n"))
		section.Items = append(section.Items, textValue(strings.Repeat("x", part-len("a = \"\"\n"))))
		left -= part
	}
	v := objectValue("s", section)
	if text, _ := tomlAgain(v); len(text) != size {
		t.Fatal(len(text))
	}
	return v
}

func TestP63LongTexts(t *testing.T) {
	for size := formMax - 2; size <= formMax+2; size++ {
		v := longForm(t, size)
		text, ok := impl.TomlPut(v)
		ini, isIni := impl.IniPut(v)
		if !ok || !isIni || len(text) != size || ini != text {
			t.Fatalf("%d bytes are not written", size)
		}
		if size > formMax {
			v = impl.Value{}
		}
		wantRead(t, text, v, size <= formMax)
	}
	for _, piece := range []string{"[", "[a.", "[a]\n", "a = [", "a = 1\n", "\n", "[\n", " = ", "a = \"", "]\n", ".", "[.", "[]\n"} {
		for _, size := range []int{formMax, formMax + 1, 8 * formMax} {
			wantRead(t, strings.Repeat(piece, size/len(piece)), impl.Value{}, false)
		}
	}
	nested := ""
	for path := ""; len(nested)+len(path) < formMax-3; path += "." {
		nested += "[" + path + "]\n"
	}
	wantRead(t, nested, impl.Value{}, false)
}

// section is an object of so many numbers.
func section(first, count int) impl.Value {
	out := objectValue("")
	for i := range count {
		out.Names = append(out.Names, fmt.Sprintf("f%04d", first+i))
		out.Items = append(out.Items, numValue(i, 0))
	}
	for i := range out.Items {
		out.Items[i].Num, _ = impl.DecNew(i, 0)
	}
	return out
}

func TestP63Limits(t *testing.T) {
	for count := 196; count <= 199; count++ {
		v := objectValue("s", section(0, count))
		text, ok := impl.TomlPut(v)
		ini, isIni := impl.IniPut(v)
		if fits := count+2 <= 200; ok != fits || isIni != fits || !fits && text+ini != "" {
			t.Errorf("%d numbers: %v %v", count, ok, isIni)
		}
		lines := "[s]\n"
		for i, name := range v.Items[0].Names {
			lines += name + " = " + impl.DecText(v.Items[0].Items[i].Num) + "\n"
		}
		if count > 198 {
			v = impl.Value{}
		}
		wantRead(t, lines, v, count <= 198)
	}
	for deep := 1; deep <= 22; deep++ {
		v, lines, path := objectValue(""), "", ""
		for range deep - 1 {
			v = objectValue("a", v)
			path += ".a"
			lines += "[" + path[1:] + "]\n"
		}
		text, ok := impl.TomlPut(v)
		if fits := deep <= 20; ok != fits || fits && text != lines || !fits && text != "" {
			t.Errorf("%d deep: %v %q", deep, ok, text)
		}
		if deep > 20 {
			v = impl.Value{}
		}
		wantRead(t, lines, v, deep <= 20)
	}
	for size := 1499; size <= 1501; size++ {
		v := objectValue("abcdefghijkl", objectValue("abcdefghijk_", textValue(strings.Repeat("\xff", size))))
		lines := "[abcdefghijkl]\nabcdefghijk_ = \"" + strings.Repeat("\\u00ff", size) + "\"\n"
		if size > 1500 {
			v = impl.Value{}
		}
		wantRead(t, lines, v, size <= 1500)
	}
}

// A value with a null, or in an array, at each place of values that could be written without.
func TestP64NoToml(t *testing.T) {
	for _, v := range fittingValues(900) {
		for i := range valuesOf(&v) {
			for _, wrong := range []impl.Value{{}, arrayValue(impl.Value{}), arrayValue(v), arrayValue(arrayValue(objectValue("a", v)))} {
				changed := copyValue(v)
				*valuesOf(&changed)[i] = copyValue(wrong)
				if text, ok := impl.TomlPut(changed); ok || text != "" {
					t.Fatalf("%s is written as %q", jsonOf(changed), text)
				}
				if text, ok := impl.IniPut(changed); ok || text != "" {
					t.Fatalf("%s is written as INI as %q", jsonOf(changed), text)
				}
			}
		}
	}
	for _, v := range values() {
		for _, outer := range []impl.Value{arrayValue(v), objectValue("a", arrayValue(v, objectValue(""))), objectValue("a b", v, impl.Value{}), objectValue("a", arrayValue(objectValue("b", v)))} {
			if text, ok := impl.TomlPut(outer); ok || text != "" {
				t.Fatalf("%s is written as %q", jsonOf(outer), text)
			}
		}
	}
}

func TestP64Texts(t *testing.T) {
	for _, c := range []struct {
		text      string
		toml, ini bool
	}{
		{"{}", true, true}, {"{\"a\":{}}", true, true}, {"{\"a\":{\"b\":1,\"c\":\"\",\"d\":true,\"e\":false}}", true, true}, {"{\"a\":1}", true, false}, {"{\"a\":{},\"b\":1}", true, false}, {"{\"a\":[]}", true, false}, {"{\"a\":{\"b\":[]}}", true, false}, {"{\"a\":{\"b\":[1]}}", true, false}, {"{\"a\":{\"b\":{}}}", true, false}, {"{\"a\":{\"b\":{\"c\":1}}}", true, false},
		{"null", false, false}, {"true", false, false}, {"1", false, false}, {"\"\"", false, false}, {"[]", false, false}, {"[{}]", false, false}, {"{\"a\":null}", false, false}, {"{\"a\":{\"b\":null}}", false, false}, {"{\"a\":[null]}", false, false}, {"{\"a\":[{}]}", false, false}, {"{\"a\":[[{}]]}", false, false}, {"{\"a\":{\"b\":[1,{\"c\":2}]}}", false, false}, {"{\"a\":[1,[2,null]]}", false, false}, {"{\"a\":{\"b\":{\"c\":[[],[null]]}}}", false, false},
	} {
		v := mustGet(t, c.text)
		if _, ok := impl.TomlPut(v); ok != c.toml {
			t.Errorf("%s: %v", c.text, ok)
		}
		if _, ok := impl.IniPut(v); ok != c.ini {
			t.Errorf("%s: INI %v", c.text, ok)
		}
	}
	for i, v := range wrongValues() {
		for _, wrong := range []impl.Value{v, objectValue("a", v), objectValue("a", objectValue("b", v))} {
			toml, ok := impl.TomlPut(wrong)
			ini, isIni := impl.IniPut(wrong)
			if ok || isIni || toml+ini != "" {
				t.Errorf("%d: %q %q", i, toml, ini)
			}
		}
	}
}

func TestP65Ini(t *testing.T) {
	for _, c := range [][2]string{
		{"{}", ""}, {"{\"a\":{}}", "[a]\n"}, {"{\"a\":{\"x\":1},\"b\":{}}", "[a]\nx = 1\n[b]\n"}, {"{\"b\":{\"y\":false,\"x\":\"[a]\\n\"},\"a\":{\"z\":-2.5}}", "[a]\nz = -2.5\n[b]\nx = \"[a]\\u000a\"\ny = false\n"},
	} {
		v := mustGet(t, c[0])
		if got, ok := impl.IniPut(v); !ok || got != c[1] {
			t.Errorf("%s: %q %v", c[0], got, ok)
		}
		if got, ok := impl.IniGet(c[1]); !ok || !sameParts(got, v) {
			t.Errorf("%q: %v", c[1], got)
		}
	}
	for _, text := range []string{"x = 1\n", "x = 1\n[a]\n", "[a]\nx = []\n", "[a]\nx = [1]\n", "[a]\n[a.b]\n", "[a]\n[a.b]\nx = 1\n", "[a]\nx = null\n", "[b]\n[a]\n", "[a]\n[a]\n", "[a]\nx = 1", "[a]\ny = 1\nx = 1\n", "[a.b]\n", "[a]\nx = {}\n", "\n"} {
		if got, ok := impl.IniGet(text); ok || !sameParts(got, impl.Value{}) {
			t.Errorf("%q: %v", text, got)
		}
	}
	written := 0
	for _, v := range fittingValues(3000) {
		if _, ok := impl.IniPut(v); ok {
			written++
		}
	}
	if written < 900 {
		t.Error(written)
	}
}
