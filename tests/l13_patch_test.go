package tests

import (
	"bytes"
	"cmp"
	"math/rand"
	"slices"
	"strconv"
	"strings"
	"testing"

	"loop.example/chancery/impl"
)

// fieldsOf is the fields of an object by name; of others none.
func fieldsOf(v impl.Value) map[string]impl.Value {
	out := map[string]impl.Value{}
	for i, name := range v.Names {
		out[name] = v.Items[i]
	}
	return out
}

// mergeAgain is a patch over a value in another way, however great that is.
func mergeAgain(v, patch impl.Value) impl.Value {
	if patch.Kind != impl.ValueObject {
		return patch
	}
	fields := fieldsOf(v)
	for name, item := range fieldsOf(patch) {
		if item.Kind == impl.ValueNull {
			delete(fields, name)
			continue
		}
		fields[name] = mergeAgain(fields[name], item)
	}
	return objectOf(fields)
}

// diffAgain is a patch from a value to another one in another way, however great it is.
func diffAgain(a, b impl.Value) impl.Value {
	if a.Kind != impl.ValueObject || b.Kind != impl.ValueObject {
		return b
	}
	from, to := fieldsOf(a), fieldsOf(b)
	fields := map[string]impl.Value{}
	for name := range from {
		fields[name] = impl.Value{}
	}
	for name, item := range to {
		old, there := from[name]
		if there && sameParts(old, item) {
			delete(fields, name)
			continue
		}
		fields[name] = diffAgain(old, item)
	}
	return objectOf(fields)
}

// nullFields is how many nulls are fields of objects that stand in no array.
func nullFields(v impl.Value) int {
	count := 0
	if v.Kind == impl.ValueObject {
		for _, item := range v.Items {
			count += nullFields(item)
			if item.Kind == impl.ValueNull {
				count++
			}
		}
	}
	return count
}

// relative is a value like another one, but for some fields and items.
func relative(r *rand.Rand, v impl.Value) impl.Value {
	out := copyValue(v)
	for range 1 + r.Intn(3) {
		parts := valuesOf(&out)
		part := parts[r.Intn(len(parts))]
		fields := fieldsOf(*part)
		name := []string{"a", "b", "ab", "a1", "_", "z9_"}[r.Intn(6)]
		switch {
		case part.Kind != impl.ValueObject || r.Intn(4) == 0:
			*part = grownValue(r, 1+r.Intn(3))
		case r.Intn(2) == 0:
			delete(fields, name)
			*part = objectOf(fields)
		default:
			fields[name] = grownValue(r, 1+r.Intn(3))
			*part = objectOf(fields)
		}
	}
	return out
}

// pairs is values of which each second one is like the first, or quite another one; all of them are ok.
func pairs() [][2]impl.Value {
	r := rand.New(rand.NewSource(23))
	var out [][2]impl.Value
	all := append(values(), fittingValues(300)...)
	for _, v := range all {
		out = append(out, [2]impl.Value{v, all[r.Intn(len(all))]}, [2]impl.Value{v, v})
		for range 4 {
			w := relative(r, v)
			out = append(out, [2]impl.Value{v, w}, [2]impl.Value{w, relative(r, v)})
		}
	}
	return slices.DeleteFunc(out, func(pair [2]impl.Value) bool {
		return whyNoValue(pair[0]) != "" || whyNoValue(pair[1]) != ""
	})
}

// orNothing is a value, if it is ok, and nothing else.
func orNothing(v impl.Value) impl.Value {
	if whyNoValue(v) != "" {
		return impl.Value{}
	}
	return v
}

func TestMergeAgain(t *testing.T) {
	for _, pair := range pairs() {
		v, patch := guardOf(pair[0]), guardOf(pair[1])
		got := impl.Merge(v.value, patch.value)
		if want := orNothing(mergeAgain(pair[0], pair[1])); !sameParts(got, want) {
			t.Fatalf("%s, %s: %v instead of %s", jsonOf(pair[0]), jsonOf(pair[1]), got, jsonOf(want))
		}
		wantOwn(t, got, v, patch)
	}
}

func TestMergeTexts(t *testing.T) {
	for _, c := range [][3]string{
		{"{\"a\":1}", "{\"a\":null}", "{}"}, {"{\"a\":1}", "{\"b\":null}", "{\"a\":1}"}, {"{\"a\":1}", "{}", "{\"a\":1}"}, {"{\"a\":1}", "null", "null"}, {"{\"a\":1}", "2", "2"}, {"{\"a\":1}", "[null]", "[null]"}, {"1", "{}", "{}"}, {"null", "{\"a\":null}", "{}"}, {"[1]", "{\"a\":1,\"b\":null}", "{\"a\":1}"},
		{"{\"a\":{\"b\":1,\"c\":2}}", "{\"a\":{\"b\":null,\"d\":3}}", "{\"a\":{\"c\":2,\"d\":3}}"}, {"{\"a\":1}", "{\"a\":{\"b\":null,\"c\":{\"d\":null}}}", "{\"a\":{\"c\":{}}}"}, {"{\"a\":[1]}", "{\"a\":{\"b\":2}}", "{\"a\":{\"b\":2}}"}, {"{\"a\":{\"b\":1}}", "{\"a\":[{\"b\":null}]}", "{\"a\":[{\"b\":null}]}"},
		{"{\"a\":null,\"b\":{\"c\":null}}", "{\"d\":1}", "{\"a\":null,\"b\":{\"c\":null},\"d\":1}"}, {"{\"b\":1}", "{\"a\":2,\"c\":3}", "{\"a\":2,\"b\":1,\"c\":3}"}, {"{\"a\":{\"b\":{\"c\":1}}}", "{\"a\":{\"b\":{\"c\":null}}}", "{\"a\":{\"b\":{}}}"}, {"{\"a\":{}}", "{\"a\":{}}", "{\"a\":{}}"}, {"{\"a\":true}", "{\"a\":{}}", "{\"a\":{}}"},
	} {
		if got := impl.JsonPut(impl.Merge(mustGet(t, c[0]), mustGet(t, c[1]))); got != c[2] {
			t.Errorf("%s, %s: %s instead of %s", c[0], c[1], got, c[2])
		}
	}
}

// What two values come to together is there up to 200 values, and nothing behind that.
func TestMergeLimits(t *testing.T) {
	for count := 97; count <= 101; count++ {
		for _, c := range []struct {
			v, patch impl.Value
			size     int
		}{
			{section(0, 100), section(100, count), 1 + 100 + count},
			{section(0, 100), objectValue("a", section(100, count)), 1 + 100 + 1 + count},
			{objectValue("a", section(0, 100)), objectValue("a", section(100, count)), 2 + 100 + count},
			{objectValue("a b", section(0, 50), numValue(1, 0)), objectValue("a c", section(50, 50), section(0, count-4)), 3 + 100 + 1 + count - 4},
			{section(0, 150), section(100, count), 1 + 100 + count},
		} {
			got := impl.Merge(c.v, c.patch)
			want := orNothing(mergeAgain(c.v, c.patch))
			if !sameParts(got, want) || (got.Kind == impl.ValueObject) != (c.size <= 200) {
				t.Errorf("%d values: %v", c.size, got)
			}
		}
	}
	taken := section(0, 199)
	for i := range taken.Items {
		taken.Items[i] = impl.Value{}
	}
	if got := impl.Merge(section(0, 199), taken); impl.JsonPut(got) != "{}" {
		t.Error(got)
	}
	for deep := 18; deep <= 20; deep++ {
		chain := numValue(1, 0)
		for range deep - 1 {
			chain = objectValue("a", chain)
		}
		if got := impl.Merge(objectValue("b", numValue(2, 0)), chain); !sameParts(got, mergeAgain(objectValue("b", numValue(2, 0)), chain)) {
			t.Error(got)
		}
	}
}

// Each function of values answers nothing, if one of them is not ok.
func TestWrongValuesOfPatches(t *testing.T) {
	good := []impl.Value{{}, numValue(1, 0), objectValue(""), objectValue("a", objectValue("b", numValue(1, 0))), arrayValue(textValue("x"))}
	for i, wrong := range wrongValues() {
		for _, v := range append(good, wrong) {
			merged := []impl.Value{impl.Merge(v, wrong), impl.Merge(wrong, v)}
			there, isThere := impl.Diff(v, wrong)
			back, isBack := impl.Diff(wrong, v)
			at, isAt := impl.ValueAt(wrong, nil)
			with, isWith := impl.ValueWith(wrong, nil, v)
			put, isPut := impl.ValueWith(v, nil, wrong)
			further, isFurther := impl.ValueWith(v, []string{"a"}, wrong)
			if isThere || isBack || isAt || isWith || isPut || isFurther {
				t.Errorf("%d: %v %v %v %v %v %v", i, isThere, isBack, isAt, isWith, isPut, isFurther)
			}
			for _, got := range append(merged, there, back, at, with, put, further) {
				if !sameParts(got, impl.Value{}) {
					t.Errorf("%d: %v", i, got)
				}
			}
			if impl.ValueCmp(v, wrong) != 0 || impl.ValueCmp(wrong, v) != 0 {
				t.Errorf("%d: is held against others", i)
			}
		}
	}
	for _, wrong := range wrongValues() {
		for _, path := range [][]string{{"0"}, {"1"}, {"a"}, {"b"}, {"0", "a"}} {
			got, ok := impl.ValueAt(wrong, path)
			with, isWith := impl.ValueWith(wrong, path, numValue(1, 0))
			if ok || isWith || !sameParts(got, impl.Value{}) || !sameParts(with, impl.Value{}) {
				t.Errorf("%v: %v %v", path, got, with)
			}
		}
	}
}

func TestDiffAgain(t *testing.T) {
	found := map[bool]int{}
	for _, pair := range pairs() {
		a, b := guardOf(pair[0]), guardOf(pair[1])
		got, ok := impl.Diff(a.value, b.value)
		want := diffAgain(pair[0], pair[1])
		fits := nullFields(pair[1]) == 0 && whyNoValue(want) == ""
		if !fits {
			want = impl.Value{}
		}
		if ok != fits || !sameParts(got, want) {
			t.Fatalf("%s, %s: %v %v instead of %v %v", jsonOf(pair[0]), jsonOf(pair[1]), got, ok, want, fits)
		}
		found[ok]++
		wantOwn(t, got, a, b)
	}
	if found[true] < 2000 || found[false] < 300 {
		t.Error(found)
	}
}

func TestDiffTexts(t *testing.T) {
	for _, c := range [][3]string{
		{"{\"a\":1,\"b\":2}", "{\"b\":2}", "{\"a\":null}"}, {"{\"a\":1}", "{\"a\":1,\"b\":2}", "{\"b\":2}"}, {"{\"a\":1}", "{\"a\":2}", "{\"a\":2}"}, {"{\"a\":{\"b\":1,\"c\":2}}", "{\"a\":{\"b\":1}}", "{\"a\":{\"c\":null}}"}, {"{\"a\":{\"b\":1}}", "{\"a\":{}}", "{\"a\":{\"b\":null}}"}, {"{\"a\":{\"b\":1}}", "{\"a\":{\"b\":1},\"c\":{}}", "{\"c\":{}}"},
		{"{\"a\":1}", "{\"a\":{\"b\":{}}}", "{\"a\":{\"b\":{}}}"}, {"{\"a\":{\"b\":1}}", "{\"a\":2}", "{\"a\":2}"}, {"{\"a\":[1]}", "{\"a\":[1,null]}", "{\"a\":[1,null]}"}, {"{\"a\":null}", "{\"a\":1}", "{\"a\":1}"}, {"{\"a\":null}", "{}", "{\"a\":null}"}, {"{\"a\":null}", "{\"a\":{}}", "{\"a\":{}}"}, {"{}", "{}", "{}"},
		{"1", "2", "2"}, {"1", "1", "1"}, {"{}", "null", "null"}, {"null", "null", "null"}, {"null", "{}", "{}"}, {"[1]", "[1]", "[1]"}, {"{\"a\":1}", "[null]", "[null]"}, {"1", "{\"a\":{\"b\":2}}", "{\"a\":{\"b\":2}}"},
		{"{}", "[{\"a\":null}]", "[{\"a\":null}]"}, {"{}", "{\"a\":[{\"b\":null,\"c\":{\"d\":null}}]}", "{\"a\":[{\"b\":null,\"c\":{\"d\":null}}]}"}, {"{\"a\":[{\"b\":null}]}", "{\"a\":[{\"b\":null}]}", "{}"},
		{"{}", "{\"a\":null}", "no"}, {"{\"a\":null}", "{\"a\":null}", "no"}, {"1", "{\"a\":null}", "no"}, {"{\"a\":{\"b\":1}}", "{\"a\":{\"b\":null}}", "no"}, {"{}", "{\"a\":1,\"b\":{\"c\":{\"d\":null}}}", "no"}, {"{\"a\":1}", "{\"a\":1,\"z\":null}", "no"}, {"[1]", "{\"a\":[1],\"b\":{\"c\":null}}", "no"},
	} {
		got, ok := impl.Diff(mustGet(t, c[0]), mustGet(t, c[1]))
		text := impl.JsonPut(got)
		if !ok && sameParts(got, impl.Value{}) {
			text = "no"
		}
		if text != c[2] {
			t.Errorf("%s, %s: %s instead of %s", c[0], c[1], text, c[2])
		}
	}
}

func TestDiffLimits(t *testing.T) {
	for count := 97; count <= 101; count++ {
		for _, c := range []struct {
			a, b impl.Value
			size int
		}{
			{section(0, 100), section(100, count), 1 + 100 + count},
			{objectValue("a", section(0, 100)), objectValue("a", section(100, count)), 2 + 100 + count},
			{section(0, 150), section(50, 50+count), 1 + 50 + 50 + count}, // the numbers that stay have other places
			{objectValue("a b", section(0, 100), section(0, 90)), objectValue("a b", section(100, count-1), section(0, 90)), 2 + 100 + count - 1},
		} {
			got, ok := impl.Diff(c.a, c.b)
			want := diffAgain(c.a, c.b)
			if fits := c.size <= 200; ok != fits || sizeOf(want) != c.size || !sameParts(got, orNothing(want)) {
				t.Errorf("%d values, %d: %v %v", c.size, sizeOf(want), ok, got)
			}
		}
	}
	deep := objectValue("")
	for range 19 {
		deep = objectValue("a", deep)
	}
	if got, ok := impl.Diff(objectValue("b", numValue(1, 0)), deep); !ok || impl.ValueSize(got) != 21 {
		t.Error(got)
	}
}

func sizeOf(v impl.Value) int {
	size, _ := sizeAndDeepOf(v)
	return size
}

func TestP66MergeOfDiff(t *testing.T) {
	held := 0
	for _, pair := range pairs() {
		a, b := pair[0], pair[1]
		if patch, ok := impl.Diff(a, b); ok {
			held++
			if got := impl.Merge(a, patch); !sameParts(got, b) {
				t.Fatalf("%s, %s: %s makes %s", jsonOf(a), jsonOf(b), jsonOf(patch), jsonOf(got))
			}
		}
		if patch, ok := impl.Diff(a, a); a.Kind == impl.ValueObject && (ok != (nullFields(a) == 0) || ok && impl.JsonPut(patch) != "{}") {
			t.Fatalf("%s and itself: %s", jsonOf(a), jsonOf(patch))
		}
	}
	if held < 2000 {
		t.Error(held)
	}
}

func TestP67Again(t *testing.T) {
	for _, pair := range pairs() {
		v, patch := pair[0], pair[1]
		if whyNoValue(mergeAgain(v, patch)) != "" {
			continue
		}
		once := impl.Merge(v, patch)
		if twice := impl.Merge(once, patch); !sameParts(once, twice) {
			t.Fatalf("%s, %s: %s, then %s", jsonOf(v), jsonOf(patch), jsonOf(once), jsonOf(twice))
		}
		if v.Kind == impl.ValueObject && !sameParts(impl.Merge(v, objectValue("")), v) {
			t.Fatalf("%s is changed by an empty object", jsonOf(v))
		}
		if patch.Kind != impl.ValueObject && !sameParts(once, patch) {
			t.Fatalf("%s is not all: %s", jsonOf(patch), jsonOf(once))
		}
	}
}

func TestP68Names(t *testing.T) {
	held := 0
	for _, pair := range pairs() {
		v, patch := pair[0], pair[1]
		if patch.Kind != impl.ValueObject || whyNoValue(mergeAgain(v, patch)) != "" {
			continue
		}
		got, given, old := fieldsOf(impl.Merge(v, patch)), fieldsOf(patch), fieldsOf(v)
		for name, item := range given {
			is, there := got[name]
			if there != (item.Kind != impl.ValueNull) || there && item.Kind != impl.ValueObject && !sameParts(is, item) {
				t.Fatalf("%s, %s: %s is %v %v", jsonOf(v), jsonOf(patch), name, there, is)
			}
			held++
		}
		for name, item := range old {
			is, there := got[name]
			if _, asked := given[name]; !asked && (!there || !sameParts(is, item)) {
				t.Fatalf("%s, %s: %s is %v %v", jsonOf(v), jsonOf(patch), name, there, is)
			}
		}
	}
	if held < 3000 {
		t.Error(held)
	}
}

func TestP69Plus(t *testing.T) {
	o := orchard{t: t}
	for _, pair := range pairs() {
		v, patch := pair[0], pair[1]
		if v.Kind != impl.ValueObject || patch.Kind != impl.ValueObject {
			continue
		}
		plain := copyValue(patch)
		for i, item := range plain.Items {
			if item.Kind == impl.ValueNull || item.Kind == impl.ValueObject {
				plain.Items[i] = arrayValue(item)
			}
		}
		over := twoTree(impl.ValueTree(v), "+", impl.ValueTree(plain))
		if impl.TreeOk(over) && whyNoValue(mergeAgain(v, plain)) == "" {
			o.comesTo(over, impl.Merge(v, plain))
		}
	}
	o.atLeast(1000)
}

// waysOf is the paths of all values in a value, itself first.
func waysOf(v impl.Value) [][]string {
	out := [][]string{{}}
	for i, item := range v.Items {
		step := strconv.Itoa(i)
		if v.Kind == impl.ValueObject {
			step = v.Names[i]
		}
		for _, way := range waysOf(item) {
			out = append(out, append([]string{step}, way...))
		}
	}
	return out
}

func TestP70Put(t *testing.T) {
	r := rand.New(rand.NewSource(29))
	all := values()
	put := 0
	for _, v := range append(slices.Clone(all), fittingValues(200)...) {
		for i, way := range waysOf(v) {
			x := all[r.Intn(len(all))]
			want := copyValue(v)
			*valuesOf(&want)[i] = copyValue(x)
			g, other := guardOf(v), guardOf(x)
			got, ok := impl.ValueWith(g.value, way, other.value)
			if fits := whyNoValue(want) == ""; ok != fits || !sameParts(got, orNothing(want)) {
				t.Fatalf("%s, %v, %s: %v %v", jsonOf(v), way, jsonOf(x), got, ok)
			}
			if !ok {
				continue
			}
			put++
			if there, ok := impl.ValueAt(got, way); !ok || !sameParts(there, x) {
				t.Fatalf("%s, %v, %s: %v there", jsonOf(v), way, jsonOf(x), there)
			}
			was, _ := impl.ValueAt(v, way)
			if back, ok := impl.ValueWith(got, way, was); !ok || !sameParts(back, v) {
				t.Fatalf("%s, %v, %s: %v back", jsonOf(v), way, jsonOf(x), back)
			}
			wantOwn(t, got, g, other)
		}
	}
	if put < 3000 {
		t.Error(put)
	}
}

func TestP70Itself(t *testing.T) {
	v := mustGet(t, "{\"a\":[1,{\"b\":2}],\"c\":\"x\"}")
	g := guardOf(v)
	got, ok := impl.ValueWith(g.value, []string{"a", "1", "b"}, g.value)
	if want := "{\"a\":[1,{\"b\":" + jsonOf(v) + "}],\"c\":\"x\"}"; !ok || jsonOf(got) != want {
		t.Error(jsonOf(got), want)
	}
	wantOwn(t, got, g)
	// one list stands in it twice, and is written into at one of the places only
	items := []impl.Value{numValue(1, 0), numValue(2, 0)}
	twice := arrayValue(arrayValue(items...), arrayValue(items...))
	if got, ok := impl.ValueWith(twice, []string{"0", "1"}, textValue("x")); !ok || jsonOf(got) != "[[1,\"x\"],[1,2]]" || jsonOf(twice) != "[[1,2],[1,2]]" {
		t.Error(jsonOf(got), jsonOf(twice))
	}
	at, _ := impl.ValueAt(twice, nil)
	wantOwn(t, at)
	merged := impl.Merge(objectValue("a", twice), objectValue("b", twice))
	wantOwn(t, merged)
	diff, _ := impl.Diff(objectValue(""), objectValue("a b", twice, twice))
	wantOwn(t, diff)
}

func TestP70Limits(t *testing.T) {
	for count := 98; count <= 101; count++ {
		v := objectValue("a b", section(0, 98), impl.Value{})
		got, ok := impl.ValueWith(v, []string{"b"}, section(0, count))
		if size := 3 + 98 + count; ok != (size <= 200) || ok && impl.ValueSize(got) != size || !ok && !sameParts(got, impl.Value{}) {
			t.Errorf("%d values: %v", size, ok)
		}
		got, ok = impl.ValueWith(v, []string{"a"}, section(0, count+98))
		if size := 3 + 98 + count; ok != (size <= 200) || ok && impl.ValueSize(got) != size {
			t.Errorf("%d values instead of others: %v", size, ok)
		}
	}
	v := tower(10)
	way := waysOf(v)[9]
	for deep := 9; deep <= 13; deep++ {
		got, ok := impl.ValueWith(v, way, tower(deep))
		if ok != (deep <= 11) || ok && impl.ValueSize(got) != deep+9 || !ok && !sameParts(got, impl.Value{}) {
			t.Errorf("%d deep: %v %v", deep, got, ok)
		}
	}
	if got, ok := impl.ValueWith(heap(200), nil, heap(200)); !ok || !sameParts(got, heap(200)) {
		t.Error(got)
	}
}

// atAgain is what stands at a path in another way: of all paths that there are, by their steps.
func atAgain(v impl.Value, path []string) (impl.Value, bool) {
	for i, way := range waysOf(v) {
		if slices.Equal(way, path) {
			return *valuesOf(&v)[i], true
		}
	}
	return impl.Value{}, false
}

func TestP71Ways(t *testing.T) {
	r := rand.New(rand.NewSource(31))
	steps := []string{"0", "1", "2", "3", "00", "01", "-1", "-0", "+1", "", " 1", "1 ", "a", "b", "z9_", "A", "null", "1.0", "1e0", "0x1", "1_0", "10", "99999999999999999999999999"}
	found := map[bool]int{}
	for _, v := range values() {
		ways := waysOf(v)
		for range 20 {
			path := slices.Clone(ways[r.Intn(len(ways))])
			for range r.Intn(3) {
				path = slices.Insert(path, r.Intn(len(path)+1), steps[r.Intn(len(steps))])
			}
			if len(path) > 0 && r.Intn(3) == 0 {
				path[r.Intn(len(path))] = steps[r.Intn(len(steps))]
			}
			g := guardOf(v)
			got, ok := impl.ValueAt(g.value, path)
			want, fits := atAgain(v, path)
			if ok != fits || !sameParts(got, want) {
				t.Fatalf("%s, %q: %v %v instead of %v %v", jsonOf(v), path, got, ok, want, fits)
			}
			if _, with := impl.ValueWith(g.value, path, numValue(1, 0)); with != fits {
				t.Fatalf("%s, %q: put %v", jsonOf(v), path, with)
			}
			found[ok]++
			if len(path) > 0 {
				first, ok1 := impl.ValueAt(v, path[:1])
				rest, ok2 := impl.ValueAt(first, path[1:])
				if (ok1 && ok2) != ok || ok && !sameParts(rest, got) {
					t.Fatalf("%s, %q: %v, step by step %v", jsonOf(v), path, got, rest)
				}
			}
			wantOwn(t, got, g)
		}
	}
	if found[true] < 3000 || found[false] < 3000 {
		t.Error(found)
	}
}

func TestP71Texts(t *testing.T) {
	const text = "{\"a\":[10,[20,null],{\"b\":30}],\"b\":{},\"c\":\"xyz\",\"d\":true,\"e\":[0,1,2,3,4,5,6,7,8,9,\"ten\"]}"
	v := mustGet(t, text)
	for _, c := range [][2]string{
		{"", text}, {"a", "[10,[20,null],{\"b\":30}]"}, {"a/0", "10"}, {"a/1/1", "null"}, {"a/2/b", "30"}, {"b", "{}"}, {"c", "\"xyz\""}, {"e/10", "\"ten\""}, {"e/9", "9"},
		{"a/3", "no"}, {"a/-1", "no"}, {"a/00", "no"}, {"a/01", "no"}, {"e/010", "no"}, {"a/+0", "no"}, {"a/-0", "no"}, {"a/0.0", "no"}, {"a/ 0", "no"}, {"a/0 ", "no"}, {"a/", "no"}, {"a/b", "no"}, {"a/length", "no"}, {"a/18446744073709551616", "no"}, {"a/9223372036854775808", "no"}, {"e/0x1", "no"}, {"e/1_0", "no"}, {"e/1e1", "no"},
		{"f", "no"}, {"A", "no"}, {"0", "no"}, {" a", "no"}, {"b/0", "no"}, {"b/a", "no"}, {"b/", "no"}, {"c/0", "no"}, {"c/x", "no"}, {"d/0", "no"}, {"d/true", "no"}, {"a/0/0", "no"}, {"a/1/1/0", "no"}, {"a/1/1/null", "no"}, {"a/2/0", "no"}, {"a/2/b/c", "no"}, {"a/0/", "no"},
	} {
		var path []string
		if c[0] != "" {
			path = strings.Split(c[0], "/")
		}
		got, ok := impl.ValueAt(v, path)
		told := jsonOf(got)
		if !ok && sameParts(got, impl.Value{}) {
			told = "no"
		}
		if told != c[1] {
			t.Errorf("%s: %s instead of %s", c[0], told, c[1])
		}
		with, put := impl.ValueWith(v, path, textValue("new"))
		if put != ok || !put && !sameParts(with, impl.Value{}) {
			t.Errorf("%s: %v %v", c[0], with, put)
		}
	}
	if got, ok := impl.ValueAt(numValue(1, 0), []string{}); !ok || jsonOf(got) != "1" {
		t.Error(got)
	}
	if got, ok := impl.ValueWith(impl.Value{}, nil, numValue(1, 0)); !ok || jsonOf(got) != "1" {
		t.Error(got)
	}
	if _, ok := impl.ValueAt(tower(20), make([]string, 100000)); ok {
		t.Error("many steps")
	}
}

// mark is a piece of a value: a kind with its number and text, a name, or the end of items, which stands ahead of all others.
type mark struct {
	rank int
	num  impl.Dec
	text string
}

// marksOf is a value as a list of marks, by which it can be held against another one piece by piece.
func marksOf(v impl.Value) []mark {
	out := []mark{{v.Kind, v.Num, v.Text}}
	for i, item := range v.Items {
		if v.Kind == impl.ValueObject {
			out = append(out, mark{rank: 100, text: v.Names[i]})
		}
		out = append(out, marksOf(item)...)
	}
	return append(out, mark{rank: -1})
}

// cmpAgain is the order of two values in another way: of their marks.
func cmpAgain(a, b impl.Value) int {
	return slices.CompareFunc(marksOf(a), marksOf(b), func(x, y mark) int {
		return cmp.Or(cmp.Compare(x.rank, y.rank), ratOf(x.num).Cmp(ratOf(y.num)), bytes.Compare([]byte(x.text), []byte(y.text)))
	})
}

func TestP27Same(t *testing.T) {
	same := 0
	for _, pair := range pairs() {
		a, b := guardOf(pair[0]), guardOf(pair[1])
		is := sameParts(pair[0], pair[1])
		order := impl.ValueCmp(a.value, b.value)
		if impl.ValueSame(a.value, b.value) != is || impl.ValueSame(b.value, a.value) != is || (impl.JsonPut(pair[0]) == impl.JsonPut(pair[1])) != is || (order == 0) != is {
			t.Fatalf("%s, %s: %v, order %d", jsonOf(pair[0]), jsonOf(pair[1]), is, order)
		}
		if !a.whole() || !b.whole() {
			t.Fatalf("%s, %s: written into", jsonOf(pair[0]), jsonOf(pair[1]))
		}
		if is {
			same++
		}
	}
	if same < 1000 {
		t.Error(same)
	}
}

func TestP32Order(t *testing.T) {
	for _, pair := range pairs() {
		want := cmpAgain(pair[0], pair[1])
		if got, back := impl.ValueCmp(pair[0], pair[1]), impl.ValueCmp(pair[1], pair[0]); got != want || back != -want {
			t.Fatalf("%s, %s: %d, back %d, instead of %d", jsonOf(pair[0]), jsonOf(pair[1]), got, back, want)
		}
	}
	r := rand.New(rand.NewSource(37))
	all := append(values(), fittingValues(200)...)
	for range 30000 {
		a, b := all[r.Intn(len(all))], all[r.Intn(len(all))]
		c := all[r.Intn(len(all))]
		if impl.ValueCmp(a, b) <= 0 && impl.ValueCmp(b, c) <= 0 && impl.ValueCmp(a, c) > 0 {
			t.Fatalf("%s, %s, %s", jsonOf(a), jsonOf(b), jsonOf(c))
		}
		if impl.ValueCmp(a, b) == 0 && impl.ValueCmp(a, c) != impl.ValueCmp(b, c) {
			t.Fatalf("%s, %s, %s are not the same", jsonOf(a), jsonOf(b), jsonOf(c))
		}
	}
}

// The values of a line stand in order, each ahead of all behind it.
func TestP32Texts(t *testing.T) {
	for _, line := range []string{
		"null; true; false; -1; 0; 0.5; 1; \"\"; \"a\"; []; [null]; {}; {\"a\":null}", "-99999999; -1.5; -1; -0.5; 0; 0.00000001; 0.1; 0.15; 0.2; 1; 2; 10; 99999999; 9999999900000000",
		"\"\"; \"\\u0000\"; \"A\"; \"Z\"; \"a\"; \"a\\u0000\"; \"aa\"; \"ab\"; \"b\"; \"\\u0080\"; \"\\u00ff\"", "[]; [null]; [null,null]; [null,1]; [true]; [1]; [1,[]]; [1,[1]]; [1,[1],2]; [1,[2]]; [2]; [[]]; [[null]]; [{}]",
		"{}; {\"a\":1}; {\"a\":1,\"b\":1}; {\"a\":1,\"b\":2}; {\"a\":1,\"c\":0}; {\"a\":2}; {\"a\":2,\"b\":0}; {\"a\":{}}; {\"a1\":0}; {\"ab\":0}; {\"b\":null}; {\"b\":0,\"c\":1}",
	} {
		texts := strings.Split(line, "; ")
		for i, a := range texts {
			for j, b := range texts {
				if got := impl.ValueCmp(mustGet(t, a), mustGet(t, b)); got != cmp.Compare(i, j) {
					t.Errorf("%s, %s: %d", a, b, got)
				}
			}
		}
	}
}
