package tests

import (
	"testing"
	"unsafe"

	"loop.example/chancery/impl"
)

// guard is a value that is handed in, all of whose lists have spare room with something in it, and what it was.
type guard struct {
	value impl.Value
	was   impl.Value
}

func guardOf(v impl.Value) guard {
	return guard{withRoom(v), copyValue(v)}
}

// spare is what stands behind the end of a list that is handed in.
const spare = "behind the end"

// withRoom is a copy of a value with something behind the end of each list.
func withRoom(v impl.Value) impl.Value {
	out := copyValue(v)
	for i, item := range out.Items {
		out.Items[i] = withRoom(item)
	}
	out.Items = append(out.Items, textValue(spare), textValue(spare))[:len(out.Items)]
	out.Names = append(out.Names, spare, spare)[:len(out.Names)]
	return out
}

// whole says whether nothing was written into what was handed in, nor behind an end.
func (g guard) whole() bool {
	if !sameParts(g.value, g.was) {
		return false
	}
	for _, part := range valuesOf(&g.value) {
		for _, item := range part.Items[len(part.Items) : len(part.Items)+2] {
			if !sameParts(item, textValue(spare)) {
				return false
			}
		}
		for _, name := range part.Names[len(part.Names) : len(part.Names)+2] {
			if name != spare {
				return false
			}
		}
	}
	return true
}

// wantOwn holds that an answer shares no memory with what was handed in, that no two of its lists share any, and that nothing
// was written into what was handed in. The answer is written over.
func wantOwn(t *testing.T, got impl.Value, given ...guard) {
	t.Helper()
	was := copyValue(got)
	lists := map[unsafe.Pointer]int{}
	parts := valuesOf(&got)
	for _, part := range parts {
		for _, g := range given {
			if sharesText(part.Text, g.value) || sharesName(part.Names, g.value) {
				t.Fatalf("%s has a text of what was handed in", jsonOf(was))
			}
		}
		fillRoom(part)
		if cap(part.Items) > 0 {
			lists[unsafe.Pointer(unsafe.SliceData(part.Items))]++
		}
		if cap(part.Names) > 0 {
			lists[unsafe.Pointer(unsafe.SliceData(part.Names))]++
		}
	}
	for _, count := range lists {
		if count > 1 {
			t.Fatalf("%s has a list twice", jsonOf(was))
		}
	}
	if !sameParts(got, was) {
		t.Fatalf("%s: lists share room", jsonOf(was))
	}
	for _, part := range parts {
		writeOver(part)
	}
	for _, g := range given {
		if !g.whole() {
			t.Fatalf("%s: what was handed in is another one, or shared", jsonOf(was))
		}
	}
}

func sharesName(names []string, v impl.Value) bool {
	for _, name := range names {
		if sharesText(name, v) {
			return true
		}
	}
	return false
}

// fillRoom writes into the spare room of the lists of a value.
func fillRoom(v *impl.Value) {
	for i := len(v.Items); i < cap(v.Items); i++ {
		v.Items[:cap(v.Items)][i] = impl.Value{Kind: 99}
	}
	for i := len(v.Names); i < cap(v.Names); i++ {
		v.Names[:cap(v.Names)][i] = "?"
	}
}

// writeOver writes something else into all that is right in a value.
func writeOver(v *impl.Value) {
	v.Kind, v.Num, v.Text = 99, impl.Dec{Man: 7}, "?"
	for i := range v.Names {
		v.Names[i] = "?"
	}
}
