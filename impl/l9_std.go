package impl

import (
	"slices"
	"strings"
)

// stdFunction is a function that is there from the beginning: what it comes to
// of cells, and of the things of those that were asked for ahead of it.
type stdFunction func(given []*cell, things []thing) thing

// stdFunctions is all functions that are there from the beginning, by name.
func (r *run) stdFunctions() map[string]stdFunction {
	return map[string]stdFunction{
		"length": r.length,
		"keys":   r.keys,
		"text":   r.text,
		"type":   r.typeOf,
		"sort":   r.sorted,
		"range":  r.numbered,
		"has":    r.has,
		"join":   r.joined,
		"map":    r.mapped,
		"filter": r.filtered,
		"fold":   r.folded,
	}
}

// std is what a function comes to that is there from the beginning.
func (r *run) std(n Node, sees view) thing {
	given := r.cells(n.Kids, sees)
	asked := given
	if n.Text == "fold" {
		asked = given[:2] // the last is asked for behind the function and the array
	}
	var things []thing
	for _, c := range asked {
		things = append(things, c.ask())
	}
	return r.functions[n.Text](given, things)
}

// length is how many bytes, items, or fields that are seen there are.
func (r *run) length(_ []*cell, things []thing) thing {
	switch x := things[0].(type) {
	case textSort:
		return numberOf(len(x))
	case arrayThing:
		return numberOf(len(x))
	}
	return numberOf(len(mustBe[*objectThing](things[0]).seen()))
}

// numberOf is a whole number that has room, as a thing.
func numberOf(whole int) thing {
	num, _ := DecNew(whole, 0)
	return numSort(num)
}

// keys is the names of an object that are seen.
func (r *run) keys(_ []*cell, things []thing) thing {
	names := mustBe[*objectThing](things[0]).seen()
	if len(names) > ListMax {
		fail(EvalBig)
	}
	var out arrayThing
	for _, name := range names {
		out = append(out, ready(textSort(name)))
	}
	return out
}

// text is a text itself, or the value of another thing as one.
func (r *run) text(_ []*cell, things []thing) thing {
	if text, ok := things[0].(textSort); ok {
		return text
	}
	return shortTextOf(JsonPut(r.wholeValue(things[0])))
}

// typeOf is what the kind of a thing is called.
func (r *run) typeOf(_ []*cell, things []thing) thing {
	return textSort(things[0].typeName())
}

// sorted is the items of an array in order.
func (r *run) sorted(_ []*cell, things []thing) thing {
	var items []thing
	for _, c := range mustBe[arrayThing](things[0]) {
		item := c.ask()
		items = append(items, item)
		order(items[0], item) // fails at once at one that cannot be held against the first
	}
	slices.SortFunc(items, order)
	var out arrayThing
	for _, item := range items {
		out = append(out, ready(item))
	}
	return out
}

// numbered is so many whole numbers, from 0 on.
func (r *run) numbered(_ []*cell, things []thing) thing {
	count := indexBelow(ListMax+1, things[0])
	var out arrayThing
	for i := range count {
		out = append(out, ready(numberOf(i)))
	}
	return out
}

// has says whether an object has a field that is seen.
func (r *run) has(_ []*cell, things []thing) thing {
	object := mustBe[*objectThing](things[0])
	return truthSort(object.shows(string(mustBe[textSort](things[1]))))
}

// joined is the texts of an array, one behind the other, with a text between.
func (r *run) joined(_ []*cell, things []thing) thing {
	between := string(mustBe[textSort](things[0]))
	var texts []string
	for _, c := range mustBe[arrayThing](things[1]) {
		texts = append(texts, string(mustBe[textSort](c.ask())))
	}
	return shortTextOf(strings.Join(texts, between))
}

// mapped is an array of a call of a function for each item of another one.
func (r *run) mapped(given []*cell, things []thing) thing {
	mustBe[*funcThing](things[0])
	call := Node{Kind: NodeCall, Kids: []Node{{Kind: NodeName, Text: "f"}, {Kind: NodeName, Text: "x"}}}
	var out arrayThing
	for _, item := range mustBe[arrayThing](things[1]) {
		out = append(out, r.cell(call, view{}.with("f", given[0]).with("x", item)))
	}
	return out
}

// filtered is the items of an array of which a function is true.
func (r *run) filtered(_ []*cell, things []thing) thing {
	function := mustBe[*funcThing](things[0])
	var out arrayThing
	for _, item := range mustBe[arrayThing](things[1]) {
		if mustBe[truthSort](r.call(function, item)) {
			out = append(out, item)
		}
	}
	return out
}

// folded is what a function comes to of what came ahead and each item of an array, one behind the other.
func (r *run) folded(given []*cell, things []thing) thing {
	function := mustBe[*funcThing](things[0])
	items := mustBe[arrayThing](things[1])
	out := given[2].ask()
	for _, item := range items {
		out = r.call(function, ready(out), item)
	}
	return out
}
