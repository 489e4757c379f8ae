package tests

import (
	"fmt"
	"maps"
	"slices"
	"sort"
	"strconv"
	"strings"

	"loop.example/chancery/impl"
)

// The tests hold the program's working out against this one, which does it in
// another way: codes are handed upward, what is seen is copied whole at each
// binding, and a cell is a record with a mark of how far it is.

type again struct {
	fuel, spent, nest int
	keep              bool
	papers            map[string]*pot
}

// pot is a cell.
type pot struct {
	tree  impl.Node
	sees  sight
	state string // "", "busy", "done"
	holds *stuff
}

// sight is what a tree sees.
type sight struct {
	names map[string]*pot
	self  *stuff
	layer int
}

// stuff is a thing.
type stuff struct {
	kind   string
	truth  bool
	num    impl.Dec
	text   string
	items  []*pot
	layers []sheet
	pots   map[string]*pot
	tree   impl.Node // of a function
	sees   sight
}

// sheet is a layer.
type sheet struct {
	fields []impl.Node
	names  map[string]*pot
}

// evalAgain is what a tree comes to, a code, and how much was spent.
func evalAgain(n impl.Node, fuel int, keep bool) (impl.Value, int, int) {
	if whyWrong(n) != "" || len(freesAgain(n, "")) > 0 || asksOutside(n) > 0 || fuel < 0 || fuel > 20000 {
		return impl.Value{}, 12, 0
	}
	return (&again{fuel: fuel, keep: keep}).all(&pot{tree: n})
}

func (a *again) all(p *pot) (impl.Value, int, int) {
	x, code := a.ask(p)
	if code != 0 {
		return impl.Value{}, code, a.spent
	}
	v, code := a.whole(x)
	return v, code, a.spent
}

func (s sight) and(name string, p *pot) sight {
	names := maps.Clone(s.names)
	if names == nil {
		names = map[string]*pot{}
	}
	names[name] = p
	s.names = names
	return s
}

func made(x stuff) *pot {
	return &pot{state: "done", holds: &x}
}

func (a *again) ask(p *pot) (*stuff, int) {
	switch p.state {
	case "done":
		return p.holds, 0
	case "busy":
		return nil, 9
	}
	if a.keep {
		p.state = "busy"
	}
	x, code := a.work(p.tree, p.sees)
	if a.keep {
		p.state, p.holds = "done", x
	}
	return x, code
}

func (a *again) work(n impl.Node, s sight) (*stuff, int) {
	if a.spent == a.fuel {
		return nil, 1
	}
	if a.nest == 150 {
		return nil, 2
	}
	a.spent++
	a.nest++
	x, code := a.byKind(n, s)
	a.nest--
	return x, code
}

func (a *again) byKind(n impl.Node, s sight) (*stuff, int) {
	switch n.Kind {
	case impl.NodeNull:
		return &stuff{kind: "null"}, 0
	case impl.NodeTrue, impl.NodeFalse:
		return truthStuff(n.Kind == impl.NodeTrue), 0
	case impl.NodeNum:
		return &stuff{kind: "number", num: n.Num}, 0
	case impl.NodeText:
		return &stuff{kind: "text", text: n.Text}, 0
	case impl.NodeFunc:
		return &stuff{kind: "function", tree: n, sees: s}, 0
	case impl.NodeArray:
		return &stuff{kind: "array", items: pots(n.Kids, s)}, 0
	case impl.NodeObject:
		return &stuff{kind: "object", layers: []sheet{{n.Kids, s.names}}, pots: map[string]*pot{}}, 0
	case impl.NodeName:
		return a.ask(s.names[n.Text])
	case impl.NodeSelf:
		return s.self, 0
	case impl.NodeSuper:
		return a.field(s.self, s.layer, n.Text)
	case impl.NodeImport:
		if p := a.papers[n.Text]; p != nil {
			return a.ask(p)
		}
		return nil, 11
	case impl.NodeLocal:
		p := &pot{tree: n.Kids[0]}
		p.sees = s.and(n.Text, p)
		return a.work(n.Kids[1], p.sees)
	case impl.NodeStd:
		return a.std(n.Text, pots(n.Kids, s))
	case impl.NodeTwo:
		return a.two(n, s)
	}
	return a.first(n, s)
}

func pots(list []impl.Node, s sight) []*pot {
	out := make([]*pot, len(list))
	for i, n := range list {
		out[i] = &pot{tree: n, sees: s}
	}
	return out
}

func truthStuff(truth bool) *stuff {
	return &stuff{kind: "truth", truth: truth}
}

// first is what those come to that work their first Kid out, whatever else.
func (a *again) first(n impl.Node, s sight) (*stuff, int) {
	x, code := a.work(n.Kids[0], s)
	if code != 0 {
		return nil, code
	}
	switch {
	case n.Kind == impl.NodeError && x.kind == "text":
		return nil, 10
	case n.Kind == impl.NodeNot && x.kind == "truth":
		return truthStuff(!x.truth), 0
	case n.Kind == impl.NodeMinus && x.kind == "number":
		return &stuff{kind: "number", num: opposite(x.num)}, 0
	case n.Kind == impl.NodeIf && x.kind == "truth" && x.truth:
		return a.work(n.Kids[1], s)
	case n.Kind == impl.NodeIf && x.kind == "truth":
		return a.work(n.Kids[2], s)
	case n.Kind == impl.NodeCall && x.kind == "function":
		return a.call(x, pots(n.Kids[1:], s))
	case n.Kind == impl.NodeDot && x.kind == "object":
		return a.field(x, len(x.layers), n.Text)
	case n.Kind == impl.NodeFor && x.kind == "array":
		out := &stuff{kind: "array"}
		for _, item := range x.items {
			out.items = append(out.items, &pot{tree: n.Kids[1], sees: s.and(n.Text, item)})
		}
		return out, 0
	case n.Kind == impl.NodeAt:
		place, code := a.work(n.Kids[1], s)
		if code != 0 {
			return nil, code
		}
		return a.at(x, place)
	}
	return nil, 3
}

func (a *again) at(x, place *stuff) (*stuff, int) {
	i := placeOf(place.num)
	switch {
	case x.kind == "object" && place.kind == "text":
		return a.field(x, len(x.layers), place.text)
	case x.kind != "array" && x.kind != "text" || place.kind != "number":
		return nil, 3
	case i < 0 || i >= len(x.items)+len(x.text):
		return nil, 5
	case x.kind == "array":
		return a.ask(x.items[i])
	}
	return &stuff{kind: "text", text: string([]byte{x.text[i]})}, 0
}

// placeOf is a number as a place; below 0, if it is none.
func placeOf(num impl.Dec) int {
	place, err := strconv.Atoi(impl.DecText(num))
	if err != nil {
		return -1
	}
	return place
}

// numberOf is a whole number as a thing.
func numberOf(whole int) stuff {
	num, _ := impl.DecRead(strconv.Itoa(whole))
	return stuff{kind: "number", num: num}
}

func (a *again) call(function *stuff, given []*pot) (*stuff, int) {
	kids := function.tree.Kids
	if len(kids)-1 != len(given) {
		return nil, 8
	}
	s := function.sees
	for i, p := range given {
		s = s.and(kids[i].Text, p)
	}
	return a.work(kids[len(kids)-1], s)
}

func (a *again) field(o *stuff, below int, name string) (*stuff, int) {
	var having []int
	for i := range below {
		if slices.ContainsFunc(o.layers[i].fields, func(n impl.Node) bool { return n.Text == name }) {
			having = append(having, i)
		}
	}
	if len(having) == 0 {
		return nil, 4
	}
	// each is asked for from the last one down to the lowest that is needed; then they are put together from below
	from := len(having) - 1
	for from > 0 && o.sort(having[from], name) == 2 {
		from--
	}
	var asked []*stuff
	for i := len(having) - 1; i >= from; i-- {
		x, code := a.ask(o.pot(having[i], name))
		if code != 0 {
			return nil, code
		}
		asked = append(asked, x)
	}
	out := asked[len(asked)-1]
	for i := len(asked) - 2; i >= 0; i-- {
		x, code := add(out, asked[i])
		if code != 0 {
			return nil, code
		}
		out = x
	}
	return out, 0
}

func (o *stuff) fieldOf(layer int, name string) impl.Node {
	fields := o.layers[layer].fields
	return fields[slices.IndexFunc(fields, func(n impl.Node) bool { return n.Text == name })]
}

func (o *stuff) sort(layer int, name string) int {
	return o.fieldOf(layer, name).Num.Man
}

func (o *stuff) pot(layer int, name string) *pot {
	key := fmt.Sprint(layer, name)
	if o.pots[key] == nil {
		o.pots[key] = &pot{tree: o.fieldOf(layer, name).Kids[0], sees: sight{o.layers[layer].names, o, layer}}
	}
	return o.pots[key]
}

// shown is the names that are seen.
func (o *stuff) shown() []string {
	var out []string
	for i, l := range o.layers {
		for _, f := range l.fields {
			over := slices.ContainsFunc(o.layers[i+1:], func(later sheet) bool {
				return slices.ContainsFunc(later.fields, func(n impl.Node) bool { return n.Text == f.Text })
			})
			if !over && f.Num.Man != 1 {
				out = append(out, f.Text)
			}
		}
	}
	sort.Strings(out)
	return out
}

func (a *again) two(n impl.Node, s sight) (*stuff, int) {
	x, code := a.work(n.Kids[0], s)
	if code != 0 {
		return nil, code
	}
	logic := n.Text == "&&" || n.Text == "||"
	if logic && x.kind != "truth" {
		return nil, 3
	}
	if n.Text == "&&" && !x.truth || n.Text == "||" && x.truth {
		return x, 0
	}
	y, code := a.work(n.Kids[1], s)
	switch {
	case code != 0:
		return nil, code
	case logic && y.kind != "truth":
		return nil, 3
	case logic:
		return y, 0
	case n.Text == "==" || n.Text == "!=":
		same, code := a.same(x, y, 1)
		return truthStuff(same == (n.Text == "==")), code
	case n.Text == "+":
		return add(x, y)
	}
	return signed(n.Text, x, y)
}

// signed is all other signs between two.
func signed(sign string, x, y *stuff) (*stuff, int) {
	numbers := x.kind == "number" && y.kind == "number"
	texts := x.kind == "text" && y.kind == "text"
	if strings.Contains("< <= > >=", sign) && (numbers || texts) {
		cmp := impl.DecCmp(x.num, y.num)
		less, more := cmp < 0 || x.text < y.text, cmp > 0 || x.text > y.text
		return truthStuff(map[string]bool{"<": less, "<=": !more, ">": more, ">=": !less}[sign]), 0
	}
	if strings.Contains("< <= > >=", sign) || !numbers {
		return nil, 3
	}
	var out impl.Dec
	ok := false
	switch sign {
	case "-":
		out, ok = impl.DecSub(x.num, y.num)
	case "*":
		out, ok = impl.DecMul(x.num, y.num)
	case "/":
		out, ok = impl.DecDiv(x.num, y.num, 8)
	case "%":
		out, ok = impl.DecMod(x.num, y.num)
	}
	if !ok {
		return nil, 6
	}
	return &stuff{kind: "number", num: out}, 0
}

func add(x, y *stuff) (*stuff, int) {
	switch {
	case x.kind != y.kind:
		return nil, 3
	case x.kind == "number":
		num, ok := impl.DecAdd(x.num, y.num)
		if !ok {
			return nil, 6
		}
		return &stuff{kind: "number", num: num}, 0
	case x.kind == "text":
		return short(x.text + y.text)
	case x.kind == "array" && len(x.items)+len(y.items) > 60, x.kind == "object" && len(x.layers)+len(y.layers) > 60:
		return nil, 7
	case x.kind == "array" || x.kind == "object":
		return &stuff{kind: x.kind, items: slices.Concat(x.items, y.items), layers: slices.Concat(x.layers, y.layers), pots: map[string]*pot{}}, 0
	}
	return nil, 3
}

func short(text string) (*stuff, int) {
	if len(text) > 1500 {
		return nil, 7
	}
	return &stuff{kind: "text", text: text}, 0
}

// step spends one for things that stand so deep.
func (a *again) step(deep int) int {
	if a.spent == a.fuel {
		return 1
	}
	if deep == 21 {
		return 7
	}
	a.spent++
	return 0
}

// part is what stands in a thing at a place, asked for.
func (a *again) part(x *stuff, i int) (*stuff, int) {
	if x.kind == "array" {
		return a.ask(x.items[i])
	}
	return a.field(x, len(x.layers), x.shown()[i])
}

func (a *again) same(x, y *stuff, deep int) (bool, int) {
	if code := a.step(deep); code != 0 {
		return false, code
	}
	switch {
	case x.kind == "function" || y.kind == "function":
		return false, 3
	case x.kind != y.kind || x.truth != y.truth || x.num != y.num || x.text != y.text || len(x.items) != len(y.items):
		return false, 0
	case !slices.Equal(x.shown(), y.shown()):
		return false, 0
	}
	for i := range len(x.items) + len(x.shown()) {
		p, code := a.part(x, i)
		if code != 0 {
			return false, code
		}
		q, code := a.part(y, i)
		if code != 0 {
			return false, code
		}
		if same, code := a.same(p, q, deep+1); !same || code != 0 {
			return false, code
		}
	}
	return true, 0
}

func (a *again) whole(x *stuff) (impl.Value, int) {
	v, code := a.value(x, 1)
	if code == 0 && whyNoValue(v) != "" {
		code = 7
	}
	if code != 0 {
		return impl.Value{}, code
	}
	return v, 0
}

func (a *again) value(x *stuff, deep int) (impl.Value, int) {
	if code := a.step(deep); code != 0 {
		return impl.Value{}, code
	}
	kinds := map[string]int{"null": 0, "truth": 1, "number": 3, "text": 4, "array": 5, "object": 6}
	kind, ok := kinds[x.kind]
	if !ok {
		return impl.Value{}, 3
	}
	if kind == 1 && !x.truth {
		kind = 2
	}
	out := impl.Value{Kind: kind, Num: x.num, Text: x.text, Names: x.shown()}
	for i := range len(x.items) + len(x.shown()) {
		p, code := a.part(x, i)
		if code != 0 {
			return impl.Value{}, code
		}
		v, code := a.value(p, deep+1)
		if code != 0 {
			return impl.Value{}, code
		}
		out.Items = append(out.Items, v)
	}
	return out, 0
}

// std is what is there from the beginning.
func (a *again) std(name string, given []*pot) (*stuff, int) {
	var got []*stuff
	for i, p := range given {
		if i == 2 {
			break // the last of fold
		}
		x, code := a.ask(p)
		if code != 0 {
			return nil, code
		}
		got = append(got, x)
	}
	kinds := got[0].kind
	if len(got) > 1 {
		kinds += " " + got[1].kind
	}
	switch name + " " + kinds {
	case "length text", "length array", "length object":
		length := numberOf(len(got[0].text) + len(got[0].items) + len(got[0].shown()))
		return &length, 0
	case "keys object":
		return ready(got[0].shown(), func(name string) stuff { return stuff{kind: "text", text: name} })
	case "text text":
		return got[0], 0
	case "sort array":
		return a.sort(got[0].items)
	case "range number":
		count := placeOf(got[0].num)
		if count < 0 || count > 60 {
			return nil, 5
		}
		out := &stuff{kind: "array"}
		for i := range count {
			out.items = append(out.items, made(numberOf(i)))
		}
		return out, 0
	case "has object text":
		return truthStuff(slices.Contains(got[0].shown(), got[1].text)), 0
	case "join text array":
		return a.join(got[0].text, got[1].items)
	case "map function array":
		call := tree(impl.NodeCall, "", nameTree("function_of"), nameTree("item_of"))
		out := &stuff{kind: "array"}
		for _, item := range got[1].items {
			out.items = append(out.items, &pot{tree: call, sees: sight{names: map[string]*pot{"function_of": given[0], "item_of": item}}})
		}
		return out, 0
	case "filter function array":
		return a.filter(got[0], got[1].items)
	case "fold function array":
		return a.fold(got[0], got[1].items, given[2])
	}
	if name == "type" {
		return &stuff{kind: "text", text: got[0].kind}, 0
	}
	if name == "text" {
		v, code := a.whole(got[0])
		if code != 0 {
			return nil, code
		}
		return short(jsonOf(v))
	}
	return nil, 3
}

// ready is an array of things that are there already.
func ready[T any](list []T, make func(T) stuff) (*stuff, int) {
	if len(list) > 60 {
		return nil, 7
	}
	out := &stuff{kind: "array"}
	for _, x := range list {
		out.items = append(out.items, made(make(x)))
	}
	return out, 0
}

func (a *again) sort(items []*pot) (*stuff, int) {
	var got []stuff
	for _, p := range items {
		x, code := a.ask(p)
		if code != 0 {
			return nil, code
		}
		got = append(got, *x)
		if x.kind != "number" && x.kind != "text" || x.kind != got[0].kind {
			return nil, 3
		}
	}
	sort.SliceStable(got, func(i, j int) bool {
		return impl.DecCmp(got[i].num, got[j].num) < 0 || got[i].text < got[j].text
	})
	return ready(got, func(x stuff) stuff { return x })
}

func (a *again) join(between string, items []*pot) (*stuff, int) {
	out := ""
	for i, p := range items {
		x, code := a.ask(p)
		if code != 0 {
			return nil, code
		}
		if x.kind != "text" {
			return nil, 3
		}
		if i > 0 {
			out += between
		}
		out += x.text
	}
	return short(out)
}

func (a *again) filter(function *stuff, items []*pot) (*stuff, int) {
	out := &stuff{kind: "array"}
	for _, p := range items {
		x, code := a.call(function, []*pot{p})
		if code != 0 {
			return nil, code
		}
		if x.kind != "truth" {
			return nil, 3
		}
		if x.truth {
			out.items = append(out.items, p)
		}
	}
	return out, 0
}

func (a *again) fold(function *stuff, items []*pot, start *pot) (*stuff, int) {
	out, code := a.ask(start)
	for _, p := range items {
		if code != 0 {
			return nil, code
		}
		out, code = a.call(function, []*pot{made(*out), p})
	}
	return out, code
}
