// Package impl: papers that are worked out only as far as they are asked for.
package impl

import (
	"cmp"
	"iter"
	"strings"
)

// Limits of decimals.
const (
	ManMax = 99999999
	ExpMax = 8
)

// Limits on the way to a decimal.
const (
	wholeMax   = 100000000000000000 // ten times as much, and a figure more, is an int still
	figuresMax = 17                 // so many figures stay below wholeMax
	manFigures = 8                  // how many figures ManMax has
)

// Dec is a number: a whole one times a power of ten.
type Dec struct {
	Man int
	Exp int
}

// DecOk says whether a number is in its form: no nought at the end.
func DecOk(d Dec) bool {
	if d.Man == 0 {
		return d.Exp == 0
	}
	return within(d.Man, ManMax) && within(d.Exp, ExpMax) && d.Man%10 != 0
}

// DecNew is a number in its form, if it has room.
func DecNew(man int, exp int) (Dec, bool) {
	if !within(man, wholeMax) || !within(exp, 4*ExpMax) {
		return Dec{}, false
	}
	d := Dec{Man: man, Exp: exp}.stripped()
	if !DecOk(d) {
		return Dec{}, false
	}
	return d, true
}

// DecAdd is two numbers together, if that has room.
func DecAdd(a Dec, b Dec) (Dec, bool) {
	if !DecOk(a) || !DecOk(b) {
		return Dec{}, false
	}
	power := min(a.Exp, b.Exp)
	x, xNear := a.manAt(power)
	y, yNear := b.manAt(power)
	if !xNear || !yNear {
		return Dec{}, false
	}
	return DecNew(x+y, power)
}

// DecSub is a number less another one, if that has room.
func DecSub(a Dec, b Dec) (Dec, bool) {
	return DecAdd(a, b.opposite())
}

// DecMul is a number times another one, if that has room.
func DecMul(a Dec, b Dec) (Dec, bool) {
	if !DecOk(a) || !DecOk(b) {
		return Dec{}, false
	}
	return DecNew(a.Man*b.Man, a.Exp+b.Exp)
}

// DecDiv is a number divided by another one, cut behind so many places, if that has room.
func DecDiv(a Dec, b Dec, places int) (Dec, bool) {
	if !DecOk(a) || !DecOk(b) || b.Man == 0 || places < 0 || places > ExpMax {
		return Dec{}, false
	}
	whole, ok := quotient(a.Man, b.Man, a.Exp-b.Exp+places)
	if !ok {
		return Dec{}, false
	}
	return DecNew(whole, -places)
}

// DecMod is what is left of a number by another one.
func DecMod(a Dec, b Dec) (Dec, bool) {
	times, ok := DecDiv(a, b, 0)
	if !ok {
		return Dec{}, false
	}
	taken, ok := DecMul(b, times)
	if !ok {
		return Dec{}, false
	}
	return DecSub(a, taken)
}

// DecCmp is below 0, 0 or above 0, as a number is less than another one, the same, or more.
func DecCmp(a Dec, b Dec) int {
	if !DecOk(a) || !DecOk(b) {
		return 0
	}
	power := min(a.Exp, b.Exp)
	x, xNear := a.manAt(power)
	y, yNear := b.manAt(power)
	if !xNear {
		return cmp.Compare(a.Man, 0)
	}
	if !yNear {
		return cmp.Compare(0, b.Man)
	}
	return cmp.Compare(x, y)
}

// DecText is a number as a text.
func DecText(d Dec) string {
	if !DecOk(d) {
		return ""
	}
	var out strings.Builder
	if d.Man < 0 {
		out.WriteByte('-')
	}
	for place, figure := range d.figures() {
		if place == -1 {
			out.WriteByte('.')
		}
		out.WriteByte(figure)
	}
	return out.String()
}

// DecRead reads a number.
func DecRead(text string) (Dec, bool) {
	unsigned, below := strings.CutPrefix(text, "-")
	ahead, behind, point := strings.Cut(unsigned, ".")
	if !areFigures(ahead) || point && !areFigures(behind) {
		return Dec{}, false
	}
	if len(ahead) > 1 && ahead[0] == '0' || len(ahead)+len(behind) > figuresMax {
		return Dec{}, false
	}
	man := wholeOf(ahead + behind)
	if below {
		man = -man
	}
	return DecNew(man, -len(behind))
}

// stripped is the same number without noughts at its end.
func (d Dec) stripped() Dec {
	if d.Man == 0 {
		return Dec{}
	}
	for d.Man%10 == 0 {
		d.Man /= 10
		d.Exp++
	}
	return d
}

// opposite is the same number on the other side of 0.
func (d Dec) opposite() Dec {
	return Dec{Man: -d.Man, Exp: d.Exp}
}

// manAt is Man, if the number is written with a power that is not above its own.
// It is false, if that power is so far below that what is left is beyond ten
// times ManMax: then nothing in its form at that power makes up for it.
func (d Dec) manAt(power int) (int, bool) {
	if d.Man == 0 {
		return 0, true
	}
	if d.Exp-power > manFigures {
		return 0, false
	}
	return d.Man * tenTo(d.Exp-power), true
}

// figures tells places, from the left, and the figure at each: all that the
// number has, and those that are needed to reach the point and one ahead of it.
func (d Dec) figures() iter.Seq2[int, byte] {
	return func(yield func(int, byte) bool) {
		highest := max(d.Exp+figureCount(d.Man)-1, 0)
		lowest := min(d.Exp, 0)
		for place := highest; place >= lowest; place-- {
			if !yield(place, d.figureAt(place)) {
				return
			}
		}
	}
}

// figureAt is the figure that stands at a place, places behind the point being below 0.
func (d Dec) figureAt(place int) byte {
	if place < d.Exp {
		return '0'
	}
	return '0' + byte(max(d.Man, -d.Man)/tenTo(place-d.Exp)%10)
}

// figureCount is how many figures a whole number has; 0 has one.
func figureCount(whole int) int {
	count := 1
	for whole /= 10; whole != 0; whole /= 10 {
		count++
	}
	return count
}

// quotient is a whole number, divided by another one and times ten to a power,
// cut towards 0; false, if that is further from 0 than wholeMax. The noughts of
// the power are brought down one by one, as all at once they would not fit an int.
func quotient(whole int, by int, power int) (int, bool) {
	cut, rest := whole/by, whole%by
	for ; power > 0; power-- {
		cut, rest = cut*10+rest*10/by, rest*10%by
		if !within(cut, wholeMax) {
			return 0, false
		}
	}
	for ; power < 0; power++ {
		cut /= 10
	}
	return cut, true
}

// within says whether a number is no further from 0 than a limit.
func within(number int, limit int) bool {
	return -limit <= number && number <= limit
}

// tenTo is ten to a power that is not below 0.
func tenTo(power int) int {
	out := 1
	for range power {
		out *= 10
	}
	return out
}

// areFigures says whether a text is one figure or more, and nothing else.
func areFigures(text string) bool {
	for i := range len(text) {
		if !isFigure(text[i]) {
			return false
		}
	}
	return text != ""
}

// isFigure says whether a byte is one of 0 to 9.
func isFigure(b byte) bool {
	return '0' <= b && b <= '9'
}

// wholeOf is the number of at most figuresMax figures.
func wholeOf(figures string) int {
	whole := 0
	for i := range len(figures) {
		whole = whole*10 + int(figures[i]-'0')
	}
	return whole
}
