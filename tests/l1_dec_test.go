package tests

import (
	"fmt"
	"math"
	"math/big"
	"strings"
	"testing"

	"loop.example/chancery/impl"
)

type binary func(a, b impl.Dec) (impl.Dec, bool)

// refusesWrong asks for nothing and false, whichever side is not in its form.
func refusesWrong(t *testing.T, name string, do binary) {
	t.Helper()
	for _, wrong := range notInForm() {
		for _, other := range append(notInForm(), impl.Dec{}, impl.Dec{Man: 1}, impl.Dec{Man: -99999999, Exp: 8}) {
			got, ok := do(wrong, other)
			wantNothing(t, fmt.Sprint(name, wrong, other), got, ok)
			got, ok = do(other, wrong)
			wantNothing(t, fmt.Sprint(name, other, wrong), got, ok)
		}
	}
}

func opposite(d impl.Dec) impl.Dec {
	return impl.Dec{Man: -d.Man, Exp: d.Exp}
}

func TestLimitsOfDecimals(t *testing.T) {
	if got := [2]int{impl.ManMax, impl.ExpMax}; got != [2]int{99999999, 8} {
		t.Error(got)
	}
}

func TestP1Form(t *testing.T) {
	for _, d := range pool() {
		if !impl.DecOk(d) {
			t.Errorf("%v is in its form", d)
		}
		got, ok := impl.DecNew(d.Man, d.Exp)
		if got != d || !ok {
			t.Errorf("DecNew of %v: %v %v", d, got, ok)
		}
	}
	for _, d := range notInForm() {
		if impl.DecOk(d) {
			t.Errorf("%v is not in its form", d)
		}
	}
}

func TestP1New(t *testing.T) {
	const whole = 100000000000000000
	mans := []int{0, 1, 10, 12300, 99999999, 100000000, 100000001, 123456789, 999999990, 9999999900000000, 9999999999999999,
		99999999000000000, 99999999999999999, 12345678000000000, whole - 1, whole}
	for exp := -32; exp <= 32; exp++ {
		for _, man := range mans {
			for _, m := range []int{man, -man} {
				got, ok := impl.DecNew(m, exp)
				wantRoom(t, fmt.Sprint("DecNew ", m, " ", exp), got, ok, ratOf(impl.Dec{Man: m, Exp: exp}))
			}
		}
	}
	for power, man := 0, 1; power <= 17; power, man = power+1, man*10 {
		for exp := -32; exp <= 32; exp++ {
			got, ok := impl.DecNew(man, exp)
			if want := power+exp >= -8 && power+exp <= 8; ok != want || ok && got != (impl.Dec{Man: 1, Exp: power + exp}) {
				t.Errorf("ten to the power of %d, times %d: %v %v", power, exp, got, ok)
			}
		}
	}
}

func TestP1NewRefuses(t *testing.T) {
	const whole = 100000000000000000
	for _, c := range [][2]int{
		{whole + 1, 0}, {-whole - 1, 0}, {whole * 10, -17}, {-whole * 10, -17}, {math.MaxInt, 0}, {math.MinInt, 0}, {math.MinInt, -10},
		{0, 33}, {0, -33}, {0, math.MinInt}, {0, math.MaxInt}, {1, math.MinInt}, {1, math.MaxInt}, {whole, -33}, {math.MinInt, math.MaxInt},
		{100000000, 1}, {1, 9}, {1, -9}, {10, 8}, {123456789, 0}, {whole, -32}, {whole, -26}, {whole, -8},
	} {
		got, ok := impl.DecNew(c[0], c[1])
		wantNothing(t, fmt.Sprint("DecNew ", c), got, ok)
	}
}

func TestP2Add(t *testing.T) {
	for _, a := range pool() {
		for _, b := range pool() {
			sum, ok := impl.DecAdd(a, b)
			wantRoom(t, fmt.Sprint("DecAdd ", a, b), sum, ok, ratAdd(a, b))
			if turned, k := impl.DecAdd(b, a); turned != sum || k != ok {
				t.Fatalf("DecAdd of %v and %v the other way round: %v %v", a, b, turned, k)
			}
			if back, k := impl.DecSub(sum, b); ok && (back != a || !k) {
				t.Fatalf("DecSub takes %v from %v: %v %v", b, sum, back, k)
			}
		}
		if sum, ok := impl.DecAdd(a, impl.Dec{}); sum != a || !ok {
			t.Errorf("%v and 0: %v %v", a, sum, ok)
		}
	}
	refusesWrong(t, "DecAdd", impl.DecAdd)
}

func TestP2AddNoughts(t *testing.T) {
	for _, c := range []struct {
		a, b, sum impl.Dec
		ok        bool
	}{
		{impl.Dec{Man: 99999999}, impl.Dec{Man: 1}, impl.Dec{Man: 1, Exp: 8}, true},
		{impl.Dec{Man: 99999999}, impl.Dec{Man: 2}, impl.Dec{}, false},
		{impl.Dec{Man: 99999999}, impl.Dec{Man: 11}, impl.Dec{Man: 10000001, Exp: 1}, true},
		{impl.Dec{Man: 99999999, Exp: 1}, impl.Dec{Man: 1, Exp: 1}, impl.Dec{}, false},
		{impl.Dec{Man: 99999999, Exp: 8}, impl.Dec{Man: 1, Exp: 8}, impl.Dec{}, false},
		{impl.Dec{Man: 99999999, Exp: 8}, impl.Dec{Man: 99999991, Exp: 8}, impl.Dec{}, false},
		{impl.Dec{Man: 99999989, Exp: 7}, impl.Dec{Man: 11, Exp: 7}, impl.Dec{}, false},
		{impl.Dec{Man: 99999989, Exp: 7}, impl.Dec{Man: 21, Exp: 7}, impl.Dec{Man: 10000001, Exp: 8}, true},
		{impl.Dec{Man: -99999999, Exp: -8}, impl.Dec{Man: -1, Exp: -8}, impl.Dec{Man: -1}, true},
		{impl.Dec{Man: 1, Exp: 8}, impl.Dec{Man: -1}, impl.Dec{Man: 99999999}, true},
		{impl.Dec{Man: 1, Exp: 8}, impl.Dec{Man: 1}, impl.Dec{}, false},
		{impl.Dec{Man: 1, Exp: 8}, impl.Dec{Man: -99999999, Exp: -1}, impl.Dec{}, false},
		{impl.Dec{Man: 99999999, Exp: 8}, impl.Dec{Man: 1, Exp: -8}, impl.Dec{}, false},
		{impl.Dec{Man: 99999999, Exp: 8}, impl.Dec{}, impl.Dec{Man: 99999999, Exp: 8}, true},
	} {
		if sum, ok := impl.DecAdd(c.a, c.b); sum != c.sum || ok != c.ok {
			t.Errorf("DecAdd of %v and %v: %v %v", c.a, c.b, sum, ok)
		}
	}
}

func TestP3Sub(t *testing.T) {
	for _, a := range pool() {
		for _, b := range pool() {
			less, ok := impl.DecSub(a, b)
			wantRoom(t, fmt.Sprint("DecSub ", a, b), less, ok, ratSub(a, b))
			if turned, k := impl.DecSub(b, a); turned != opposite(less) || k != ok {
				t.Fatalf("DecSub of %v and %v the other way round: %v %v", a, b, turned, k)
			}
		}
		if less, ok := impl.DecSub(a, a); less != (impl.Dec{}) || !ok {
			t.Errorf("%v less itself: %v %v", a, less, ok)
		}
	}
	refusesWrong(t, "DecSub", impl.DecSub)
}

func TestP4Mul(t *testing.T) {
	for _, a := range pool() {
		for _, b := range pool() {
			product, ok := impl.DecMul(a, b)
			wantRoom(t, fmt.Sprint("DecMul ", a, b), product, ok, ratMul(a, b))
			if turned, k := impl.DecMul(b, a); turned != product || k != ok {
				t.Fatalf("DecMul of %v and %v the other way round: %v %v", a, b, turned, k)
			}
		}
		if product, ok := impl.DecMul(a, impl.Dec{Man: 1}); product != a || !ok {
			t.Errorf("%v times 1: %v %v", a, product, ok)
		}
		if product, ok := impl.DecMul(impl.Dec{}, a); product != (impl.Dec{}) || !ok {
			t.Errorf("%v times 0: %v %v", a, product, ok)
		}
	}
	refusesWrong(t, "DecMul", impl.DecMul)
}

func TestP5Three(t *testing.T) {
	list, sums, products := smallPool(), 0, 0
	for _, a := range list {
		for _, b := range list {
			for _, c := range list {
				sums += sameSum(t, a, b, c)
				products += sameProduct(t, a, b, c)
			}
		}
	}
	if sums < 1000 || products < 1000 {
		t.Errorf("only %d sums and %d products have room", sums, products)
	}
}

// sameSum holds both ways of putting three together against each other; 1, if all has room.
func sameSum(t *testing.T, a, b, c impl.Dec) int {
	ab, ok1 := impl.DecAdd(a, b)
	abc, ok2 := impl.DecAdd(ab, c)
	bc, ok3 := impl.DecAdd(b, c)
	other, ok4 := impl.DecAdd(a, bc)
	if !ok1 || !ok2 || !ok3 || !ok4 {
		return 0
	}
	if abc != other {
		t.Fatalf("%v, %v and %v: %v and %v", a, b, c, abc, other)
	}
	return 1
}

// sameProduct holds the product of a sum against the sum of the products; 1, if all has room.
func sameProduct(t *testing.T, a, b, c impl.Dec) int {
	sum, ok1 := impl.DecAdd(b, c)
	whole, ok2 := impl.DecMul(a, sum)
	ab, ok3 := impl.DecMul(a, b)
	ac, ok4 := impl.DecMul(a, c)
	parts, ok5 := impl.DecAdd(ab, ac)
	if !ok1 || !ok2 || !ok3 || !ok4 || !ok5 {
		return 0
	}
	if whole != parts {
		t.Fatalf("%v times %v and %v: %v and %v", a, b, c, whole, parts)
	}
	return 1
}

func TestP6Div(t *testing.T) {
	limit, _ := new(big.Int).SetString("100000000000000000", 10)
	for _, a := range pool() {
		for _, b := range pool()[1:] {
			for _, places := range []int{0, 1, 5, 7, 8} {
				got, ok := impl.DecDiv(a, b, places)
				what := fmt.Sprint("DecDiv ", a, b, places)
				whole := wholeQuotient(a, b, places)
				if whole.CmpAbs(limit) > 0 {
					wantNothing(t, what, got, ok)
					continue
				}
				number := new(big.Rat).Mul(new(big.Rat).SetInt(whole), tenTo(-places))
				wantRoom(t, what, got, ok, number)
				if ok {
					nearQuotient(t, a, b, got, places)
				}
			}
		}
	}
}

// nearQuotient asks that the quotient times the divisor is the number, but for less than the divisor at the last place, and not further from 0.
func nearQuotient(t *testing.T, a, b, quotient impl.Dec, places int) {
	back := ratMul(quotient, b)
	rest := new(big.Rat).Sub(ratOf(a), back)
	last := new(big.Rat).Mul(ratOf(b), tenTo(-places))
	if rest.Abs(rest).Cmp(last.Abs(last)) >= 0 {
		t.Fatalf("%v by %v at %d places is %v: too far away", a, b, places, quotient)
	}
	if back.Abs(back).Cmp(new(big.Rat).Abs(ratOf(a))) > 0 {
		t.Fatalf("%v by %v at %d places is %v: not cut towards 0", a, b, places, quotient)
	}
}

func TestP6DivEdges(t *testing.T) {
	for _, c := range []struct {
		a, b   impl.Dec
		places int
		want   impl.Dec
		ok     bool
	}{
		{impl.Dec{Man: 1}, impl.Dec{Man: 3}, 8, impl.Dec{Man: 33333333, Exp: -8}, true},
		{impl.Dec{Man: -1}, impl.Dec{Man: 3}, 0, impl.Dec{}, true},
		{impl.Dec{Man: -2}, impl.Dec{Man: 3}, 2, impl.Dec{Man: -66, Exp: -2}, true},
		{impl.Dec{Man: 2}, impl.Dec{Man: -3}, 2, impl.Dec{Man: -66, Exp: -2}, true},
		{impl.Dec{Man: 1, Exp: 1}, impl.Dec{Man: 3}, 7, impl.Dec{Man: 33333333, Exp: -7}, true},
		{impl.Dec{Man: 1, Exp: 1}, impl.Dec{Man: 3}, 8, impl.Dec{}, false},
		{impl.Dec{}, impl.Dec{Man: -7, Exp: -8}, 8, impl.Dec{}, true},
		{impl.Dec{Man: 99999999, Exp: 1}, impl.Dec{Man: 1}, 8, impl.Dec{Man: 99999999, Exp: 1}, true},
		{impl.Dec{Man: 11, Exp: 8}, impl.Dec{Man: 1}, 7, impl.Dec{Man: 11, Exp: 8}, true},
		{impl.Dec{Man: 11, Exp: 8}, impl.Dec{Man: 1}, 8, impl.Dec{}, false},
		{impl.Dec{Man: -11, Exp: 8}, impl.Dec{Man: 1}, 8, impl.Dec{}, false},
		{impl.Dec{Man: 99999999, Exp: 8}, impl.Dec{Man: 1, Exp: -8}, 8, impl.Dec{}, false},
		{impl.Dec{Man: 99999999, Exp: 8}, impl.Dec{Man: 1}, 0, impl.Dec{Man: 99999999, Exp: 8}, true},
		{impl.Dec{Man: 1, Exp: -8}, impl.Dec{Man: 99999999, Exp: 8}, 8, impl.Dec{}, true},
		{impl.Dec{Man: 1}, impl.Dec{}, 0, impl.Dec{}, false},
		{impl.Dec{}, impl.Dec{}, 8, impl.Dec{}, false},
		{impl.Dec{Man: 1}, impl.Dec{Man: 1}, -1, impl.Dec{}, false},
		{impl.Dec{Man: 1}, impl.Dec{Man: 1}, 9, impl.Dec{}, false},
		{impl.Dec{Man: 1}, impl.Dec{Man: 1}, math.MinInt, impl.Dec{}, false},
		{impl.Dec{Man: 1}, impl.Dec{Man: 1}, math.MaxInt, impl.Dec{}, false},
	} {
		if got, ok := impl.DecDiv(c.a, c.b, c.places); got != c.want || ok != c.ok {
			t.Errorf("DecDiv of %v by %v at %d places: %v %v", c.a, c.b, c.places, got, ok)
		}
	}
	refusesWrong(t, "DecDiv", func(a, b impl.Dec) (impl.Dec, bool) { return impl.DecDiv(a, b, 2) })
}

func TestP7Mod(t *testing.T) {
	for _, a := range pool() {
		for _, b := range pool()[1:] {
			got, ok := impl.DecMod(a, b)
			what := fmt.Sprint("DecMod ", a, b)
			times := new(big.Rat).SetInt(wholeQuotient(a, b, 0))
			taken := new(big.Rat).Mul(times, ratOf(b))
			_, room := roomOf(times)
			_, takenRoom := roomOf(taken)
			if !room || !takenRoom {
				wantNothing(t, what, got, ok)
				continue
			}
			wantRoom(t, what, got, ok, new(big.Rat).Sub(ratOf(a), taken))
			if ok {
				isRest(t, a, b, got)
			}
		}
		got, ok := impl.DecMod(a, impl.Dec{})
		wantNothing(t, fmt.Sprint("DecMod by 0 of ", a), got, ok)
	}
	refusesWrong(t, "DecMod", impl.DecMod)
}

// isRest asks that a rest is nearer to 0 than the divisor, of the number's sign, and its own rest.
func isRest(t *testing.T, a, b, rest impl.Dec) {
	if new(big.Rat).Abs(ratOf(rest)).Cmp(new(big.Rat).Abs(ratOf(b))) >= 0 {
		t.Fatalf("%v is left of %v by %v: too much", rest, a, b)
	}
	if rest.Man != 0 && (rest.Man < 0) != (a.Man < 0) {
		t.Fatalf("%v is left of %v by %v: the other sign", rest, a, b)
	}
	if again, ok := impl.DecMod(rest, b); again != rest || !ok {
		t.Fatalf("%v is left of %v by %v, and then %v %v", rest, a, b, again, ok)
	}
}

func TestP7ModEdges(t *testing.T) {
	for _, c := range []struct {
		a, b, want impl.Dec
		ok         bool
	}{
		{impl.Dec{Man: 125, Exp: -1}, impl.Dec{Man: -3, Exp: -1}, impl.Dec{Man: 2, Exp: -1}, true},
		{impl.Dec{Man: -7}, impl.Dec{Man: 3}, impl.Dec{Man: -1}, true},
		{impl.Dec{Man: 7}, impl.Dec{Man: 7}, impl.Dec{}, true},
		{impl.Dec{Man: 1, Exp: 8}, impl.Dec{Man: 3}, impl.Dec{Man: 1}, true},
		{impl.Dec{Man: 1, Exp: 8}, impl.Dec{Man: 7, Exp: -1}, impl.Dec{}, false},
		{impl.Dec{Man: 99999999, Exp: 8}, impl.Dec{Man: 1, Exp: -8}, impl.Dec{}, false},
	} {
		if got, ok := impl.DecMod(c.a, c.b); got != c.want || ok != c.ok {
			t.Errorf("DecMod of %v by %v: %v %v", c.a, c.b, got, ok)
		}
	}
}

func TestP8Cmp(t *testing.T) {
	for _, a := range pool() {
		for _, b := range pool() {
			got := impl.DecCmp(a, b)
			if want := ratOf(a).Cmp(ratOf(b)); got != want {
				t.Fatalf("DecCmp of %v and %v: %d, want %d", a, b, got, want)
			}
			if turned := impl.DecCmp(b, a); turned != -got {
				t.Fatalf("DecCmp of %v and %v the other way round: %d", a, b, turned)
			}
			if (got == 0) != (a == b) {
				t.Fatalf("DecCmp of %v and %v: %d", a, b, got)
			}
			if less, ok := impl.DecSub(a, b); ok && impl.DecCmp(less, impl.Dec{}) != got {
				t.Fatalf("DecSub of %v and %v is %v, DecCmp %d", a, b, less, got)
			}
		}
	}
	for _, wrong := range notInForm() {
		for _, other := range append(notInForm(), impl.Dec{}, impl.Dec{Man: 1}, impl.Dec{Man: -1, Exp: 8}) {
			if x, y := impl.DecCmp(wrong, other), impl.DecCmp(other, wrong); x != 0 || y != 0 {
				t.Errorf("DecCmp of %v and %v: %d and %d", wrong, other, x, y)
			}
		}
	}
}

func TestP9CmpThree(t *testing.T) {
	for _, a := range smallPool() {
		for _, b := range smallPool() {
			for _, c := range smallPool() {
				if impl.DecCmp(a, b) <= 0 && impl.DecCmp(b, c) <= 0 && impl.DecCmp(a, c) > 0 {
					t.Fatalf("%v, %v, %v are not in order", a, b, c)
				}
				x, ok1 := impl.DecAdd(a, c)
				y, ok2 := impl.DecAdd(b, c)
				if ok1 && ok2 && impl.DecCmp(x, y) != impl.DecCmp(a, b) {
					t.Fatalf("%v put to %v and %v changes their order", c, a, b)
				}
			}
		}
	}
}

func TestP10Text(t *testing.T) {
	for _, c := range []struct {
		dec  impl.Dec
		text string
	}{
		{impl.Dec{}, "0"}, {impl.Dec{Man: 7}, "7"}, {impl.Dec{Man: -7}, "-7"}, {impl.Dec{Man: 125, Exp: -1}, "12.5"},
		{impl.Dec{Man: 5, Exp: -1}, "0.5"}, {impl.Dec{Man: -25, Exp: -3}, "-0.025"}, {impl.Dec{Man: -7, Exp: 3}, "-7000"},
		{impl.Dec{Man: 1, Exp: 8}, "100000000"}, {impl.Dec{Man: 1, Exp: -8}, "0.00000001"}, {impl.Dec{Man: 101, Exp: -2}, "1.01"},
		{impl.Dec{Man: 99999999, Exp: 8}, "9999999900000000"}, {impl.Dec{Man: -99999999, Exp: -8}, "-0.99999999"},
		{impl.Dec{Man: 99999999, Exp: -7}, "9.9999999"}, {impl.Dec{Man: 10000001, Exp: -4}, "1000.0001"},
	} {
		if text := impl.DecText(c.dec); text != c.text {
			t.Errorf("DecText of %v: %q, want %q", c.dec, text, c.text)
		}
		if d, ok := impl.DecRead(c.text); d != c.dec || !ok {
			t.Errorf("DecRead of %q: %v %v", c.text, d, ok)
		}
	}
	for _, d := range pool() {
		if back, ok := impl.DecRead(impl.DecText(d)); back != d || !ok {
			t.Errorf("%v is read back as %v %v", d, back, ok)
		}
	}
	for _, d := range notInForm() {
		if text := impl.DecText(d); text != "" {
			t.Errorf("DecText of %v: %q", d, text)
		}
	}
}

func TestP10Read(t *testing.T) {
	for _, text := range []string{
		"0", "-0", "0.0", "-0.000", "0.0000000000000000", "12.50", "-1.0", "100", "1.0000000000000000", "-99999999.000000000",
		"9999999900000000", "0.10", "0.0000000100000000", "100000000", "1000000.100",
	} {
		d, ok := impl.DecRead(text)
		want, _ := new(big.Rat).SetString(text)
		wantRoom(t, "DecRead "+text, d, ok, want)
		if !ok {
			t.Errorf("%q is not read", text)
		}
		written := impl.DecText(d)
		if again, k := impl.DecRead(written); len(written) > len(text) || again != d || !k {
			t.Errorf("%q is written as %q, and that read as %v %v", text, written, again, k)
		}
	}
}

func TestP10ReadRefuses(t *testing.T) {
	for _, text := range []string{
		"", "-", "--1", "+1", " 1", "1 ", "1\n", "01", "-01", "00", "00.5", "1.", ".5", "-.5", ".", "-.", "1.2.3", "1..2", "1.-2",
		"1e5", "1_0", "0x1", "a", "1a", "1.a", "\x00", "1\x00", "1,5", "/", ":", "1/", "1:", "\u0661",
		"0.00000000000000000", "1.00000000000000000", "100000000000000000", "-1.00000000000000000", // 18 figures
		"10000000000000000", "1000000000", "0.000000001", "123456789", "1234567.89", "99999999.1", "-0.123456789", "10000000.01", "1000000001",
		strings.Repeat("1", 30), "0." + strings.Repeat("0", 40), "1" + strings.Repeat("0", 5000),
	} {
		d, ok := impl.DecRead(text)
		wantNothing(t, "DecRead "+text, d, ok)
	}
}
