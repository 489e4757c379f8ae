package tests

import (
	"math"
	"math/big"
	"testing"

	"loop.example/chancery/impl"
)

// The tests hold the program's decimals against fractions without bounds.

func tenTo(power int) *big.Rat {
	whole := new(big.Int).Exp(big.NewInt(10), big.NewInt(int64(max(power, -power))), nil)
	if power < 0 {
		return new(big.Rat).SetFrac(big.NewInt(1), whole)
	}
	return new(big.Rat).SetInt(whole)
}

func ratOf(d impl.Dec) *big.Rat {
	return new(big.Rat).Mul(new(big.Rat).SetInt64(int64(d.Man)), tenTo(d.Exp))
}

func ratAdd(a, b impl.Dec) *big.Rat {
	return new(big.Rat).Add(ratOf(a), ratOf(b))
}

func ratSub(a, b impl.Dec) *big.Rat {
	return new(big.Rat).Sub(ratOf(a), ratOf(b))
}

func ratMul(a, b impl.Dec) *big.Rat {
	return new(big.Rat).Mul(ratOf(a), ratOf(b))
}

// wholeQuotient is a divided by b, as a whole number of the last place, cut towards 0.
func wholeQuotient(a, b impl.Dec, places int) *big.Int {
	q := new(big.Rat).Quo(ratOf(a), ratOf(b))
	q.Mul(q, tenTo(places))
	return new(big.Int).Quo(q.Num(), q.Denom())
}

// roomOf is the decimal in its form that is a number, found by trying all powers.
func roomOf(r *big.Rat) (impl.Dec, bool) {
	if r.Sign() == 0 {
		return impl.Dec{}, true
	}
	for exp := -8; exp <= 8; exp++ {
		man := new(big.Rat).Mul(r, tenTo(-exp))
		if !man.IsInt() || !man.Num().IsInt64() {
			continue
		}
		if m := man.Num().Int64(); m%10 != 0 && -99999999 <= m && m <= 99999999 {
			return impl.Dec{Man: int(m), Exp: exp}, true
		}
	}
	return impl.Dec{}, false
}

// pool is decimals in their form, the greatest, the smallest and ordinary ones.
func pool() []impl.Dec {
	out := []impl.Dec{{}}
	for _, man := range []int{1, 2, 3, 5, 9, 11, 25, 101, 12345678, 33333333, 50000001, 99999998, 99999999} {
		for _, exp := range []int{-8, -7, -1, 0, 1, 7, 8} {
			out = append(out, impl.Dec{Man: man, Exp: exp}, impl.Dec{Man: -man, Exp: exp})
		}
	}
	return out
}

// smallPool is few enough decimals for all threes of them.
func smallPool() []impl.Dec {
	out := []impl.Dec{{}}
	for _, man := range []int{1, 3, 99999999, 12345678} {
		for _, exp := range []int{-8, -1, 0, 1, 8} {
			out = append(out, impl.Dec{Man: man, Exp: exp}, impl.Dec{Man: -man, Exp: exp})
		}
	}
	return out
}

// notInForm is decimals that are not in their form.
func notInForm() []impl.Dec {
	return []impl.Dec{
		{Man: 10}, {Man: -10}, {Man: 120, Exp: -3}, {Man: 99999990},
		{Exp: 1}, {Exp: -1}, {Exp: 9},
		{Man: 100000000}, {Man: 100000001}, {Man: -100000000}, {Man: -100000001},
		{Man: 1, Exp: 9}, {Man: 1, Exp: -9}, {Man: -3, Exp: 9}, {Man: -3, Exp: -9},
		{Man: math.MinInt}, {Man: math.MaxInt},
		{Man: 1, Exp: math.MinInt}, {Man: 1, Exp: math.MaxInt},
		{Man: math.MinInt, Exp: math.MinInt}, {Man: math.MaxInt, Exp: math.MaxInt},
	}
}

// wantRoom holds an answer against the number that it must be, if that has room.
func wantRoom(t *testing.T, what string, got impl.Dec, ok bool, number *big.Rat) {
	t.Helper()
	if want, room := roomOf(number); got != want || ok != room {
		t.Fatalf("%s: %v %v, want %v %v", what, got, ok, want, room)
	}
}

// wantNothing holds an answer against nothing and false.
func wantNothing(t *testing.T, what string, got impl.Dec, ok bool) {
	t.Helper()
	if ok || got != (impl.Dec{}) {
		t.Fatalf("%s: %v %v, want nothing and false", what, got, ok)
	}
}
