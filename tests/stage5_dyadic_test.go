package tests

import (
	"math"
	"math/big"
	"testing"

	"loop.example/goboard/impl"
)

// checkNumber checks a number that is returned with a bool; without one it is the zero value.
func checkNumber(t *testing.T, what string, got impl.Dyadic, ok bool, want impl.Dyadic, found bool) {
	t.Helper()
	if got != want || ok != found {
		t.Errorf("%s = %v, %v, not %v, %v", what, got, ok, want, found)
	}
}

// TestConstantsOfNumbers checks limits.
func TestConstantsOfNumbers(t *testing.T) {
	if impl.MaxNum != 9999 || impl.MaxExp != 8 {
		t.Error("limits")
	}
}

// TestMakeDyadic checks fractions that are 0, negative, even and odd, at the limits and behind them.
func TestMakeDyadic(t *testing.T) {
	for _, x := range []struct{ num, exp, wantNum, wantExp int }{
		{0, 0, 0, 0}, {0, 1, 0, 0}, {0, 8, 0, 0}, {6, 2, 3, 1}, {-6, 2, -3, 1}, {6, 1, 3, 0}, {-6, 1, -3, 0}, {8, 3, 1, 0}, {-8, 3, -1, 0}, {8, 0, 8, 0}, {-8, 0, -8, 0}, {8, 4, 1, 1},
		{7, 0, 7, 0}, {7, 8, 7, 8}, {-7, 8, -7, 8}, {1, 1, 1, 1}, {-1, 1, -1, 1}, {256, 8, 1, 0}, {-256, 8, -1, 0}, {512, 8, 2, 0}, {-512, 8, -2, 0}, {128, 8, 1, 1}, {8192, 8, 32, 0}, {9984, 8, 39, 0},
		{9999, 0, 9999, 0}, {-9999, 0, -9999, 0}, {9999, 8, 9999, 8}, {-9999, 8, -9999, 8}, {9998, 8, 4999, 7}, {-9998, 1, -4999, 0}, {9996, 1, 4998, 0},
	} {
		got, ok := impl.MakeDyadic(x.num, x.exp)
		if got != number(x.wantNum, x.wantExp) || !ok {
			t.Errorf("MakeDyadic(%d, %d) = %v, %v", x.num, x.exp, got, ok)
		}
	}
	for _, x := range [][2]int{
		{10000, 0}, {-10000, 0}, {10000, 8}, {-10000, 4}, {10001, 1}, {0, -1}, {1, -1}, {0, 9}, {1, 9}, {512, 9}, {9999, 9}, {-9999, -1},
		{math.MaxInt, 0}, {math.MinInt, 0}, {math.MinInt, 8}, {1, math.MaxInt}, {0, math.MaxInt}, {1, math.MinInt}, {math.MinInt, math.MinInt}, {256, 64},
	} {
		if got, ok := impl.MakeDyadic(x[0], x[1]); got != zeroNumber || ok {
			t.Errorf("MakeDyadic(%d, %d) = %v, %v", x[0], x[1], got, ok)
		}
	}
}

// TestP64QuotientsAreInLowestTerms checks promise 64 for all fractions.
func TestP64QuotientsAreInLowestTerms(t *testing.T) {
	for exp := range impl.MaxExp + 1 {
		for num := -impl.MaxNum; num <= impl.MaxNum; num++ {
			got, ok := impl.MakeDyadic(num, exp)
			if !ok || !modelValid(got) || got.Num<<exp != num<<got.Exp {
				t.Fatalf("MakeDyadic(%d, %d) = %v, %v", num, exp, got, ok)
			}
			if twice, ok := impl.MakeDyadic(2*num, exp+1); ok && twice != got {
				t.Fatalf("MakeDyadic(%d, %d) = %v, but with both halves doubled %v", num, exp, got, twice)
			}
		}
	}
}

// TestAddDyadic checks sums that become integers, that become 0, and that are no longer valid.
func TestAddDyadic(t *testing.T) {
	for _, x := range []struct{ a, b, want impl.Dyadic }{
		{number(1, 1), number(1, 2), number(3, 2)}, {number(1, 1), number(1, 1), number(1, 0)}, {number(3, 3), number(5, 3), number(1, 0)}, {number(-3, 2), number(-1, 2), number(-1, 0)},
		{number(1, 1), number(-1, 1), zeroNumber}, {number(-9999, 8), number(9999, 8), zeroNumber}, {number(5, 0), number(-5, 0), zeroNumber}, {zeroNumber, zeroNumber, zeroNumber},
		{number(1, 8), number(1, 8), number(1, 7)}, {number(7, 0), number(-1, 8), number(1791, 8)}, {number(3, 1), number(-1, 2), number(5, 2)}, {number(-3, 1), number(1, 0), number(-1, 1)},
		{number(9999, 0), zeroNumber, number(9999, 0)}, {number(9998, 0), number(1, 0), number(9999, 0)}, {number(-9998, 0), number(-1, 0), number(-9999, 0)}, {number(4999, 0), number(1, 1), number(9999, 1)},
		{number(9999, 8), number(1, 8), number(625, 4)}, {number(9999, 8), number(9999, 8), number(9999, 7)}, {number(9999, 1), number(9999, 1), number(9999, 0)}, {number(39, 0), number(15, 8), number(9999, 8)},
		{number(-39, 0), number(-15, 8), number(-9999, 8)}, {number(9999, 0), number(-9999, 0), zeroNumber}, {number(5000, 0), number(-1, 1), number(9999, 1)},
	} {
		got, ok := impl.AddDyadic(x.a, x.b)
		checkNumber(t, "AddDyadic", got, ok, x.want, true)
	}
	for _, x := range [][2]impl.Dyadic{
		{number(9999, 0), number(1, 0)}, {number(-9999, 0), number(-1, 0)}, {number(9999, 0), number(1, 1)}, {number(5000, 0), number(1, 1)}, {number(-5000, 0), number(-1, 1)}, {number(39, 0), number(17, 8)},
		{number(-39, 0), number(-17, 8)}, {number(9999, 0), number(9999, 0)}, {number(9999, 8), number(1, 7)}, {number(9999, 0), number(-1, 8)}, {number(9999, 7), number(9999, 8)}, {number(40, 0), number(1, 8)},
	} {
		got, ok := impl.AddDyadic(x[0], x[1])
		checkNumber(t, "AddDyadic", got, ok, zeroNumber, false)
	}
}

// TestInvalidNumbers checks numbers that are not valid on either side.
func TestInvalidNumbers(t *testing.T) {
	check := func(a impl.Dyadic, b impl.Dyadic) {
		t.Helper()
		sum, ok := impl.AddDyadic(a, b)
		checkNumber(t, "AddDyadic of an invalid number", sum, ok, zeroNumber, false)
		between, ok := impl.SimplestBetween(a, b)
		checkNumber(t, "SimplestBetween of an invalid number", between, ok, zeroNumber, false)
		if got := impl.CompareDyadic(a, b); got != 2 {
			t.Errorf("CompareDyadic(%v, %v) = %d", a, b, got)
		}
	}
	for _, bad := range badNumbers {
		for _, good := range []impl.Dyadic{zeroNumber, number(-9999, 0), number(9999, 0), number(-1, 8), number(5, 1)} {
			check(bad, good)
			check(good, bad)
		}
		for _, other := range badNumbers {
			check(bad, other)
		}
	}
}

// forNumberPairs calls a function for all pairs of numbers.
func forNumberPairs(f func(a impl.Dyadic, b impl.Dyadic)) {
	list := sampleNumbers()
	for _, a := range list {
		for _, b := range list {
			f(a, b)
		}
	}
}

// TestAdditionModel checks sums, and which of them are valid.
func TestAdditionModel(t *testing.T) {
	valid, invalid := 0, 0
	forNumberPairs(func(a impl.Dyadic, b impl.Dyadic) {
		want, found := modelDyadic(new(big.Rat).Add(ratOf(a), ratOf(b)))
		if found {
			valid++
		} else {
			want = zeroNumber
			invalid++
		}
		if got, ok := impl.AddDyadic(a, b); got != want || ok != found {
			t.Fatalf("AddDyadic(%v, %v) = %v, %v, not %v, %v", a, b, got, ok, want, found)
		}
	})
	if valid < 10000 || invalid < 10000 {
		t.Errorf("only %d sums that are valid, and %d that are not", valid, invalid)
	}
}

// TestP65AdditionIsCommutativeAndCanBeUndone checks promise 65.
func TestP65AdditionIsCommutativeAndCanBeUndone(t *testing.T) {
	forNumberPairs(func(a impl.Dyadic, b impl.Dyadic) {
		sum, ok := impl.AddDyadic(a, b)
		if other, found := impl.AddDyadic(b, a); sum != other || ok != found {
			t.Fatalf("AddDyadic(%v, %v) = %v, but in the other order %v", a, b, sum, other)
		}
		if back, found := impl.AddDyadic(sum, inverse(b)); ok && (back != a || !found) {
			t.Fatalf("AddDyadic(%v, %v) = %v, and without %v it is %v", a, b, sum, b, back)
		}
	})
}

// TestCompareDyadic checks numbers that are less, equal and greater.
func TestCompareDyadic(t *testing.T) {
	for _, x := range []struct {
		a, b impl.Dyadic
		want int
	}{
		{zeroNumber, zeroNumber, 0}, {number(1, 1), number(1, 2), 1}, {number(1, 1), number(1, 0), -1}, {number(-1, 1), number(-1, 2), -1}, {number(-1, 1), number(1, 2), -1}, {number(-1, 8), zeroNumber, -1},
		{number(1, 8), zeroNumber, 1}, {number(9999, 8), number(39, 0), 1}, {number(9999, 8), number(40, 0), -1}, {number(9999, 0), number(9999, 8), 1}, {number(-9999, 0), number(9999, 0), -1}, {number(-9999, 8), number(-9999, 8), 0},
		{number(3, 1), number(2, 0), -1}, {number(3, 1), number(1, 0), 1}, {number(255, 8), number(1, 0), -1}, {number(257, 8), number(1, 0), 1},
	} {
		if got := impl.CompareDyadic(x.a, x.b); got != x.want {
			t.Errorf("CompareDyadic(%v, %v) = %d", x.a, x.b, got)
		}
	}
}

// TestP66TheOrderIsTotal checks promise 66.
func TestP66TheOrderIsTotal(t *testing.T) {
	forNumberPairs(func(a impl.Dyadic, b impl.Dyadic) {
		got := impl.CompareDyadic(a, b)
		if got != ratOf(a).Cmp(ratOf(b)) || got != -impl.CompareDyadic(b, a) || (got == 0) != (a == b) {
			t.Fatalf("CompareDyadic(%v, %v) = %d", a, b, got)
		}
		if d, ok := impl.AddDyadic(a, inverse(b)); ok && impl.CompareDyadic(d, zeroNumber) != got {
			t.Fatalf("CompareDyadic(%v, %v) = %d, but the difference is %v", a, b, got, d)
		}
	})
}

// TestP148AddingKeepsTheOrder checks promise 148.
func TestP148AddingKeepsTheOrder(t *testing.T) {
	forNumberPairs(func(a impl.Dyadic, b impl.Dyadic) {
		more, first := impl.AddDyadic(a, number(1, 0))
		other, second := impl.AddDyadic(b, number(1, 0))
		if first && second && impl.CompareDyadic(more, other) != impl.CompareDyadic(a, b) {
			t.Fatalf("CompareDyadic(%v, %v) = %d, but not of both plus 1", a, b, impl.CompareDyadic(a, b))
		}
	})
}

// TestSimplestBetween checks numbers with integers, with 0, and with nothing between them.
func TestSimplestBetween(t *testing.T) {
	for _, x := range []struct{ a, b, want impl.Dyadic }{
		{zeroNumber, number(1, 0), number(1, 1)}, {number(-5, 1), zeroNumber, number(-1, 0)}, {number(-1, 0), number(1, 3), zeroNumber}, {number(1, 2), number(3, 3), number(5, 4)}, {number(5, 1), number(9, 0), number(3, 0)},
		{number(-9, 0), number(-5, 1), number(-3, 0)}, {number(-3, 3), number(-1, 2), number(-5, 4)}, {number(-1, 0), zeroNumber, number(-1, 1)}, {number(-1, 1), number(1, 1), zeroNumber}, {number(-1, 8), number(1, 8), zeroNumber},
		{number(-9999, 0), number(9999, 0), zeroNumber}, {number(1, 1), number(3, 0), number(1, 0)}, {number(-3, 0), number(-1, 1), number(-1, 0)}, {number(3, 2), number(5, 2), number(1, 0)}, {number(1, 0), number(2, 0), number(3, 1)},
		{number(3, 1), number(7, 2), number(13, 3)}, {number(1, 3), number(1, 0), number(1, 1)}, {number(1, 2), number(1, 0), number(1, 1)}, {number(-1, 0), number(-1, 2), number(-1, 1)}, {zeroNumber, number(9999, 0), number(1, 0)},
		{number(-9999, 0), zeroNumber, number(-1, 0)}, {number(4999, 0), number(5000, 0), number(9999, 1)}, {number(-5000, 0), number(-4999, 0), number(-9999, 1)}, {number(1, 7), number(1, 6), number(3, 8)},
		{number(9997, 0), number(9999, 0), number(9998, 0)}, {zeroNumber, number(1, 7), number(1, 8)}, {number(-1, 7), zeroNumber, number(-1, 8)}, {number(4999, 7), number(625, 4), number(9999, 8)}, {number(7, 0), number(8, 0), number(15, 1)},
	} {
		got, ok := impl.SimplestBetween(x.a, x.b)
		if got != x.want || !ok {
			t.Errorf("SimplestBetween(%v, %v) = %v, %v, not %v", x.a, x.b, got, ok, x.want)
		}
	}
	for _, x := range [][2]impl.Dyadic{
		{zeroNumber, zeroNumber}, {number(1, 0), zeroNumber}, {number(9999, 0), number(-9999, 0)}, {number(3, 1), number(3, 1)}, {number(1, 1), number(1, 2)}, {number(-1, 2), number(-1, 1)},
		{number(1, 8), number(1, 7)}, {zeroNumber, number(1, 8)}, {number(-1, 8), zeroNumber}, {number(9998, 0), number(9999, 0)}, {number(-9999, 0), number(-9998, 0)}, {number(5000, 0), number(5001, 0)},
		{number(-5001, 0), number(-5000, 0)}, {number(625, 4), number(5001, 7)}, {number(-5001, 7), number(-625, 4)}, {number(9999, 8), number(625, 4)}, {number(9999, 1), number(5000, 0)},
	} {
		if got, ok := impl.SimplestBetween(x[0], x[1]); got != zeroNumber || ok {
			t.Errorf("SimplestBetween(%v, %v) = %v, %v", x[0], x[1], got, ok)
		}
	}
}

// nearNumbers returns all numbers from -2 to 2 with small exponents, and those next to the limits of some exponents.
func nearNumbers() []impl.Dyadic {
	var list []impl.Dyadic
	for n := -16; n <= 16; n++ {
		d, _ := modelDyadic(big.NewRat(int64(n), 8))
		list = append(list, d)
	}
	for exp := range 9 {
		for num := 9980; num <= 10020; num += 4 {
			for _, n := range []int{num, -num, num + 1, -num - 1} {
				if d, ok := modelDyadic(big.NewRat(int64(n), 1<<exp)); ok {
					list = append(list, d)
				}
			}
		}
	}
	return list
}

// forNearPairs calls a function for pairs of numbers, many of which are near each other or near the limits.
func forNearPairs(f func(a impl.Dyadic, b impl.Dyadic)) {
	list := nearNumbers()
	for _, a := range list {
		for _, b := range list {
			f(a, b)
		}
	}
	for i, a := range sampleNumbers() {
		for j, b := range sampleNumbers() {
			if (i+j)%5 == 0 {
				f(a, b)
			}
		}
	}
}

// TestBetweenModel checks the simplest numbers between pairs, found by looking at all numbers.
func TestBetweenModel(t *testing.T) {
	all := allNumbers()
	found, missing, turned := 0, 0, 0
	forNearPairs(func(a impl.Dyadic, b impl.Dyadic) {
		want, exists := zeroNumber, false
		if units(a) < units(b) {
			want, exists = modelBetween(all, a, b)
		}
		if got, ok := impl.SimplestBetween(a, b); got != want || ok != exists {
			t.Fatalf("SimplestBetween(%v, %v) = %v, %v, not %v, %v", a, b, got, ok, want, exists)
		}
		switch {
		case exists:
			found++
		case units(a) < units(b):
			missing++
		default:
			turned++
		}
	})
	if found < 10000 || missing < 100 || turned < 10000 {
		t.Errorf("only %d pairs with a number between, %d without, and %d in the wrong order", found, missing, turned)
	}
}

// TestP67TheSimplestNumberIsBetween checks promise 67: no number with the next smaller exponent is between, which has all with smaller ones.
func TestP67TheSimplestNumberIsBetween(t *testing.T) {
	forNearPairs(func(a impl.Dyadic, b impl.Dyadic) {
		got, ok := impl.SimplestBetween(a, b)
		if !ok {
			return
		}
		if impl.CompareDyadic(a, got) != -1 || impl.CompareDyadic(got, b) != -1 {
			t.Fatalf("SimplestBetween(%v, %v) = %v is not between", a, b, got)
		}
		if got.Exp == 0 {
			return
		}
		for _, num := range []int{(got.Num - 1) / 2, (got.Num + 1) / 2} {
			d, _ := impl.MakeDyadic(num, got.Exp-1)
			if impl.CompareDyadic(a, d) == -1 && impl.CompareDyadic(d, b) == -1 {
				t.Fatalf("SimplestBetween(%v, %v) = %v, but %v is between", a, b, got, d)
			}
		}
	})
}

// TestP68BothSidesAreAlike checks promise 68.
func TestP68BothSidesAreAlike(t *testing.T) {
	forNearPairs(func(a impl.Dyadic, b impl.Dyadic) {
		got, ok := impl.SimplestBetween(a, b)
		other, found := impl.SimplestBetween(inverse(b), inverse(a))
		if ok != found || other != inverse(got) {
			t.Fatalf("SimplestBetween(%v, %v) = %v, %v, but on the other side %v, %v", a, b, got, ok, other, found)
		}
	})
}
