package tests

import (
	"math/rand"
	"testing"

	"loop.example/goboard/impl"
)

// forQuarters calls a function for all small numbers as numbers of quarters.
func forQuarters(f func(n int, d impl.Dyadic)) {
	for n := -4 * impl.MaxSmall; n <= 4*impl.MaxSmall; n++ {
		f(n, quarterNumber(n))
	}
}

// TestConstantsOfValues checks limits.
func TestConstantsOfValues(t *testing.T) {
	if impl.MaxSmall != 3 || impl.MaxSmallExp != 2 {
		t.Error("limits")
	}
}

// TestNumberForm checks integers, halves and quarters of both signs, and all small numbers.
func TestNumberForm(t *testing.T) {
	for _, x := range []struct {
		d    impl.Dyadic
		text string
	}{
		{zeroNumber, "{|}"}, {number(1, 0), "{0|}"}, {number(-1, 0), "{|0}"}, {number(3, 0), "{{{0|}|}|}"}, {number(-3, 0), "{|{|{|0}}}"}, {number(1, 1), "{0|1}"}, {number(-1, 1), "{-1|0}"}, {number(5, 1), "{2|3}"}, {number(-5, 1), "{-3|-2}"},
		{number(1, 2), "{0|{0|1}}"}, {number(3, 2), "{{0|1}|1}"}, {number(-1, 2), "{{-1|0}|0}"}, {number(-3, 2), "{-1|{-1|0}}"}, {number(11, 2), "{{2|3}|3}"}, {number(-11, 2), "{-3|{-3|-2}}"}, {number(9, 2), "{2|{2|3}}"},
	} {
		if got, ok := impl.NumberForm(x.d); !ok || !sameGame(got, readGame(t, x.text)) {
			t.Errorf("NumberForm(%v) = %s, %v, not %s", x.d, gameText(got), ok, x.text)
		}
	}
	forQuarters(func(n int, d impl.Dyadic) {
		if got, ok := impl.NumberForm(d); !ok || !sameGame(got, quarters(n)) {
			t.Errorf("NumberForm(%v) = %s, %v, not %s", d, gameText(got), ok, gameText(quarters(n)))
		}
	})
}

// TestNumbersThatAreNotSmall checks numbers that are just not small, great ones, and those that are not valid.
func TestNumbersThatAreNotSmall(t *testing.T) {
	list := []impl.Dyadic{
		number(4, 0), number(-4, 0), number(7, 1), number(-7, 1), number(13, 2), number(-13, 2), number(1, 3), number(-1, 3), number(23, 3), number(-23, 3), number(25, 3), number(1, 8), number(-1, 8), number(9999, 0), number(-9999, 0), number(9999, 8), number(4, 1), number(12, 2), number(3, 3),
	}
	for _, d := range append(list, badNumbers...) {
		if got, ok := impl.NumberForm(d); ok || !sameGame(got, impl.Form{}) {
			t.Errorf("NumberForm(%v) = %s, %v", d, gameText(got), ok)
		}
	}
	small := 0
	for _, d := range allNumbers() {
		got, ok := impl.NumberForm(d)
		if want := d.Exp <= 2 && units(d) >= -3*256 && units(d) <= 3*256; ok != want {
			t.Fatalf("NumberForm(%v) = %s, %v", d, gameText(got), ok)
		}
		if ok && d.Num != 0 {
			small++
		}
	}
	if small != 24 {
		t.Errorf("%d small numbers besides 0", small)
	}
}

// TestValueOf checks forms equal to numbers, also with other options than those of NumberForm, and forms equal to none.
func TestValueOf(t *testing.T) {
	for _, x := range []struct {
		text string
		want impl.Dyadic
	}{
		{"0", zeroNumber}, {"{-1|1}", zeroNumber}, {"{-3|3}", zeroNumber}, {"{*|*}", zeroNumber}, {"{*|1}", zeroNumber}, {"{-1|}", zeroNumber}, {"{|1}", zeroNumber}, {"{{1|-1}|{1|-1}}", zeroNumber}, {"{*|}", zeroNumber}, {"{{*|0}|{0|*}}", zeroNumber},
		{"{0,-1|1,2}", number(1, 1)}, {"{0,0|1,1}", number(1, 1)}, {"{0,*|1}", number(1, 1)}, {"{-2,-1|0}", number(-1, 1)}, {"{{0|1}|3}", number(1, 0)}, {"{{0|{0|1}}|5}", number(1, 0)}, {"{0,*|}", number(1, 0)}, {"{|0,*}", number(-1, 0)},
		{"{2|4}", number(3, 0)}, {"{2,1,0|}", number(3, 0)}, {"{-4|-2}", number(-3, 0)}, {"{|-2,0}", number(-3, 0)}, {"{-3|-1}", number(-2, 0)}, {"{1|2}", number(3, 1)}, {"{-2|-1}", number(-3, 1)}, {"{{2|3}|3}", number(11, 2)}, {"{-3|{-3|-2}}", number(-11, 2)},
		{"{1,{1|-1}|2}", number(3, 1)}, {"{{-2|-3}|{3|2}}", zeroNumber}, {"{{0|{0|1}}|{{0|1}|1}}", number(1, 1)}, {"{-3,*|1,{0|1}}", zeroNumber}, {"{0,-3,*|1,{0|1}}", number(1, 2)},
	} {
		got, ok := impl.ValueOf(readGame(t, x.text))
		checkNumber(t, "ValueOf("+x.text+")", got, ok, x.want, true)
	}
	for _, text := range []string{
		"*", "{0|*}", "{*|0}", hotSwitch, "{2|-1}", "{1|1}", "{0,*|0,*}", "{0|{0|-2}}", "{1|*}", "{{3|1}|-1}", "{1|0,3}", "{{0|*}|{*|0}}",
		"4", "-4", "6", "-6", "{3|5}", "{3|4}", "{-4|-3}", "{3,*|}", "{0|{0|{0|1}}}", "{{{-1|0}|0}|0}", "{{0|{0|1}}|{0|1}}",
	} {
		got, ok := impl.ValueOf(readGame(t, text))
		checkNumber(t, "ValueOf("+text+")", got, ok, zeroNumber, false)
	}
}

// TestStopOf checks players with several options, with one, and with none.
func TestStopOf(t *testing.T) {
	for _, x := range []struct {
		text        string
		left, right impl.Dyadic
	}{
		{"0", zeroNumber, zeroNumber}, {"{0|1}", number(1, 1), number(1, 1)}, {"{-1|1}", zeroNumber, zeroNumber}, {"3", number(3, 0), number(3, 0)}, {"{*|*}", zeroNumber, zeroNumber},
		{"*", zeroNumber, zeroNumber}, {"{0|*}", zeroNumber, zeroNumber}, {hotSwitch, number(1, 0), number(-1, 0)}, {"{2|-1}", number(2, 0), number(-1, 0)}, {"{1|1}", number(1, 0), number(1, 0)}, {"{3|{0|1}}", number(3, 0), number(1, 1)},
		{"{1,2,{0|1}|0,-2,-1}", number(2, 0), number(-2, 0)}, {"{2,2|0,0}", number(2, 0), zeroNumber}, {"{-1,-2|-3,-2}", number(-1, 0), number(-3, 0)},
		{"{{3|1}|-1}", number(1, 0), number(-1, 0)}, {"{{3|1},0|-1}", number(1, 0), number(-1, 0)}, {"{{3|1},2|{2|-3},1}", number(2, 0), number(1, 0)}, {"{{3|1},{2|0}|{1|-1},{0|-3}}", number(1, 0), zeroNumber}, {"{{2|0},{3|1}|{0|-3},{1|-1}}", number(1, 0), zeroNumber}, {"{{3|-3},{2|-2}|{1|-1},{3|0}}", zeroNumber, zeroNumber},
		{"{{{3|2}|{1|0}}|{{0|-1}|{-2|-3}}}", number(1, 0), number(-1, 0)},
	} {
		g := readGame(t, x.text)
		got, ok := impl.StopOf(g, true)
		checkNumber(t, "StopOf("+x.text+", true)", got, ok, x.left, true)
		got, ok = impl.StopOf(g, false)
		checkNumber(t, "StopOf("+x.text+", false)", got, ok, x.right, true)
	}
}

// TestStopsWithoutOptions checks forms that are equal to great numbers, in which a player has no option when one is needed.
func TestStopsWithoutOptions(t *testing.T) {
	for _, x := range []struct {
		text        string
		left, right impl.Dyadic
		ok          [2]bool
	}{
		{"4", number(3, 0), zeroNumber, [2]bool{true, false}}, {"-4", zeroNumber, number(-3, 0), [2]bool{false, true}}, {"5", zeroNumber, zeroNumber, [2]bool{}}, {"-6", zeroNumber, zeroNumber, [2]bool{}},
		{"{3|5}", number(3, 0), zeroNumber, [2]bool{true, false}}, {"{3|4}", number(3, 0), number(3, 0), [2]bool{true, true}}, {"{4|-4}", zeroNumber, zeroNumber, [2]bool{}}, {"{4|3}", zeroNumber, number(3, 0), [2]bool{false, true}},
		// One option without a stop is enough, because the greatest or least one is not known then.
		{"{3,4|0}", zeroNumber, zeroNumber, [2]bool{false, true}}, {"{4,3|0}", zeroNumber, zeroNumber, [2]bool{false, true}}, {"{0|-4,-3}", zeroNumber, zeroNumber, [2]bool{true, false}}, {"{0|-3,-4}", zeroNumber, zeroNumber, [2]bool{true, false}},
	} {
		g := readGame(t, x.text)
		got, ok := impl.StopOf(g, true)
		checkNumber(t, "StopOf("+x.text+", true)", got, ok, x.left, x.ok[0])
		got, ok = impl.StopOf(g, false)
		checkNumber(t, "StopOf("+x.text+", false)", got, ok, x.right, x.ok[1])
	}
}

// TestInvalidValues checks forms that are not valid.
func TestInvalidValues(t *testing.T) {
	for _, bad := range badForms() {
		got, ok := impl.ValueOf(bad)
		checkNumber(t, "ValueOf of an invalid form", got, ok, zeroNumber, false)
		got, ok = impl.StopOf(bad, true)
		checkNumber(t, "StopOf of an invalid form", got, ok, zeroNumber, false)
		got, ok = impl.StopOf(bad, false)
		checkNumber(t, "StopOf of an invalid form", got, ok, zeroNumber, false)
	}
}

// TestValueModel checks values and stops, found by trying all small numbers.
func TestValueModel(t *testing.T) {
	duel := modelDuel{}
	values, stops, failures := 0, 0, 0
	for _, g := range sampleForms(1) {
		n, found := duel.value(g)
		if got, ok := impl.ValueOf(g); got != quarterNumber(n) || ok != found {
			t.Fatalf("ValueOf(%s) = %v, %v, not %v, %v", gameText(g), got, ok, quarterNumber(n), found)
		}
		if found {
			values++
		}
		for _, left := range []bool{true, false} {
			n, stopped := duel.stop(g, left)
			if got, ok := impl.StopOf(g, left); got != quarterNumber(n) || ok != stopped {
				t.Fatalf("StopOf(%s, %v) = %v, %v, not %v, %v", gameText(g), left, got, ok, quarterNumber(n), stopped)
			}
			switch {
			case !stopped:
				failures++
			case !found:
				stops++
			}
		}
	}
	if values < 200 || stops < 200 || failures < 4 {
		t.Errorf("only %d forms with values, %d stops of others, and %d without", values, stops, failures)
	}
}

// TestP78NumbersAreGames checks promise 78.
func TestP78NumbersAreGames(t *testing.T) {
	forQuarters(func(_ int, d impl.Dyadic) {
		g, _ := impl.NumberForm(d)
		got, ok := impl.ValueOf(g)
		checkNumber(t, "ValueOf of NumberForm", got, ok, d, true)
		if negated, ok := impl.NumberForm(inverse(d)); !ok || !sameGame(negated, impl.NegateForm(g)) {
			t.Errorf("NumberForm(%v) = %s", inverse(d), gameText(negated))
		}
	})
}

// TestP79NumbersAreOrderedLikeGames checks promise 79, and the same for equal and greater numbers.
func TestP79NumbersAreOrderedLikeGames(t *testing.T) {
	codes := map[int]int{-1: impl.FormLess, 0: impl.FormEqual, 1: impl.FormGreater}
	forQuarters(func(_ int, a impl.Dyadic) {
		forQuarters(func(_ int, b impl.Dyadic) {
			g, _ := impl.NumberForm(a)
			h, _ := impl.NumberForm(b)
			if got := impl.CompareForms(g, h); got != codes[impl.CompareDyadic(a, b)] {
				t.Errorf("CompareForms(%s, %s) = %d", gameText(g), gameText(h), got)
			}
		})
	})
}

// TestP80ValuesAreEqualGames checks promise 80.
func TestP80ValuesAreEqualGames(t *testing.T) {
	for _, g := range sampleForms(1) {
		d, ok := impl.ValueOf(g)
		negated, found := impl.ValueOf(impl.NegateForm(g))
		if ok != found || negated != inverse(d) {
			t.Fatalf("ValueOf(%s) = %v, %v, but of the negated form %v, %v", gameText(g), d, ok, negated, found)
		}
		if !ok {
			continue
		}
		h, small := impl.NumberForm(d)
		if got := impl.CompareForms(g, h); got != impl.FormEqual || !small {
			t.Fatalf("ValueOf(%s) = %v, but comparing with it is %d", gameText(g), d, got)
		}
	}
}

// TestP81ValuesAddUp checks promise 81.
func TestP81ValuesAddUp(t *testing.T) {
	small, great := 0, 0
	forFormPairs(sampleForms(7), func(g impl.Form, h impl.Form) {
		a, okA := impl.ValueOf(g)
		b, okB := impl.ValueOf(h)
		sum, ok := impl.AddForms(g, h)
		if !ok || !okA || !okB {
			return
		}
		want, _ := impl.AddDyadic(a, b)
		_, isSmall := impl.NumberForm(want)
		if isSmall {
			small++
		} else {
			want = zeroNumber
			great++
		}
		if got, found := impl.ValueOf(sum); got != want || found != isSmall {
			t.Fatalf("ValueOf %s plus %s = %v, %v, not %v", gameText(g), gameText(h), got, found, want)
		}
	})
	if small < 500 || great < 10 {
		t.Errorf("only %d sums that are small, and %d that are not", small, great)
	}
}

// TestP82NumbersStopAtOnce checks promise 82.
func TestP82NumbersStopAtOnce(t *testing.T) {
	for _, g := range sampleForms(1) {
		value, isNumber := impl.ValueOf(g)
		left, ok := impl.StopOf(g, true)
		if isNumber {
			right, found := impl.StopOf(g, false)
			if left != value || right != value || !ok || !found {
				t.Fatalf("StopOf(%s) = %v and %v, not %v", gameText(g), left, right, value)
			}
			continue
		}
		reached := !ok
		for _, option := range g.Left {
			stop, found := impl.StopOf(option, false)
			reached = reached || found && stop == left
		}
		if !reached {
			t.Fatalf("StopOf(%s, true) = %v is the stop of no option", gameText(g), left)
		}
	}
}

// TestP83BothPlayersAreAlike checks promise 83.
func TestP83BothPlayersAreAlike(t *testing.T) {
	for _, g := range sampleForms(1) {
		for _, left := range []bool{true, false} {
			got, ok := impl.StopOf(g, left)
			other, found := impl.StopOf(impl.NegateForm(g), !left)
			if ok != found || other != inverse(got) {
				t.Fatalf("StopOf(%s, %v) = %v, %v, but for the other player %v, %v", gameText(g), left, got, ok, other, found)
			}
		}
	}
}

// meets reports whether all options of a form have values, and one of the left player has at least the value of one of the right player.
func meets(g impl.Form) bool {
	for _, option := range optionsOf(g) {
		if _, ok := impl.ValueOf(option); !ok {
			return false
		}
	}
	for _, a := range g.Left {
		for _, b := range g.Right {
			first, _ := impl.ValueOf(a)
			second, _ := impl.ValueOf(b)
			if impl.CompareDyadic(first, second) >= 0 {
				return true
			}
		}
	}
	return false
}

// TestP155BeginningHelpsWhereItIsHot checks promise 155.
func TestP155BeginningHelpsWhereItIsHot(t *testing.T) {
	mixed := rand.New(rand.NewSource(55))
	forms := sampleForms(1)
	for range 500 {
		if g := numberOptions(mixed); impl.ValidForm(g) {
			forms = append(forms, g)
		}
	}
	hot := 0
	for _, g := range forms {
		if !meets(g) {
			continue
		}
		hot++
		left, okLeft := impl.StopOf(g, true)
		right, okRight := impl.StopOf(g, false)
		if !okLeft || !okRight || impl.CompareDyadic(left, right) < 0 {
			t.Fatalf("StopOf(%s) = %v, %v and %v, %v", gameText(g), left, okLeft, right, okRight)
		}
	}
	if hot < 200 {
		t.Errorf("only %d forms with such options", hot)
	}
}

// TestFreshNumberForms checks that the options of numbers share no memory.
func TestFreshNumberForms(t *testing.T) {
	forQuarters(func(_ int, d impl.Dyadic) {
		first, _ := impl.NumberForm(d)
		second, _ := impl.NumberForm(d)
		seen := map[*impl.Form]bool{}
		if !slots(first, seen) || !slots(second, seen) {
			t.Errorf("NumberForm(%v) shares memory", d)
		}
	})
}
