package tests

import (
	"math/rand"
	"testing"

	"loop.example/goboard/impl"
)

// TestConstantsOfForms checks limits and codes.
func TestConstantsOfForms(t *testing.T) {
	if impl.MaxForm != 100 || impl.MaxLevel != 6 {
		t.Error("limits")
	}
	if impl.FormLess != 1 || impl.FormEqual != 2 || impl.FormGreater != 3 || impl.FormConfused != 4 || impl.FormInvalid != 5 {
		t.Error("codes of comparisons")
	}
	if impl.WinsLeft != 1 || impl.WinsRight != 2 || impl.WinsFirst != 3 || impl.WinsSecond != 4 || impl.WinsInvalid != 5 {
		t.Error("codes of winners")
	}
}

// anyForms returns mixed forms, many of which have too many positions or moves.
func anyForms() []impl.Form {
	mixed := rand.New(rand.NewSource(32))
	var list []impl.Form
	for i := range 3000 {
		list = append(list, mixedForm(mixed, 1+i%8, 1+i%2))
	}
	return list
}

// forFormPairs calls a function for all pairs of forms.
func forFormPairs(forms []impl.Form, f func(g impl.Form, h impl.Form)) {
	for _, g := range forms {
		for _, h := range forms {
			f(g, h)
		}
	}
}

// hotSwitch is the game in which the first player to move gains a move.
const hotSwitch = "{1|-1}"

// TestValidForm checks forms with as many positions and moves as are allowed, and with one more.
func TestValidForm(t *testing.T) {
	zero := impl.Form{}
	edge := game([]impl.Form{zero, chain(5)}, []impl.Form{chain(-5), zero})
	mixedMoves := zero
	for i := range impl.MaxLevel {
		mixedMoves = []impl.Form{game([]impl.Form{mixedMoves}, nil), game(nil, []impl.Form{mixedMoves})}[i%2]
	}
	for _, g := range []impl.Form{
		zero, {Left: []impl.Form{}, Right: []impl.Form{}}, chain(1), chain(6), chain(-6), edge, mixedMoves, game(copiesOf(zero, 99), nil), game(nil, copiesOf(zero, 99)), game(copiesOf(zero, 49), copiesOf(zero, 50)),
		sharedForm(5), game(copiesOf(game(nil, copiesOf(zero, 10)), 9), nil), game([]impl.Form{game(nil, copiesOf(zero, 98))}, nil), game([]impl.Form{chain(5), chain(4)}, nil), readGame(t, "{0,*,{1|-1}|{0|*},0}"),
	} {
		if !impl.ValidForm(g) || !modelFits(g) {
			t.Errorf("ValidForm(%s) is false", gameText(g))
		}
	}
	for i, g := range badForms() {
		if impl.ValidForm(g) {
			t.Errorf("ValidForm of form %d is true", i)
		}
	}
	many := game(copiesOf(chain(1), 49), nil)
	if many.Right = copiesOf(zero, 1); !impl.ValidForm(many) {
		t.Error("ValidForm of a form with 100 positions is false")
	}
	if many.Right = copiesOf(zero, 2); impl.ValidForm(many) {
		t.Error("ValidForm of a form with 101 positions is true")
	}
}

// TestValidFormModel checks forms of all kinds.
func TestValidFormModel(t *testing.T) {
	valid, invalid := 0, 0
	for _, g := range anyForms() {
		if impl.ValidForm(g) != modelFits(g) {
			t.Fatalf("ValidForm(%s) is %v", gameText(g), impl.ValidForm(g))
		}
		if modelFits(g) {
			valid++
		} else {
			invalid++
		}
	}
	if valid < 500 || invalid < 500 {
		t.Errorf("only %d valid forms, and %d others", valid, invalid)
	}
}

// TestP69GamesHaveParts checks promise 69.
func TestP69GamesHaveParts(t *testing.T) {
	for _, g := range anyForms() {
		for _, option := range optionsOf(g) {
			if impl.ValidForm(g) && !impl.ValidForm(option) {
				t.Fatalf("ValidForm(%s) is true, but not of its option %s", gameText(g), gameText(option))
			}
		}
	}
}

// TestCompareForms checks forms that are less, equal, greater and confused, in both orders.
func TestCompareForms(t *testing.T) {
	for _, x := range []struct {
		g, h string
		want int
	}{
		{"0", "0", impl.FormEqual}, {"1", "0", impl.FormGreater}, {"-1", "0", impl.FormLess}, {"*", "0", impl.FormConfused}, {"*", "1", impl.FormLess}, {"*", "-1", impl.FormGreater}, {"*", "*", impl.FormEqual}, {"2", "1", impl.FormGreater},
		{"{0|1}", "0", impl.FormGreater}, {"{0|1}", "1", impl.FormLess}, {"{0|1}", "*", impl.FormGreater}, {"{-1|1}", "0", impl.FormEqual}, {"{*|*}", "0", impl.FormEqual}, {"{0,*|0,*}", "*", impl.FormConfused},
		{"{0|*}", "0", impl.FormGreater}, {"{0|*}", "*", impl.FormConfused}, {"{0|*}", "{0|1}", impl.FormLess}, {"{0|*}", "{*|0}", impl.FormGreater}, {"{0,*|0}", "{0|*}", impl.FormConfused},
		{hotSwitch, "0", impl.FormConfused}, {hotSwitch, "1", impl.FormConfused}, {hotSwitch, "2", impl.FormLess}, {hotSwitch, "-2", impl.FormGreater}, {hotSwitch, "*", impl.FormConfused}, {hotSwitch, hotSwitch, impl.FormEqual}, {"{2|-1}", hotSwitch, impl.FormGreater},
		{"{2|-2}", hotSwitch, impl.FormConfused}, {"{0,-1|1,2}", "{0|1}", impl.FormEqual}, {"{0,0|1}", "{0|1,1}", impl.FormEqual}, {"{1,0|2}", "{0,1|2}", impl.FormEqual}, {"{-1|}", "0", impl.FormEqual}, {"{|1}", "0", impl.FormEqual},
		{"{-3|}", "{|3}", impl.FormEqual}, {"6", "5", impl.FormGreater}, {"-6", "6", impl.FormLess}, {"{0|{0|-2}}", "0", impl.FormGreater}, {"{0|{0|-2}}", "{0|*}", impl.FormLess}, {"{*|0}", "0", impl.FormLess},
	} {
		g, h := readGame(t, x.g), readGame(t, x.h)
		if got := impl.CompareForms(g, h); got != x.want {
			t.Errorf("CompareForms(%s, %s) = %d, not %d", x.g, x.h, got, x.want)
		}
		if got := impl.CompareForms(h, g); got != exchangedOrder(x.want) {
			t.Errorf("CompareForms(%s, %s) = %d, not %d", x.h, x.g, got, exchangedOrder(x.want))
		}
	}
}

// exchangedOrder returns the code of a comparison in the other order.
func exchangedOrder(code int) int {
	switch code {
	case impl.FormLess:
		return impl.FormGreater
	case impl.FormGreater:
		return impl.FormLess
	}
	return code
}

// TestInvalidForms checks forms with too many positions or moves, also such that have no end.
func TestInvalidForms(t *testing.T) {
	for i, bad := range badForms() {
		for j, other := range append(badForms(), impl.Form{}, chain(6), chain(-6), readGame(t, "*")) {
			if got := impl.CompareForms(bad, other); got != impl.FormInvalid {
				t.Errorf("CompareForms of the forms %d and %d = %d", i, j, got)
			}
			if got := impl.CompareForms(other, bad); got != impl.FormInvalid {
				t.Errorf("CompareForms of the forms %d and %d = %d", j, i, got)
			}
			for _, pair := range [][2]impl.Form{{bad, other}, {other, bad}} {
				if sum, ok := impl.AddForms(pair[0], pair[1]); ok || !sameGame(sum, impl.Form{}) {
					t.Errorf("AddForms of the forms %d and %d = %s, %v", i, j, gameText(sum), ok)
				}
			}
		}
		if got := impl.NegateForm(bad); !sameGame(got, impl.Form{}) {
			t.Errorf("NegateForm of form %d = %s", i, gameText(got))
		}
		if got := impl.WinnerOf(bad); got != impl.WinsInvalid {
			t.Errorf("WinnerOf of form %d = %d", i, got)
		}
	}
}

// TestNegateForm checks that options stay in order, and equal ones, and forms without options.
func TestNegateForm(t *testing.T) {
	for _, x := range [][2]string{
		{"0", "0"}, {"1", "-1"}, {"6", "-6"}, {"*", "*"}, {"{2|-1}", "{1|-2}"}, {"{0,1,*|3,2}", "{-3,-2|0,-1,*}"}, {"{0|*}", "{*|0}"}, {"{1,1|}", "{|-1,-1}"}, {"{{2|1},0|{1|-3}}", "{{3|-1}|{-1|-2},0}"},
	} {
		g, h := readGame(t, x[0]), readGame(t, x[1])
		if got := impl.NegateForm(g); !sameGame(got, h) {
			t.Errorf("NegateForm(%s) = %s", x[0], gameText(got))
		}
		if got := impl.NegateForm(h); !sameGame(got, g) {
			t.Errorf("NegateForm(%s) = %s", x[1], gameText(got))
		}
	}
}

// TestAddForms checks the order of options, and sums with a form without options.
func TestAddForms(t *testing.T) {
	for _, x := range [][3]string{
		{"0", "0", "0"}, {"1", "0", "1"}, {"0", "{0,1|*}", "{0,1|*}"}, {"{0,1|*}", "0", "{0,1|*}"}, {"1", "1", "{1,1|}"}, {"1", "-1", "{-1|1}"}, {"-1", "1", "{-1|1}"}, {"*", "*", "{*,*|*,*}"}, {"1", "*", "{*,1|1}"}, {"*", "1", "{1,*|1}"},
		{"{0,1|}", "{|-1,0}", "{{|-1,0},{{|-1,0}|{-1|1},1}|{-1,{-1|1}|{0,1|}},{0,1|}}"},
		{"2", "1", "{{1,1|},2|}"}, {"1", "2", "{2,{1,1|}|}"}, {"{1,0|}", "1", "{{1,1|},1,{1,0|}|}"}, {"{|0,-1}", "-1", "{|-1,{|-1,-1},{|0,-1}}"}, {"-1", "{|0,-1}", "{|{|0,-1},-1,{|-1,-1}}"},
	} {
		g, h := readGame(t, x[0]), readGame(t, x[1])
		if sum, ok := impl.AddForms(g, h); !ok || !sameGame(sum, readGame(t, x[2])) {
			t.Errorf("AddForms(%s, %s) = %s, %v, not %s", x[0], x[1], gameText(sum), ok, x[2])
		}
	}
}

// TestSumsThatAreTooGreat checks sums with as many positions and moves as are allowed, and with one more.
func TestSumsThatAreTooGreat(t *testing.T) {
	zero := impl.Form{}
	// In a sum with one move a position counts twice, and once more for each move before it.
	full := game([]impl.Form{game(copiesOf(zero, 11), nil), game(nil, copiesOf(zero, 12))}, nil)
	over := game([]impl.Form{game(copiesOf(zero, 12), copiesOf(zero, 12))}, nil)
	for _, x := range []struct {
		g, h      impl.Form
		positions int
		ok        bool
	}{
		{full, chain(1), 100, true}, {over, chain(1), 101, false}, {full, chain(-1), 100, true}, {over, chain(-1), 101, false},
		{chain(3), chain(3), 69, true}, {chain(3), chain(-3), 69, true}, {chain(3), chain(4), 125, false}, {chain(6), zero, 7, true}, {chain(6), chain(1), 35, false}, {chain(-1), chain(6), 35, false}, {chain(5), chain(1), 27, true},
		{game(copiesOf(zero, 99), nil), zero, 100, true}, {game(copiesOf(zero, 99), nil), chain(1), 299, false}, {game(copiesOf(zero, 6), nil), game(nil, copiesOf(zero, 7)), 98, true}, {game(copiesOf(zero, 7), nil), game(nil, copiesOf(zero, 7)), 113, false},
	} {
		for _, pair := range [][2]impl.Form{{x.g, x.h}, {x.h, x.g}} {
			want := modelSum(pair[0], pair[1])
			if modelPositions(want) != x.positions || modelFits(want) != x.ok {
				t.Fatalf("%s plus %s has %d positions", gameText(pair[0]), gameText(pair[1]), modelPositions(want))
			}
			if !x.ok {
				want = zero
			}
			if sum, ok := impl.AddForms(pair[0], pair[1]); ok != x.ok || !sameGame(sum, want) {
				t.Errorf("AddForms(%s, %s) = %s, %v", gameText(pair[0]), gameText(pair[1]), gameText(sum), ok)
			}
		}
	}
}

// TestWinnerOf checks the four kinds of winners.
func TestWinnerOf(t *testing.T) {
	for _, x := range []struct {
		text string
		want int
	}{
		{"0", impl.WinsSecond}, {"1", impl.WinsLeft}, {"-1", impl.WinsRight}, {"*", impl.WinsFirst}, {"{*|*}", impl.WinsSecond}, {"{0|*}", impl.WinsLeft}, {"{*|0}", impl.WinsRight}, {hotSwitch, impl.WinsFirst}, {"{3|1}", impl.WinsLeft},
		{"{-1|-2}", impl.WinsRight}, {"{1|0}", impl.WinsFirst}, {"{0|-1}", impl.WinsFirst}, {"{0|1}", impl.WinsLeft}, {"{-1|1}", impl.WinsSecond}, {"{-1|0}", impl.WinsRight}, {"{0,*|0}", impl.WinsFirst}, {"{{3|1}|-1}", impl.WinsFirst},
		{"{-1|}", impl.WinsSecond}, {"{|1}", impl.WinsSecond}, {"6", impl.WinsLeft}, {"-6", impl.WinsRight}, {"{{1|-1}|{1|-1}}", impl.WinsSecond},
	} {
		if got := impl.WinnerOf(readGame(t, x.text)); got != x.want {
			t.Errorf("WinnerOf(%s) = %d, not %d", x.text, got, x.want)
		}
	}
}

// TestComparingModel checks comparisons by playing differences.
func TestComparingModel(t *testing.T) {
	duel := modelDuel{}
	var counts [impl.FormInvalid]int
	forFormPairs(sampleForms(7), func(g impl.Form, h impl.Form) {
		got := impl.CompareForms(g, h)
		if want := duel.compare(g, h); got != want {
			t.Fatalf("CompareForms(%s, %s) = %d, not %d", gameText(g), gameText(h), got, want)
		}
		counts[got]++
	})
	for code := impl.FormLess; code <= impl.FormConfused; code++ {
		if counts[code] < 500 {
			t.Errorf("only %d pairs with the code %d", counts[code], code)
		}
	}
}

// TestP70ComparingIsSymmetric checks promise 70.
func TestP70ComparingIsSymmetric(t *testing.T) {
	for _, g := range sampleForms(1) {
		if got := impl.CompareForms(g, g); got != impl.FormEqual {
			t.Fatalf("CompareForms(%s) with itself = %d", gameText(g), got)
		}
	}
	forFormPairs(sampleForms(7), func(g impl.Form, h impl.Form) {
		got, other := impl.CompareForms(g, h), impl.CompareForms(h, g)
		if other != exchangedOrder(got) {
			t.Fatalf("CompareForms(%s, %s) = %d, but in the other order %d", gameText(g), gameText(h), got, other)
		}
	})
}

// TestP71NegatingTurnsTheOrderAround checks promise 71.
func TestP71NegatingTurnsTheOrderAround(t *testing.T) {
	forFormPairs(sampleForms(7), func(g impl.Form, h impl.Form) {
		got, turned := impl.CompareForms(g, h), impl.CompareForms(impl.NegateForm(h), impl.NegateForm(g))
		if got != turned {
			t.Fatalf("CompareForms(%s, %s) = %d, but of the negated forms in the other order %d", gameText(g), gameText(h), got, turned)
		}
	})
}

// TestP72NegatingTwiceChangesNothing checks promise 72, and every negated form.
func TestP72NegatingTwiceChangesNothing(t *testing.T) {
	for _, g := range sampleForms(1) {
		negated := impl.NegateForm(g)
		if !sameGame(negated, modelNegate(g)) || !sameGame(impl.NegateForm(negated), g) {
			t.Fatalf("NegateForm(%s) = %s", gameText(g), gameText(negated))
		}
	}
}

// TestSumsModel checks sums of pairs, and which of them are valid.
func TestSumsModel(t *testing.T) {
	valid, invalid := 0, 0
	forFormPairs(sampleForms(11), func(g impl.Form, h impl.Form) {
		var want impl.Form
		fits := modelSumFits(g, h)
		if fits {
			want = modelSum(g, h)
			valid++
		} else {
			invalid++
		}
		if sum, ok := impl.AddForms(g, h); ok != fits || !sameGame(sum, want) {
			t.Fatalf("AddForms(%s, %s) = %s, %v, not %s", gameText(g), gameText(h), gameText(sum), ok, gameText(want))
		}
	})
	if valid < 2000 || invalid < 2000 {
		t.Errorf("only %d valid sums, and %d others", valid, invalid)
	}
}

// TestP73SumsDoNotDependOnOrder checks promise 73.
func TestP73SumsDoNotDependOnOrder(t *testing.T) {
	for _, g := range sampleForms(1) {
		for _, pair := range [][2]impl.Form{{g, {}}, {{}, g}} {
			if sum, ok := impl.AddForms(pair[0], pair[1]); !ok || !sameGame(sum, g) {
				t.Fatalf("AddForms(%s, %s) = %s, %v", gameText(pair[0]), gameText(pair[1]), gameText(sum), ok)
			}
		}
	}
	forFormPairs(sampleForms(11), func(g impl.Form, h impl.Form) {
		sum, ok := impl.AddForms(g, h)
		other, back := impl.AddForms(h, g)
		if ok != back || ok && impl.CompareForms(sum, other) != impl.FormEqual {
			t.Fatalf("AddForms(%s, %s) = %s, but in the other order %s", gameText(g), gameText(h), gameText(sum), gameText(other))
		}
	})
}

// TestP74AGameAndItsNegativeCancel checks promise 74.
func TestP74AGameAndItsNegativeCancel(t *testing.T) {
	cancelled := 0
	for _, g := range sampleForms(1) {
		if sum, ok := impl.AddForms(g, impl.NegateForm(g)); ok {
			cancelled++
			if got := impl.WinnerOf(sum); got != impl.WinsSecond {
				t.Fatalf("WinnerOf %s less itself = %d", gameText(g), got)
			}
		}
	}
	if cancelled < 200 {
		t.Errorf("only %d forms with their negatives", cancelled)
	}
}

// TestP75SumsDecideComparisons checks promise 75.
func TestP75SumsDecideComparisons(t *testing.T) {
	winners := map[int]int{impl.FormLess: impl.WinsRight, impl.FormEqual: impl.WinsSecond, impl.FormGreater: impl.WinsLeft, impl.FormConfused: impl.WinsFirst}
	differences := 0
	forFormPairs(sampleForms(11), func(g impl.Form, h impl.Form) {
		difference, ok := impl.AddForms(g, impl.NegateForm(h))
		if !ok {
			return
		}
		differences++
		if got := impl.WinnerOf(difference); got != winners[impl.CompareForms(g, h)] {
			t.Fatalf("WinnerOf %s less %s = %d", gameText(g), gameText(h), got)
		}
	})
	if differences < 2000 {
		t.Errorf("only %d differences", differences)
	}
}

// TestP149AddingAGameKeepsTheOrder checks promise 149.
func TestP149AddingAGameKeepsTheOrder(t *testing.T) {
	hot := readGame(t, hotSwitch)
	heated := 0
	forFormPairs(sampleForms(11), func(g impl.Form, h impl.Form) {
		first, okFirst := impl.AddForms(g, hot)
		second, okSecond := impl.AddForms(h, hot)
		if !okFirst || !okSecond {
			return
		}
		heated++
		if impl.CompareForms(first, second) != impl.CompareForms(g, h) {
			t.Fatalf("CompareForms(%s, %s) changes with both plus %s", gameText(g), gameText(h), hotSwitch)
		}
	})
	if heated < 2000 {
		t.Errorf("only %d pairs of sums", heated)
	}
}

// TestWinnersModel checks winners by playing.
func TestWinnersModel(t *testing.T) {
	duel := modelDuel{}
	var counts [impl.WinsInvalid]int
	for _, g := range sampleForms(1) {
		got := impl.WinnerOf(g)
		if want := duel.winner(g); got != want {
			t.Fatalf("WinnerOf(%s) = %d, not %d", gameText(g), got, want)
		}
		counts[got]++
	}
	for code := impl.WinsLeft; code <= impl.WinsSecond; code++ {
		if counts[code] < 20 {
			t.Errorf("only %d forms with the winner %d", counts[code], code)
		}
	}
}

// TestP76WinningMeansMovingWell checks promise 76, and the same for the right player.
func TestP76WinningMeansMovingWell(t *testing.T) {
	good := func(options []impl.Form, winner int) bool {
		for _, option := range options {
			if after := impl.WinnerOf(option); after == winner || after == impl.WinsSecond {
				return true
			}
		}
		return false
	}
	for _, g := range sampleForms(1) {
		got := impl.WinnerOf(g)
		if good(g.Left, impl.WinsLeft) != (got == impl.WinsLeft || got == impl.WinsFirst) {
			t.Fatalf("WinnerOf(%s) = %d does not fit the options of the left player", gameText(g), got)
		}
		if good(g.Right, impl.WinsRight) != (got == impl.WinsRight || got == impl.WinsFirst) {
			t.Fatalf("WinnerOf(%s) = %d does not fit the options of the right player", gameText(g), got)
		}
	}
}

// TestP77ExchangingThePlayersExchangesTheWinners checks promise 77.
func TestP77ExchangingThePlayersExchangesTheWinners(t *testing.T) {
	exchanged := map[int]int{impl.WinsLeft: impl.WinsRight, impl.WinsRight: impl.WinsLeft, impl.WinsFirst: impl.WinsFirst, impl.WinsSecond: impl.WinsSecond}
	for _, g := range sampleForms(1) {
		got, other := impl.WinnerOf(g), impl.WinnerOf(impl.NegateForm(g))
		if other != exchanged[got] {
			t.Fatalf("WinnerOf(%s) = %d, but with the players exchanged %d", gameText(g), got, other)
		}
	}
}

// spareForm returns a copy of a form in which behind all options there is spare capacity with marks.
func spareForm(g impl.Form) impl.Form {
	var spare impl.Form
	for side, list := range [][]impl.Form{g.Left, g.Right} {
		var options []impl.Form
		for _, option := range list {
			options = append(options, spareForm(option))
		}
		options = append(options, chain(5), chain(-5))[:len(list)]
		*[]*[]impl.Form{&spare.Left, &spare.Right}[side] = options
	}
	return spare
}

// wholeText returns a text of a form with all that is in the spare capacity of its options.
func wholeText(g impl.Form) string {
	text := "{"
	for _, list := range [][]impl.Form{g.Left, g.Right} {
		for _, option := range list[:cap(list)] {
			text += wholeText(option)
		}
		text += "|"
	}
	return text
}

// slots returns the memory of all options of a form, spare capacity included, and whether there is none in two lists.
func slots(g impl.Form, seen map[*impl.Form]bool) bool {
	for _, list := range [][]impl.Form{g.Left, g.Right} {
		whole := list[:cap(list)]
		for i := range whole {
			if seen[&whole[i]] {
				return false
			}
			seen[&whole[i]] = true
			if i < len(list) && !slots(list[i], seen) {
				return false
			}
		}
	}
	return true
}

// checkFreshForm checks that the form that a call returns shares no memory with its arguments and itself, and that they are not changed.
func checkFreshForm(t *testing.T, name string, call func(g impl.Form, h impl.Form) impl.Form, g impl.Form, h impl.Form) {
	t.Helper()
	first, second := spareForm(g), spareForm(h)
	before := wholeText(first) + wholeText(second)
	result := call(first, second)
	if wholeText(first)+wholeText(second) != before {
		t.Fatalf("%s changes %s or %s", name, gameText(g), gameText(h))
	}
	seen := map[*impl.Form]bool{}
	if !slots(first, seen) || !slots(second, seen) || !slots(result, seen) {
		t.Fatalf("%s of %s and %s shares memory", name, gameText(g), gameText(h))
	}
	if again := call(first, second); !sameGame(again, result) {
		t.Fatalf("%s of %s and %s is %s and then %s", name, gameText(g), gameText(h), gameText(result), gameText(again))
	}
}

// TestFreshForms checks that results share no memory, also if the parts of an argument do.
func TestFreshForms(t *testing.T) {
	add := func(g impl.Form, h impl.Form) impl.Form {
		sum, _ := impl.AddForms(g, h)
		return sum
	}
	negate := func(g impl.Form, _ impl.Form) impl.Form { return impl.NegateForm(g) }
	same := func(g impl.Form, h impl.Form) impl.Form {
		impl.ValidForm(g)
		impl.CompareForms(g, h)
		impl.WinnerOf(g)
		impl.ValueOf(g)
		impl.StopOf(g, true)
		impl.StopOf(g, false)
		return impl.Form{}
	}
	forms := sampleForms(23)
	for i, g := range forms {
		checkFreshForm(t, "NegateForm", negate, g, impl.Form{})
		for j := i % 5; j < len(forms); j += 5 {
			checkFreshForm(t, "AddForms", add, g, forms[j])
			checkFreshForm(t, "Comparing", same, g, forms[j])
		}
	}
	shared := sharedForm(3)
	if negated := impl.NegateForm(shared); !slots(negated, map[*impl.Form]bool{}) {
		t.Error("NegateForm of a form that shares memory shares memory")
	}
	if sum, ok := impl.AddForms(shared, chain(1)); !ok || !slots(sum, map[*impl.Form]bool{}) {
		t.Error("AddForms of a form that shares memory shares memory")
	}
}
