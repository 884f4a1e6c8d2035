package tests

import (
	"math"
	"slices"
	"testing"

	"loop.example/goboard/impl"
)

// swap returns the switch for the other player.
func swap(s impl.Switch) impl.Switch {
	return impl.Switch{Left: -s.Right, Right: -s.Left}
}

// swapAll returns the switches for the other player.
func swapAll(list []impl.Switch) []impl.Switch {
	var others []impl.Switch
	for _, s := range list {
		others = append(others, swap(s))
	}
	return others
}

// allSwitches returns all valid switches.
func allSwitches() []impl.Switch {
	var list []impl.Switch
	for left := -99; left <= 99; left++ {
		for right := -99; right <= left; right++ {
			list = append(list, impl.Switch{Left: left, Right: right})
		}
	}
	return list
}

// forSwitches calls a function for lists of switches and both players.
func forSwitches(f func(list []impl.Switch, left bool)) {
	for _, list := range sampleSwitches() {
		f(list, true)
		f(list, false)
	}
}

// TestConstantsOfSwitches checks limits.
func TestConstantsOfSwitches(t *testing.T) {
	if impl.MaxStop != 99 || impl.MaxSwitches != 6 {
		t.Error("limits")
	}
}

// TestHeatOf checks switches without heat, with negative ends, and at the limits.
func TestHeatOf(t *testing.T) {
	for _, x := range []struct{ left, right, want int }{
		{0, 0, 0}, {5, 1, 4}, {3, -3, 6}, {-1, -5, 4}, {-5, -5, 0}, {99, 99, 0}, {-99, -99, 0}, {99, -99, 198}, {0, -99, 99}, {99, 0, 99}, {1, 0, 1}, {0, -1, 1},
	} {
		if got := impl.HeatOf(impl.Switch{Left: x.left, Right: x.right}); got != x.want {
			t.Errorf("HeatOf {%d, %d} = %d", x.left, x.right, got)
		}
	}
}

// TestMeanOf checks means that are integers and halves, of both signs.
func TestMeanOf(t *testing.T) {
	for _, x := range []struct {
		left, right int
		want        impl.Dyadic
	}{
		{0, 0, zeroNumber}, {5, 2, number(7, 1)}, {5, 1, number(3, 0)}, {3, -3, zeroNumber}, {-1, -4, number(-5, 1)}, {-1, -5, number(-3, 0)}, {99, 99, number(99, 0)}, {-99, -99, number(-99, 0)}, {99, 98, number(197, 1)}, {-98, -99, number(-197, 1)},
		{99, -99, zeroNumber}, {1, 0, number(1, 1)}, {0, -1, number(-1, 1)}, {2, -1, number(1, 1)}, {1, -2, number(-1, 1)}, {7, 7, number(7, 0)},
	} {
		got, ok := impl.MeanOf(impl.Switch{Left: x.left, Right: x.right})
		checkNumber(t, "MeanOf", got, ok, x.want, true)
	}
}

// TestHotOrder checks lists that are empty, that have one switch, ties, and MaxSwitches switches.
func TestHotOrder(t *testing.T) {
	for _, x := range []struct {
		list []impl.Switch
		want []int
	}{
		{nil, nil}, {[]impl.Switch{}, nil}, {[]impl.Switch{{Left: -3, Right: -3}}, []int{0}}, {[]impl.Switch{{Left: 5, Right: 1}, {Left: 3, Right: -3}}, []int{1, 0}}, {[]impl.Switch{{Left: 3, Right: -3}, {Left: 5, Right: 1}}, []int{0, 1}},
		{[]impl.Switch{{Left: 4, Right: 0}, {Left: 9, Right: 5}, {Left: -1, Right: -5}}, []int{0, 1, 2}}, {make([]impl.Switch, 6), []int{0, 1, 2, 3, 4, 5}},
		{[]impl.Switch{{Left: 1, Right: 1}, {Left: 2, Right: 1}, {Left: 3, Right: 1}, {Left: 4, Right: 1}, {Left: 5, Right: 1}, {Left: 6, Right: 1}}, []int{5, 4, 3, 2, 1, 0}},
		{[]impl.Switch{{Left: 1, Right: 0}, {Left: 2, Right: 0}, {Left: 0, Right: -1}, {Left: 0, Right: -2}, {Left: 5, Right: 4}, {Left: 9, Right: 7}}, []int{1, 3, 5, 0, 2, 4}},
		{[]impl.Switch{{Left: 99, Right: 98}, {Left: -98, Right: -99}, {Left: 0, Right: -2}}, []int{2, 0, 1}},
	} {
		if got := impl.HotOrder(x.list); !slices.Equal(got, x.want) {
			t.Errorf("HotOrder(%v) = %v, not %v", x.list, got, x.want)
		}
	}
}

// checkScores checks the scores of switches, which are the same if the players take them best.
func checkScores(t *testing.T, list []impl.Switch, left bool, want int) {
	t.Helper()
	if got, ok := impl.HotScore(list, left); got != want || !ok {
		t.Errorf("HotScore(%v, %v) = %d, %v, not %d", list, left, got, ok, want)
	}
	if got, ok := impl.BestScore(list, left); got != want || !ok {
		t.Errorf("BestScore(%v, %v) = %d, %v, not %d", list, left, got, ok, want)
	}
}

// TestScoresOfSwitches checks both scores for both players.
func TestScoresOfSwitches(t *testing.T) {
	for _, x := range []struct {
		list        []impl.Switch
		left, right int
	}{
		{nil, 0, 0}, {[]impl.Switch{}, 0, 0}, {[]impl.Switch{{Left: 5, Right: 1}}, 5, 1}, {[]impl.Switch{{Left: -1, Right: -5}}, -1, -5}, {[]impl.Switch{{Left: 5, Right: 1}, {Left: 3, Right: -3}}, 4, 2},
		{[]impl.Switch{{Left: 9, Right: 8}, {Left: 3, Right: -3}}, 11, 6}, {[]impl.Switch{{Left: -9, Right: -9}, {Left: 4, Right: 4}}, -5, -5}, {[]impl.Switch{{Left: 2, Right: 0}, {Left: 7, Right: 5}}, 7, 7}, {[]impl.Switch{{Left: 2, Right: -2}, {Left: 1, Right: -1}, {Left: 3, Right: -3}}, 2, -2},
		{slices.Repeat([]impl.Switch{{Left: 99, Right: -99}}, 6), 0, 0}, {slices.Repeat([]impl.Switch{{Left: 99, Right: -99}}, 5), 99, -99}, {slices.Repeat([]impl.Switch{{Left: 99, Right: 99}}, 6), 594, 594}, {slices.Repeat([]impl.Switch{{Left: -99, Right: -99}}, 6), -594, -594},
		{[]impl.Switch{{Left: 6, Right: 0}, {Left: 5, Right: 0}, {Left: 4, Right: 0}, {Left: 3, Right: 0}, {Left: 2, Right: 0}, {Left: 1, Right: 0}}, 12, 9},
	} {
		checkScores(t, x.list, true, x.left)
		checkScores(t, x.list, false, x.right)
	}
}

// TestScoresModel checks both scores by the sets of switches that are left, and by means and heats.
func TestScoresModel(t *testing.T) {
	forSwitches(func(list []impl.Switch, left bool) {
		best, hot := modelBest(list, left), modelHeats(list, left)
		if got, ok := impl.BestScore(list, left); got != best || !ok {
			t.Fatalf("BestScore(%v, %v) = %d, %v, not %d", list, left, got, ok, best)
		}
		if got, ok := impl.HotScore(list, left); 2*got != hot || !ok {
			t.Fatalf("HotScore(%v, %v) = %d, %v, not the half of %d", list, left, got, ok, hot)
		}
	})
}

// TestInvalidSwitches checks switches whose Right is more than Left or whose ends are outside their ranges, and lists with them or that are too long.
func TestInvalidSwitches(t *testing.T) {
	for _, bad := range badSwitches {
		if got := impl.HeatOf(bad); got != -1 {
			t.Errorf("HeatOf(%v) = %d", bad, got)
		}
		got, ok := impl.MeanOf(bad)
		checkNumber(t, "MeanOf of an invalid switch", got, ok, zeroNumber, false)
	}
	for left := -102; left <= 102; left++ {
		for right := -102; right <= 102; right++ {
			s := impl.Switch{Left: left, Right: right}
			valid := left <= 99 && right >= -99 && left >= right
			if got := impl.HeatOf(s); (got >= 0) != valid || !valid && got != -1 {
				t.Errorf("HeatOf(%v) = %d", s, got)
			}
			if got, ok := impl.MeanOf(s); ok != valid || !valid && got != zeroNumber {
				t.Errorf("MeanOf(%v) = %v, %v", s, got, ok)
			}
		}
	}
	for _, list := range badSwitchLists() {
		if got := impl.HotOrder(list); len(got) > 0 {
			t.Errorf("HotOrder(%v) = %v", list, got)
		}
		for _, left := range []bool{true, false} {
			if got, ok := impl.HotScore(list, left); got != 0 || ok {
				t.Errorf("HotScore(%v, %v) = %d, %v", list, left, got, ok)
			}
			if got, ok := impl.BestScore(list, left); got != 0 || ok {
				t.Errorf("BestScore(%v, %v) = %d, %v", list, left, got, ok)
			}
		}
	}
}

// TestP84HotSwitchesHaveAMeanBetweenTheirEnds checks promise 84.
func TestP84HotSwitchesHaveAMeanBetweenTheirEnds(t *testing.T) {
	for _, s := range allSwitches() {
		mean, ok := impl.MeanOf(s)
		if !ok || impl.CompareDyadic(mean, number(s.Left, 0)) > 0 || impl.CompareDyadic(mean, number(s.Right, 0)) < 0 {
			t.Fatalf("MeanOf(%v) = %v, %v", s, mean, ok)
		}
		if got := impl.HeatOf(s); got != s.Left-s.Right || got < 0 {
			t.Fatalf("HeatOf(%v) = %d", s, got)
		}
	}
}

// TestP85TheMeanIsInTheMiddle checks promise 85.
func TestP85TheMeanIsInTheMiddle(t *testing.T) {
	for _, s := range allSwitches() {
		mean, _ := impl.MeanOf(s)
		if twice, ok := impl.AddDyadic(mean, mean); twice != number(s.Left+s.Right, 0) || !ok {
			t.Fatalf("MeanOf(%v) = %v, and twice %v", s, mean, twice)
		}
		if other, ok := impl.MeanOf(swap(s)); other != inverse(mean) || !ok {
			t.Fatalf("MeanOf(%v) = %v, but for the other player %v", s, mean, other)
		}
	}
}

// TestP86TheHottestSwitchComesFirst checks promise 86.
func TestP86TheHottestSwitchComesFirst(t *testing.T) {
	for _, list := range sampleSwitches() {
		order := impl.HotOrder(list)
		sorted := slices.Sorted(slices.Values(order))
		for i := range list {
			if len(order) != len(list) || sorted[i] != i {
				t.Fatalf("HotOrder(%v) = %v", list, order)
			}
			if i == 0 {
				continue
			}
			before, after := impl.HeatOf(list[order[i-1]]), impl.HeatOf(list[order[i]])
			if before < after || before == after && order[i-1] > order[i] {
				t.Fatalf("HotOrder(%v) = %v", list, order)
			}
		}
	}
}

// TestP87TakingTheHottestSwitchIsBest checks promise 87.
func TestP87TakingTheHottestSwitchIsBest(t *testing.T) {
	forSwitches(func(list []impl.Switch, left bool) {
		hot, okHot := impl.HotScore(list, left)
		best, okBest := impl.BestScore(list, left)
		if hot != best || !okHot || !okBest {
			t.Fatalf("HotScore(%v, %v) = %d, but BestScore = %d", list, left, hot, best)
		}
	})
}

// TestP88BeginningDoesNotHurt checks promise 88.
func TestP88BeginningDoesNotHurt(t *testing.T) {
	for _, list := range sampleSwitches() {
		left, _ := impl.HotScore(list, true)
		right, _ := impl.HotScore(list, false)
		greatest := 0
		for _, s := range list {
			greatest = max(greatest, impl.HeatOf(s))
		}
		if left < right || left-right > greatest {
			t.Fatalf("HotScore(%v) = %d for the left player, and %d for the right one", list, left, right)
		}
	}
}

// TestP89BothPlayersAreAlike checks promise 89, and the same for HotScore.
func TestP89BothPlayersAreAlike(t *testing.T) {
	forSwitches(func(list []impl.Switch, left bool) {
		best, _ := impl.BestScore(list, left)
		if other, ok := impl.BestScore(swapAll(list), !left); other != -best || !ok {
			t.Fatalf("BestScore(%v, %v) = %d, but for the other player %d", list, left, best, other)
		}
		hot, _ := impl.HotScore(list, left)
		if other, ok := impl.HotScore(swapAll(list), !left); other != -hot || !ok {
			t.Fatalf("HotScore(%v, %v) = %d, but for the other player %d", list, left, hot, other)
		}
	})
}

// TestP90TheBestMoveIsAMove checks promise 90.
func TestP90TheBestMoveIsAMove(t *testing.T) {
	forSwitches(func(list []impl.Switch, left bool) {
		if len(list) == 0 {
			return
		}
		reached := math.MaxInt
		if left {
			reached = math.MinInt
		}
		for i, s := range list {
			rest, _ := impl.BestScore(slices.Concat(list[:i], list[i+1:]), !left)
			if left {
				reached = max(reached, s.Left+rest)
			} else {
				reached = min(reached, s.Right+rest)
			}
		}
		if best, _ := impl.BestScore(list, left); best != reached {
			t.Fatalf("BestScore(%v, %v) = %d, but taking a switch first leads to %d", list, left, best, reached)
		}
	})
}

// TestSwitchesAreFresh checks that lists are not changed, spare capacity included, and that orders are new.
func TestSwitchesAreFresh(t *testing.T) {
	mark := impl.Switch{Left: 77, Right: 55}
	forSwitches(func(list []impl.Switch, left bool) {
		whole := append(slices.Clone(list), mark, mark)
		before := slices.Clone(whole)
		given := whole[:len(list)]
		order := slices.Clone(impl.HotOrder(given))
		spoil(impl.HotOrder(given))
		impl.HotScore(given, left)
		impl.BestScore(given, left)
		if !slices.Equal(whole, before) {
			t.Fatalf("the list %v is changed to %v", before, whole)
		}
		if again := impl.HotOrder(given); !slices.Equal(again, order) {
			t.Fatalf("HotOrder(%v) = %v and then %v", list, order, again)
		}
	})
}
