package tests

import (
	"math"
	"math/rand"
	"slices"
	"testing"

	"loop.example/goboard/impl"
)

// playedGame is rules and moves.
type playedGame struct {
	rules impl.Rules
	moves []int
}

// legalGames returns games of many lengths whose moves are all allowed, on boards of all sizes.
func legalGames() []playedGame {
	mixed := rand.New(rand.NewSource(2))
	var list []playedGame
	forSizes(func(size int) {
		for _, r := range allRules(size) {
			for _, n := range []int{0, 1, 2, 5, 9, 14, 20, 30, 38, 39, 40} {
				list = append(list, playedGame{r, mixedMoves(mixed, r, n)})
			}
		}
	})
	return list
}

// mixedGames returns games with moves that are allowed and some that are not: all short ones on small boards, and longer ones.
func mixedGames() []playedGame {
	mixed := rand.New(rand.NewSource(3))
	var list []playedGame
	for _, r := range append(allRules(1), allRules(2)...) {
		for n := range 3000 {
			var moves []int
			for ; n > 0; n /= pointsOf(r.Size) + 1 {
				moves = append(moves, n%(pointsOf(r.Size)+1)-1)
			}
			list = append(list, playedGame{r, moves[:min(len(moves), impl.MaxMoves)]})
		}
	}
	for _, g := range legalGames() {
		list = append(list, g)
		for range 2 * min(1, len(g.moves)) {
			moves := slices.Clone(g.moves)
			moves[mixed.Intn(len(moves))] = mixed.Intn(pointsOf(g.rules.Size)+1) - 1
			list = append(list, playedGame{g.rules, moves})
		}
	}
	return list
}

func TestConstantsOfGames(t *testing.T) {
	if impl.MaxMoves != 40 || impl.Pass != -1 {
		t.Errorf("MaxMoves = %d, Pass = %d", impl.MaxMoves, impl.Pass)
	}
	if impl.KoSimple != 1 || impl.KoPositional != 2 || impl.KoSituational != 3 {
		t.Errorf("rules of repetition are %d, %d and %d", impl.KoSimple, impl.KoPositional, impl.KoSituational)
	}
}

// checkGame checks all functions for a game against the words of the rules.
func checkGame(t *testing.T, g playedGame) {
	t.Helper()
	r, moves := g.rules, g.moves
	model, first := modelReplay(r, moves)
	if got := impl.FirstIllegal(r, moves); got != first {
		t.Fatalf("FirstIllegal(%v, %v) = %d, not %d", r, moves, got, first)
	}
	b, ok := impl.ReplayMoves(r, moves)
	points := impl.NextPoints(r, moves)
	black, white := impl.PrisonersOf(r, moves)
	if first >= 0 {
		if ok || !isZero(b) || len(points) > 0 || black != -1 || white != -1 {
			t.Fatalf("%v, %v: %v, %v, %v, %d, %d with a move that is not allowed", r, moves, b, ok, points, black, white)
		}
		return
	}
	if !ok || !sameBoard(b, model.last()) {
		t.Fatalf("ReplayMoves(%v, %v) = %v, %v, not %v", r, moves, b, ok, model.last())
	}
	if want := model.points(r); !slices.Equal(points, want) {
		t.Fatalf("NextPoints(%v, %v) = %v, not %v", r, moves, points, want)
	}
	var placed [2]int
	for i, move := range moves {
		if move >= 0 {
			placed[i%2]++
		}
	}
	if black != placed[0]-modelCount(b, impl.Black) || white != placed[1]-modelCount(b, impl.White) {
		t.Fatalf("PrisonersOf(%v, %v) = %d, %d with %v", r, moves, black, white, b)
	}
}

// TestGamesModel checks games against the words of the rules.
func TestGamesModel(t *testing.T) {
	for _, g := range mixedGames() {
		checkGame(t, g)
	}
}

// TestRepeatedBoards checks the last of some moves with each rule of repetition; all moves before are allowed with each of them.
func TestRepeatedBoards(t *testing.T) {
	const pass = impl.Pass
	for _, x := range []struct {
		size    int
		suicide bool
		moves   []int
		allowed [3]bool // with KoSimple, KoPositional and KoSituational
	}{
		// A stone is captured, and captured back at once.
		{3, false, []int{0, 1, 4, 5, 2, 1}, [3]bool{false, false, false}},
		{3, true, []int{0, 1, 4, 5, 2, 1}, [3]bool{false, false, false}},
		// It is captured back after other moves.
		{3, false, []int{0, 1, 4, 5, 2, 6, 3, 1}, [3]bool{true, true, true}},
		{3, false, []int{0, 1, 4, 5, 2, pass, 3, 1}, [3]bool{true, true, true}},
		{3, false, []int{0, 1, 4, 5, 2, pass, pass, 1}, [3]bool{true, false, false}},
		// Two stones are captured, and one of the stones that captured them: the other player is to move after the same board.
		{3, false, []int{1, 3, 5, 4, 0, 2, 1}, [3]bool{true, false, true}},
		{3, false, []int{1, 3, 5, 4, 0, 2, pass, pass, 1}, [3]bool{true, false, true}},
		// With a pass on that board, both players were to move after it.
		{3, false, []int{1, 3, 5, 4, pass, pass, 0, 2, 1}, [3]bool{true, false, false}},
		// A stone that is removed at once repeats the board before it.
		{1, true, []int{0}, [3]bool{true, false, true}},
		{1, true, []int{pass, 0}, [3]bool{false, false, false}},
		{1, true, []int{pass, pass, 0}, [3]bool{false, false, false}},
		{2, true, []int{0, pass, 3, 1}, [3]bool{true, false, true}},
		{2, true, []int{0, 1, 3, 1}, [3]bool{true, false, true}},
		{2, true, []int{0, pass, 3, pass, pass, 1}, [3]bool{false, false, false}},
		{2, true, []int{0, pass, 3, pass, pass, 2}, [3]bool{false, false, false}},
		// All stones are removed, and the board is that of the beginning.
		{2, true, []int{0, pass, 1, pass, 2, pass, 3}, [3]bool{true, false, true}},
		{2, true, []int{pass, 0, pass, 1, pass, 2, pass, 3}, [3]bool{true, false, false}},
		{2, true, []int{pass, pass, 0, pass, 1, pass, 2, pass, 3}, [3]bool{true, false, false}},
	} {
		last := len(x.moves) - 1
		for i, want := range x.allowed {
			r := impl.Rules{Size: x.size, Ko: i + 1, Suicide: x.suicide}
			if got := impl.FirstIllegal(r, x.moves[:last]); got != -1 {
				t.Fatalf("FirstIllegal(%v, %v) = %d", r, x.moves[:last], got)
			}
			illegal := -1
			if !want {
				illegal = last
			}
			_, ok := impl.ReplayMoves(r, x.moves)
			if got := impl.FirstIllegal(r, x.moves); got != illegal || ok != want {
				t.Errorf("FirstIllegal(%v, %v) = %d, not %d, and ReplayMoves is %v", r, x.moves, got, illegal, ok)
			}
			move := x.moves[last]
			if got := impl.NextPoints(r, x.moves[:last]); move != pass && slices.Contains(got, move) != want {
				t.Errorf("NextPoints(%v, %v) = %v", r, x.moves[:last], got)
			}
			checkGame(t, playedGame{r, x.moves})
		}
	}
}

// TestBoardsOfGames checks the board, the next points and the prisoners after some moves.
func TestBoardsOfGames(t *testing.T) {
	const pass = impl.Pass
	for _, x := range []struct {
		rules        impl.Rules
		moves        []int
		text         string
		next         []int
		black, white int
	}{
		{impl.Rules{Size: 1, Ko: impl.KoSimple}, nil, "./", nil, 0, 0},
		{impl.Rules{Size: 1, Ko: impl.KoSimple, Suicide: true}, nil, "./", []int{0}, 0, 0},
		{impl.Rules{Size: 1, Ko: impl.KoSimple, Suicide: true}, []int{0}, "./", nil, 1, 0},
		{impl.Rules{Size: 1, Ko: impl.KoSituational, Suicide: true}, []int{0}, "./", nil, 1, 0},
		{impl.Rules{Size: 1, Ko: impl.KoPositional, Suicide: true}, nil, "./", nil, 0, 0},
		{impl.Rules{Size: 2, Ko: impl.KoPositional}, []int{pass, pass, pass}, "../../", []int{0, 1, 2, 3}, 0, 0},
		{impl.Rules{Size: 2, Ko: impl.KoPositional}, []int{pass, 0}, "../O./", []int{1, 2, 3}, 0, 0},
		{impl.Rules{Size: 3, Ko: impl.KoSimple}, []int{0, 1, 4, 5, 2}, ".../.XO/X.X/", []int{3, 6, 7, 8}, 0, 1},
		{impl.Rules{Size: 3, Ko: impl.KoSimple}, []int{0, 1, 4, 5, 2, pass}, ".../.XO/X.X/", []int{1, 3, 6, 7, 8}, 0, 1},
		{impl.Rules{Size: 3, Ko: impl.KoPositional}, []int{1, 3, 5, 4, 0, 2}, ".../OOX/..O/", []int{0, 6, 7, 8}, 2, 0},
		{impl.Rules{Size: 3, Ko: impl.KoSituational}, []int{1, 3, 5, 4, 0, 2}, ".../OOX/..O/", []int{0, 1, 6, 7, 8}, 2, 0},
		{impl.Rules{Size: 3, Ko: impl.KoSituational}, []int{1, 3, 5, 4, 0, 2, 1}, ".../OOX/.X./", []int{0, 6, 7, 8}, 2, 1},
		{impl.Rules{Size: 2, Ko: impl.KoSituational, Suicide: true}, []int{0, pass, 1, pass, 2, pass, 3}, "../../", []int{0, 1, 2, 3}, 4, 0},
		{impl.Rules{Size: 2, Ko: impl.KoSituational, Suicide: true}, []int{0, pass, 1, pass, 2, pass, 3, pass}, "../../", []int{1, 2, 3}, 4, 0},
	} {
		b, ok := impl.ReplayMoves(x.rules, x.moves)
		if !ok || impl.FormatBoard(b) != x.text {
			t.Errorf("ReplayMoves(%v, %v) = %q, %v, not %q", x.rules, x.moves, impl.FormatBoard(b), ok, x.text)
		}
		if got := impl.NextPoints(x.rules, x.moves); !slices.Equal(got, x.next) {
			t.Errorf("NextPoints(%v, %v) = %v, not %v", x.rules, x.moves, got, x.next)
		}
		if black, white := impl.PrisonersOf(x.rules, x.moves); black != x.black || white != x.white {
			t.Errorf("PrisonersOf(%v, %v) = %d, %d, not %d, %d", x.rules, x.moves, black, white, x.black, x.white)
		}
	}
}

// checkNoGame checks the results for rules and moves that are not valid.
func checkNoGame(t *testing.T, r impl.Rules, moves []int) {
	t.Helper()
	b, ok := impl.ReplayMoves(r, moves)
	first, next := impl.FirstIllegal(r, moves), impl.NextPoints(r, moves)
	black, white := impl.PrisonersOf(r, moves)
	if ok || !isZero(b) || first != -1 || len(next) > 0 || black != -1 || white != -1 {
		t.Errorf("%v with %d moves %v: %v, %v, %d, %v, %d, %d", r, len(moves), moves, b, ok, first, next, black, white)
	}
}

// TestInvalidGames checks the results for arguments that are not valid, also behind a move that is not allowed.
func TestInvalidGames(t *testing.T) {
	for _, ko := range []int{impl.KoSimple, impl.KoPositional, impl.KoSituational} {
		for _, size := range badSizes {
			for _, moves := range [][]int{nil, {0}, {impl.Pass}, {0, 0}, {-2}} {
				checkNoGame(t, impl.Rules{Size: size, Ko: ko}, moves)
			}
		}
	}
	forSizes(func(size int) {
		for _, ko := range []int{0, -1, 4, 5, math.MaxInt, math.MinInt} {
			for _, moves := range [][]int{nil, {0}, {impl.Pass}, {0, 0}, {-2}} {
				checkNoGame(t, impl.Rules{Size: size, Ko: ko}, moves)
				checkNoGame(t, impl.Rules{Size: size, Ko: ko, Suicide: true}, moves)
			}
		}
		for _, r := range allRules(size) {
			for _, move := range []int{-2, -3, pointsOf(size), pointsOf(size) + 1, math.MaxInt, math.MinInt} {
				checkNoGame(t, r, []int{move})
				checkNoGame(t, r, []int{impl.Pass, move, impl.Pass})
				checkNoGame(t, r, []int{0, 0, 0, move})
			}
		}
	})
	checkNoGame(t, impl.Rules{}, nil)
}

// TestNumbersOfMoves checks no moves, MaxMoves moves, and one or more beyond.
func TestNumbersOfMoves(t *testing.T) {
	mixed := rand.New(rand.NewSource(4))
	forSizes(func(size int) {
		for _, r := range allRules(size) {
			checkGame(t, playedGame{r, nil})
			checkGame(t, playedGame{r, []int{}})
			passes := slices.Repeat([]int{impl.Pass}, impl.MaxMoves)
			checkGame(t, playedGame{r, passes})
			checkNoGame(t, r, append(passes, impl.Pass))
			checkNoGame(t, r, slices.Repeat(passes, 3))
			checkNoGame(t, r, slices.Repeat([]int{0}, impl.MaxMoves+1))
			moves := mixedMoves(mixed, r, impl.MaxMoves)
			checkGame(t, playedGame{r, moves})
			checkNoGame(t, r, append(moves, impl.Pass))
			for _, p := range impl.NextPoints(r, moves) {
				checkNoGame(t, r, append(moves, p))
			}
		}
	})
	for _, r := range allRules(7) {
		moves := mixedMoves(mixed, r, impl.MaxMoves)
		if len(impl.NextPoints(r, moves)) == 0 {
			t.Errorf("NextPoints(%v, %v) is empty after %d moves", r, moves, impl.MaxMoves)
		}
	}
}

// TestP30GamesAreReplayedMoveByMove checks promise 30.
func TestP30GamesAreReplayedMoveByMove(t *testing.T) {
	for _, g := range legalGames() {
		for i, move := range g.moves {
			before, ok1 := impl.ReplayMoves(g.rules, g.moves[:i])
			after, ok2 := impl.ReplayMoves(g.rules, g.moves[:i+1])
			want := before
			if move != impl.Pass {
				want, _, _ = impl.PlayStone(before, 1+i%2, move, g.rules.Suicide)
			}
			if !ok1 || !ok2 || !sameBoard(after, want) || isZero(after) {
				t.Fatalf("ReplayMoves(%v, %v) = %v, not %v", g.rules, g.moves[:i+1], after, want)
			}
		}
	}
}

// TestP31BoardsAreNotRepeated checks promise 31.
func TestP31BoardsAreNotRepeated(t *testing.T) {
	for _, g := range mixedGames() {
		if g.rules.Ko != impl.KoPositional || impl.FirstIllegal(g.rules, g.moves) >= 0 {
			continue
		}
		seen := map[string]bool{}
		for i := range len(g.moves) + 1 {
			b, _ := impl.ReplayMoves(g.rules, g.moves[:i])
			text := impl.FormatBoard(b)
			if i > 0 && g.moves[i-1] != impl.Pass && seen[text] {
				t.Fatalf("ReplayMoves(%v, %v) repeats %q", g.rules, g.moves[:i], text)
			}
			seen[text] = true
		}
	}
}

// TestP32StricterRulesAllowLess checks promise 32, and that KoSituational allows no more than KoSimple.
func TestP32StricterRulesAllowLess(t *testing.T) {
	for _, g := range mixedGames() {
		r := g.rules
		board, ok := impl.ReplayMoves(r, g.moves)
		if !ok || r.Ko == impl.KoSimple {
			continue
		}
		kinds := []int{impl.KoSimple}
		if r.Ko == impl.KoPositional {
			kinds = append(kinds, impl.KoSituational)
		}
		for _, ko := range kinds {
			looser := impl.Rules{Size: r.Size, Ko: ko, Suicide: r.Suicide}
			if got, ok := impl.ReplayMoves(looser, g.moves); !ok || !sameBoard(got, board) {
				t.Fatalf("ReplayMoves(%v, %v) = %v, %v, not %v", looser, g.moves, got, ok, board)
			}
		}
	}
}

// TestP33TheFirstIllegalMove checks promise 33.
func TestP33TheFirstIllegalMove(t *testing.T) {
	illegal := 0
	for _, g := range mixedGames() {
		first := impl.FirstIllegal(g.rules, g.moves)
		if _, ok := impl.ReplayMoves(g.rules, g.moves); ok != (first == -1) {
			t.Fatalf("FirstIllegal(%v, %v) = %d, but ReplayMoves is %v", g.rules, g.moves, first, ok)
		}
		if first < 0 {
			continue
		}
		illegal++
		_, before := impl.ReplayMoves(g.rules, g.moves[:first])
		_, with := impl.ReplayMoves(g.rules, g.moves[:first+1])
		if !before || with {
			t.Fatalf("FirstIllegal(%v, %v) = %d, but ReplayMoves is %v before and %v with it", g.rules, g.moves, first, before, with)
		}
	}
	if illegal < 100 {
		t.Errorf("only %d games have a move that is not allowed", illegal)
	}
}

// TestP34AllowedPointsCanBePlayed checks promise 34.
func TestP34AllowedPointsCanBePlayed(t *testing.T) {
	for _, g := range legalGames() {
		if len(g.moves) >= impl.MaxMoves {
			continue
		}
		var want []int
		for p := range pointsOf(g.rules.Size) {
			if _, ok := impl.ReplayMoves(g.rules, append(slices.Clone(g.moves), p)); ok {
				want = append(want, p)
			}
		}
		got := impl.NextPoints(g.rules, g.moves)
		if !slices.Equal(got, want) {
			t.Fatalf("NextPoints(%v, %v) = %v, not %v", g.rules, g.moves, got, want)
		}
		b, _ := impl.ReplayMoves(g.rules, g.moves)
		possible := impl.PossiblePoints(b, 1+len(g.moves)%2, g.rules.Suicide)
		for _, p := range got {
			if !slices.Contains(possible, p) {
				t.Fatalf("NextPoints(%v, %v) = %v, but %d is not possible on %v", g.rules, g.moves, got, p, b)
			}
		}
	}
}

// TestP35StonesAreOnTheBoardOrPrisoners checks promise 35, for both colors together and for each of them.
func TestP35StonesAreOnTheBoardOrPrisoners(t *testing.T) {
	for _, g := range legalGames() {
		b, _ := impl.ReplayMoves(g.rules, g.moves)
		black, white := impl.PrisonersOf(g.rules, g.moves)
		var placed [2]int
		for i, move := range g.moves {
			if move != impl.Pass {
				placed[i%2]++
			}
		}
		if black < 0 || impl.CountStones(b, impl.Black)+black != placed[0] || white < 0 || impl.CountStones(b, impl.White)+white != placed[1] {
			t.Fatalf("PrisonersOf(%v, %v) = %d, %d with %v", g.rules, g.moves, black, white, b)
		}
	}
}

// TestP139PassingChangesNoStone checks promise 139.
func TestP139PassingChangesNoStone(t *testing.T) {
	for _, g := range legalGames() {
		b, _ := impl.ReplayMoves(g.rules, g.moves)
		for n := 1; n <= 2 && len(g.moves)+n <= impl.MaxMoves; n++ {
			moves := append(slices.Clone(g.moves), slices.Repeat([]int{impl.Pass}, n)...)
			if got, ok := impl.ReplayMoves(g.rules, moves); !ok || !sameBoard(got, b) {
				t.Fatalf("ReplayMoves(%v, %v) = %v, %v, not %v", g.rules, moves, got, ok, b)
			}
		}
	}
}

// TestP140PrisonersStayPrisoners checks promise 140.
func TestP140PrisonersStayPrisoners(t *testing.T) {
	taken := 0
	for _, g := range legalGames() {
		lastBlack, lastWhite := 0, 0
		for i := range len(g.moves) + 1 {
			black, white := impl.PrisonersOf(g.rules, g.moves[:i])
			if black < lastBlack || white < lastWhite {
				t.Fatalf("PrisonersOf(%v, %v) = %d, %d, and %d, %d before", g.rules, g.moves[:i], black, white, lastBlack, lastWhite)
			}
			lastBlack, lastWhite = black, white
		}
		taken += lastBlack + lastWhite
	}
	if taken < 100 {
		t.Errorf("only %d stones are prisoners", taken)
	}
}

// TestGamesAreFresh checks that results share no memory with the moves, and that the moves are not changed.
func TestGamesAreFresh(t *testing.T) {
	for _, g := range legalGames() {
		whole := append(slices.Clone(g.moves), slices.Repeat([]int{66}, 8)...)
		before := slices.Clone(whole)
		moves := whole[:len(g.moves)]
		b, _ := impl.ReplayMoves(g.rules, moves)
		points := impl.NextPoints(g.rules, moves)
		cells, next := slices.Clone(b.Cells), slices.Clone(points)
		spoil(b.Cells)
		if !slices.Equal(points, next) {
			t.Fatalf("%v, %v: results share memory", g.rules, moves)
		}
		spoil(points)
		impl.FirstIllegal(g.rules, moves)
		impl.PrisonersOf(g.rules, moves)
		if !slices.Equal(whole, before) {
			t.Fatalf("%v, %v: the moves are changed", g.rules, g.moves)
		}
		again, _ := impl.ReplayMoves(g.rules, moves)
		if !slices.Equal(again.Cells, cells) || !slices.Equal(impl.NextPoints(g.rules, moves), next) {
			t.Fatalf("%v, %v: other results after the first ones were overwritten", g.rules, moves)
		}
	}
}
