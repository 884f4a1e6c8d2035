package tests

import (
	"math"
	"slices"
	"testing"

	"loop.example/goboard/impl"
)

// badDepths are numbers that no ladder and no task has as its depth.
var badDepths = []int{-1, impl.MaxDepth + 1, 100, math.MaxInt, -6, math.MinInt, 1 << 32}

// ladderMoves returns LadderMove for all depths from 1 on.
func ladderMoves(b impl.Board, p int) []int {
	var list []int
	for depth := 1; depth <= impl.MaxDepth; depth++ {
		list = append(list, impl.LadderMove(b, p, depth))
	}
	return list
}

// checkLadderMoves checks LadderMove for all depths, and LadderDepth, also with both colors exchanged.
func checkLadderMoves(t *testing.T, text string, p int, want []int) {
	t.Helper()
	// Without a ladder this is 0.
	depth := 1 + slices.IndexFunc(want, func(move int) bool { return move != impl.Pass })
	b := readText(t, text)
	for _, b := range []impl.Board{b, modelInverse(b)} {
		if got := ladderMoves(b, p); !slices.Equal(got, want) || impl.LadderDepth(b, p) != depth {
			t.Errorf("LadderMove(%v, %d) = %v, LadderDepth = %d, not %v, %d", b, p, got, impl.LadderDepth(b, p), want, depth)
		}
	}
}

// checkLadder checks that LadderMove is a point within a depth and all greater ones, and Pass within smaller ones; with depth 0 it is never a point.
func checkLadder(t *testing.T, text string, p int, depth int, move int) {
	t.Helper()
	want := slices.Repeat([]int{impl.Pass}, impl.MaxDepth)
	for i := range want {
		if depth > 0 && i+1 >= depth {
			want[i] = move
		}
	}
	checkLadderMoves(t, text, p, want)
}

// TestLibertiesOfLadders checks groups with no, one, two and more liberties.
func TestLibertiesOfLadders(t *testing.T) {
	for _, text := range []string{"X/", "OO/XO/", "OOO/XXO/XXO/", "XXX/XXX/XXX/"} {
		checkLadder(t, text, 0, 0, impl.Pass)
	}
	checkLadder(t, ".../.X./.../", 4, 0, impl.Pass)
	checkLadder(t, ".../X../X../", 0, 0, impl.Pass)
	checkLadder(t, ".../.../.X./", 1, 0, impl.Pass)
	checkLadder(t, ".../.../XO./", 0, 1, 3)
	checkLadder(t, ".../O../X../", 0, 1, 1)
	checkLadder(t, "XX/X./", 3, 1, 1)
	checkLadder(t, "XO/.X/", 2, 1, 0)
	checkLadder(t, ".O./OXO/.../", 4, 1, 1)
	checkLadder(t, ".X./XOX/O.O/", 4, 1, 1)
	checkLadder(t, "XX.XX/XXXXX/XXXXX/XXXXX/XXXXX/", 0, 1, 22)
	checkLadder(t, ".../.../X../", 0, 3, 1)
	checkLadder(t, "..../..../..../X.../", 0, 4, 1)
	// Here each stone of the ladder is removed at the opposite corner.
	checkLadder(t, "../X./", 0, 0, impl.Pass)
}

// TestSingleLibertyIsPossible checks that the other color can always play at the only liberty of a group, on all boards of the sizes 1 to 3.
func TestSingleLibertyIsPossible(t *testing.T) {
	count := 0
	for i, most := range []int{3, 81, 19683} {
		for n := range most {
			b := numberedBoard(i+1, n)
			forGroups([]impl.Board{b}, func(b impl.Board, p int) {
				liberties := modelLiberties(b, modelGroup(b, p))
				if len(liberties) != 1 {
					return
				}
				count++
				if _, removed, ok := modelPlay(b, 3-b.Cells[p], liberties[0], false); !ok || !slices.Contains(removed, p) {
					t.Fatalf("%v: %d cannot be captured at %v", b, p, liberties)
				}
				if got := impl.LadderMove(b, p, 1); got != liberties[0] {
					t.Fatalf("LadderMove(%v, %d, 1) = %d, not %v", b, p, got, liberties)
				}
			})
		}
	}
	if count < 10000 {
		t.Errorf("only %d groups", count)
	}
}

// TestLongLadders checks ladders with stones in their way, and groups of which only one liberty begins a ladder.
func TestLongLadders(t *testing.T) {
	checkLadder(t, longLadder, 6, 6, 11)
	checkLadder(t, "...../...../...../OX.../OOO../", 6, 6, 11)
	// A stone of the group's color helps it, one of the other color shortens the ladder.
	checkLadder(t, "...../...X./...../OX.../.OO../", 6, 0, impl.Pass)
	checkLadder(t, "...../...O./...../OX.../.OO../", 6, 4, 11)
	// On a larger board the ladder is too long.
	checkLadder(t, "......./......./......./......./......./OX...../.OO..../", 8, 0, impl.Pass)
	checkLadder(t, "..../..../O.../OX../", 1, 3, 5)
	// A stone at the first liberty is possible here, but lets the group escape at the second one; and so in the image.
	checkLadder(t, "..../..../..OX/..X./", 7, 2, 11)
	checkLadder(t, "..../..../XO../.X../", 4, 2, 8)
}

// TestFirstLibertyOfLadders checks that the first liberty is taken as soon as the depth is enough for it, although the second one needs less.
func TestFirstLibertyOfLadders(t *testing.T) {
	// At A1 the ladder loses a stone and needs three moves, at C1 two.
	checkLadderMoves(t, ".../.OO/.X./", 1, []int{impl.Pass, 2, 0, 0, 0, 0})
	checkLadderMoves(t, ".XXO/O.O./..../X.XO/", 0, []int{impl.Pass, impl.Pass, impl.Pass, 4, 1, 1})
}

// TestImpossibleAttacks checks groups with two liberties, of which the attacker can play at none, or at one only.
func TestImpossibleAttacks(t *testing.T) {
	// Two eyes.
	checkLadder(t, ".X.X/XXXX/OOOO/..../", 8, 0, impl.Pass)
	checkLadder(t, "X./.X/", 1, 0, impl.Pass)
	checkLadder(t, ".X./XO./.X./", 3, 0, impl.Pass)
	// The first liberty is an eye.
	checkLadder(t, "..../OOO./XXO./.X../", 1, 1, 2)
	// The second one is.
	checkLadder(t, "..X./.OXX/.OOO/..../", 14, 1, 13)
	checkLadder(t, ".XO./X.../..../..../", 13, 2, 9)
	checkLadder(t, ".XO./X.../O.../..../", 8, 1, 9)
}

// TestGroupsWithoutAnswers checks that a ladder has begun within one move if no answer is possible.
func TestGroupsWithoutAnswers(t *testing.T) {
	checkLadder(t, "..../OOO./XXO./.X../", 1, 1, 2)
	checkLadder(t, "..../...O/...X/.OX./", 2, 1, 6)
	checkLadder(t, "X.O/.O./O../", 6, 1, 3)
	// An answer that only lengthens the ladder makes it need one move more.
	checkLadder(t, "OO./X../.XO/", 3, 2, 4)
}

// TestAnswersThatCapture checks answers that remove stones of the ladder, of which some help.
func TestAnswersThatCapture(t *testing.T) {
	// At C1 the ladder leaves White one liberty, where Black removes all stones.
	checkLadder(t, "OO./XXO/.X./", 1, 0, impl.Pass)
	// Removing C1 saves B1, but not A2, which is captured at A1 all the same.
	checkLadder(t, "OO./X../.XO/", 1, 0, impl.Pass)
	checkLadder(t, "OO./X../.XO/", 3, 2, 4)
	checkLadder(t, "XXX/XOO/.X./", 1, 3, 0)
	checkLadder(t, "O../X../.X./", 3, 0, impl.Pass)
	checkLadder(t, "..../..../XO.X/.X.O/", 4, 2, 8)
	checkLadder(t, "X.O./.X../X.OO/O.../", 12, 4, 13)
	checkLadder(t, "...X/.X../..../.X.X/", 15, 5, 14)
	checkLadder(t, "O.O./X.../..../XOX./", 8, 2, 9)
	// Without the stone in the corner, which any stone removes, there is no answer.
	checkLadder(t, "...X./....X/OOO../XXO../.X.../", 1, 1, 2)
	checkLadder(t, "...XO/....X/OOO../XXO../.X.../", 1, 2, 2)
}

// TestLadderModel checks LadderMove for all depths against the words of the specification.
func TestLadderModel(t *testing.T) {
	var found [impl.MaxDepth + 1]int
	second := 0
	forGroups(ladderBoards(t), func(b impl.Board, p int) {
		for depth := 1; depth <= impl.MaxDepth; depth++ {
			want := impl.Pass
			if points := modelLadder(b, p, depth); len(points) > 0 {
				want = points[0]
			}
			if got := impl.LadderMove(b, p, depth); got != want {
				t.Fatalf("LadderMove(%v, %d, %d) = %d, not %d", b, p, depth, got, want)
			}
		}
		depth := modelLadderDepth(b, p)
		if got := impl.LadderDepth(b, p); got != depth {
			t.Fatalf("LadderDepth(%v, %d) = %d, not %d", b, p, got, depth)
		}
		found[depth]++
		if depth > 0 && impl.LadderMove(b, p, depth) != impl.LibertiesOf(b, p)[0] {
			second++
		}
	})
	for depth, least := range []int{3000, 2000, 500, 200, 80, 20, 10} {
		if found[depth] < least {
			t.Errorf("only %d groups with ladders of depth %d", found[depth], depth)
		}
	}
	if second < 300 {
		t.Errorf("only %d ladders that begin at the second liberty", second)
	}
}

// TestLaddersOfWholeGroups checks that the ladder is the same for all stones of a group.
func TestLaddersOfWholeGroups(t *testing.T) {
	forGroups(ladderBoards(t), func(b impl.Board, p int) {
		moves, depth := ladderMoves(b, p), impl.LadderDepth(b, p)
		for _, q := range impl.GroupOf(b, p) {
			if got := ladderMoves(b, q); !slices.Equal(got, moves) || impl.LadderDepth(b, q) != depth {
				t.Fatalf("LadderMove(%v, %d) = %v, but for %d %v", b, q, got, p, moves)
			}
		}
	})
}

// TestInvalidLadders checks the results for arguments that are not valid.
func TestInvalidLadders(t *testing.T) {
	check := func(b impl.Board, p int) {
		t.Helper()
		for _, depth := range append(badDepths, 0, 1, 2, impl.MaxDepth) {
			if got := impl.LadderMove(b, p, depth); got != impl.Pass {
				t.Errorf("LadderMove(size %d, %v, %d, %d) = %d", b.Size, b.Cells, p, depth, got)
			}
		}
		if got := impl.LadderDepth(b, p); got != 0 {
			t.Errorf("LadderDepth(size %d, %v, %d) = %d", b.Size, b.Cells, p, got)
		}
	}
	for _, b := range badBoards() {
		for _, p := range []int{-1, 0, 1, 3, 8, 24, math.MaxInt, math.MinInt} {
			check(b, p)
		}
	}
	check(boardOf(2, 1, 2, 0, 3), 0)
	check(boardOf(2, 1, 2, 0), 0)
	check(boardOf(2, 1, 2, 0, 0, 0), 0)
	check(boardOf(3, 1, 2, 0, 0), 0)
	for _, b := range sampleBoards(t) {
		for _, p := range badPoints(b.Size) {
			check(b, p)
		}
		for p, color := range b.Cells {
			if color == impl.Empty {
				check(b, p)
			}
		}
	}
	for _, text := range []string{".../.../XO./", ".../.../X../", longLadder} {
		b := readText(t, text)
		for _, depth := range append(badDepths, 0) {
			for p := range b.Cells {
				if got := impl.LadderMove(b, p, depth); got != impl.Pass {
					t.Errorf("LadderMove(%v, %d, %d) = %d", b, p, depth, got)
				}
			}
		}
	}
}

// TestP51LaddersBeginWithAnAtari checks promise 51.
func TestP51LaddersBeginWithAnAtari(t *testing.T) {
	forGroups(ladderBoards(t), func(b impl.Board, p int) {
		for depth := 1; depth <= impl.MaxDepth; depth++ {
			move := impl.LadderMove(b, p, depth)
			if move == impl.Pass {
				continue
			}
			after, removed, ok := impl.PlayStone(b, 3-b.Cells[p], move, false)
			if !ok || !slices.Contains(impl.LibertiesOf(b, p), move) {
				t.Fatalf("LadderMove(%v, %d, %d) = %d, which is possible: %v", b, p, depth, move, ok)
			}
			if !slices.Contains(removed, p) && len(impl.LibertiesOf(after, p)) != 1 {
				t.Fatalf("LadderMove(%v, %d, %d) = %d leads to %v", b, p, depth, move, after)
			}
		}
	})
}

// TestP52MoreDepthFindsMoreLadders checks promise 52.
func TestP52MoreDepthFindsMoreLadders(t *testing.T) {
	forGroups(ladderBoards(t), func(b impl.Board, p int) {
		moves := ladderMoves(b, p)
		for i := 1; i < len(moves); i++ {
			if moves[i] == impl.Pass && moves[i-1] != impl.Pass {
				t.Fatalf("LadderMove(%v, %d) = %v", b, p, moves)
			}
		}
	})
}

// TestP53TheDepthIsTheSmallestOne checks promise 53.
func TestP53TheDepthIsTheSmallestOne(t *testing.T) {
	forGroups(ladderBoards(t), func(b impl.Board, p int) {
		depth := impl.LadderDepth(b, p)
		if depth < 0 || depth > impl.MaxDepth {
			t.Fatalf("LadderDepth(%v, %d) = %d", b, p, depth)
		}
		for within := 1; within <= impl.MaxDepth; within++ {
			found := impl.LadderMove(b, p, within) != impl.Pass
			if found != (depth > 0 && within >= depth) {
				t.Fatalf("LadderDepth(%v, %d) = %d, but within %d one is found: %v", b, p, depth, within, found)
			}
		}
	})
}

// TestP54GroupsInAtariAreCapturedAtOnce checks promise 54.
func TestP54GroupsInAtariAreCapturedAtOnce(t *testing.T) {
	for _, b := range append(ladderBoards(t), smallBoards(t)...) {
		for color := impl.Black; color <= impl.White; color++ {
			for _, group := range impl.AtariGroups(b, color) {
				if got := impl.LadderDepth(b, group[0]); got != 1 || impl.LadderMove(b, group[0], 1) != impl.LibertiesOf(b, group[0])[0] {
					t.Fatalf("LadderDepth(%v, %d) = %d", b, group[0], got)
				}
			}
		}
	}
}

// TestP146SymmetriesKeepLadders checks promise 146.
func TestP146SymmetriesKeepLadders(t *testing.T) {
	forGroups(ladderBoards(t), func(b impl.Board, p int) {
		depth := impl.LadderDepth(b, p)
		for k := range symmetries {
			image, point := impl.TransformBoard(b, k), impl.TransformPoint(b.Size, k, p)
			if got := impl.LadderDepth(image, point); got != depth {
				t.Fatalf("LadderDepth(%v, %d) = %d, not %d", image, point, got, depth)
			}
		}
		if got := ladderMoves(impl.InvertBoard(b), p); !slices.Equal(got, ladderMoves(b, p)) || impl.LadderDepth(impl.InvertBoard(b), p) != depth {
			t.Fatalf("LadderMove(%v, %d) = %v with colors exchanged", b, p, got)
		}
	})
}

// TestLaddersChangeNothing checks that the board is unchanged after a search, and that a second search finds the same.
func TestLaddersChangeNothing(t *testing.T) {
	forGroups(ladderBoards(t), func(b impl.Board, p int) {
		checkFresh(t, "LadderMove", b, func(b impl.Board) [][]int {
			return [][]int{ladderMoves(b, p), {impl.LadderDepth(b, p)}}
		})
	})
}
