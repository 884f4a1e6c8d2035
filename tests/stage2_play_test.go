package tests

import (
	"fmt"
	"slices"
	"testing"

	"loop.example/goboard/impl"
)

// forMoves calls a function for both colors, all points of a board, and Suicide false and true.
func forMoves(b impl.Board, f func(color int, p int, suicide bool)) {
	for color := impl.Black; color <= impl.White; color++ {
		for p := range b.Cells {
			f(color, p, false)
			f(color, p, true)
		}
	}
}

// checkPlay checks PlayStone, where the text "" means that the move is impossible.
func checkPlay(t *testing.T, text string, color int, p int, suicide bool, want string, gone []int) {
	t.Helper()
	got, removed, ok := impl.PlayStone(readText(t, text), color, p, suicide)
	if ok != (want != "") || impl.FormatBoard(got) != want || !slices.Equal(removed, gone) {
		t.Errorf("PlayStone(%q, %d, %d, %v) = %q, %v, %v, not %q, %v", text, color, p, suicide, impl.FormatBoard(got), removed, ok, want, gone)
	}
}

// TestPlayStone checks moves whose results do not depend on suicide.
func TestPlayStone(t *testing.T) {
	for _, x := range []struct {
		text  string
		color int
		p     int
		want  string
		gone  []int
	}{
		{"../../", impl.Black, 0, "../X./", nil},
		{"../../", impl.White, 3, ".O/../", nil},
		{"......./......./......./......./......./......./......./", impl.White, 48, "......O/......./......./......./......./......./......./", nil},
		// Stones in a corner, at an edge and inside.
		{".../.../OX./", impl.Black, 3, ".../X../.X./", []int{0}},
		{".../.../XOX/", impl.Black, 4, ".../.X./X.X/", []int{1}},
		{".O./OXO/.../", impl.White, 1, ".O./O.O/.O./", []int{4}},
		// Several groups at once.
		{"X.X/.../XOO/", impl.White, 3, "X.X/O../.OO/", []int{0}},
		{"OX.XO/XX.XX/...../XX.XX/OX.XO/", impl.Black, 12, ".X.X./XX.XX/..X../XX.XX/.X.X./", []int{0, 4, 20, 24}},
		{".XOX./XO.OX/.XOX./..X../...../", impl.Black, 17, ".X.X./X.X.X/.X.X./..X../...../", []int{12, 16, 18, 22}},
		// A group that gets its only liberty by the capture.
		{"OX./.O./.../", impl.White, 8, "O.O/.O./.../", []int{7}},
		{"OX./XO./OO./", impl.Black, 8, ".XX/XO./OO./", []int{6}},
		{".OX/OX./XX./", impl.Black, 6, "X.X/.X./XX./", []int{3, 7}},
		{"XXX/X.X/XXX/", impl.White, 4, ".../.O./.../", []int{0, 1, 2, 3, 5, 6, 7, 8}},
		{"OO/.O/", impl.Black, 0, "../X./", []int{1, 2, 3}},
		// Stones of the other color that have no liberties at first, far from the new stone.
		{"OX./X../.../", impl.Black, 2, ".X./X../..X/", []int{6}},
		{"X.../..../..XO/..OX/", impl.White, 8, "X.../O.../..XO/..O./", []int{3}},
		// Stones of both colors without liberties at once: only those of the other color leave.
		{"...../...../XX.OO/XX.OO/OX.XO/", impl.Black, 20, "X..../...../XX.OO/XX.OO/.X.XO/", []int{0}},
		{"...../...../OO.XX/XXOOO/OXOXO/", impl.Black, 20, "X..../...../OO.XX/XXOOO/.XOXO/", []int{0}},
		{"...../...../OO.XX/XXOOO/OXOXO/", impl.White, 20, "O..../...../OO.XX/..OOO/O.O.O/", []int{1, 3, 5, 6}},
	} {
		checkPlay(t, x.text, x.color, x.p, false, x.want, x.gone)
		checkPlay(t, x.text, x.color, x.p, true, x.want, x.gone)
	}
}

// TestPlayStoneWithoutLiberties checks suicide of one stone, of a group, and of several groups.
func TestPlayStoneWithoutLiberties(t *testing.T) {
	for _, x := range []struct {
		text  string
		color int
		p     int
		want  string
		gone  []int
	}{
		{"./", impl.Black, 0, "./", []int{0}},
		{"./", impl.White, 0, "./", []int{0}},
		{".../X../.X./", impl.White, 0, ".../X../.X./", []int{0}},
		{".O./O.O/.O./", impl.Black, 4, ".O./O.O/.O./", []int{4}},
		{"XX/.X/", impl.Black, 0, "../../", []int{0, 1, 2, 3}},
		{".X../OX../OX../OX../", impl.White, 12, ".X../.X../.X../.X../", []int{0, 4, 8, 12}},
		// Three groups become one.
		{"..X../.XOX./XO.OX/.XOX./..X../", impl.White, 12, "..X../.X.X./X...X/.X.X./..X../", []int{7, 11, 12, 13, 17}},
		// Other groups of the color that have no liberties are lost with the new stone.
		{".X.X./X.X../...../OX.../X..../", impl.White, 20, ".X.X./X.X../...../OX.../X..../", []int{20}},
		{".X.XO/X..X./...../X..../OX.XO/", impl.White, 20, ".X.XO/X..X./...../X..../.X.XO/", []int{0, 20}},
		{".X../X.../..XX/..XO/", impl.White, 12, ".X../X.../..XX/..X./", []int{3, 12}},
		// Stones of both colors are removed in one move.
		{".O.../O..../...../OO.XX/XXOXO/", impl.Black, 20, ".O.../O..../...../OO.XX/..OX./", []int{0, 1, 4, 20}},
		{".O../O.../..XX/..XO/", impl.Black, 12, ".O../O.../..XX/..X./", []int{3, 12}},
	} {
		checkPlay(t, x.text, x.color, x.p, false, "", nil)
		checkPlay(t, x.text, x.color, x.p, true, x.want, x.gone)
	}
}

// TestOtherGroupsStay checks that groups of the player without liberties stay if the new stone has one.
func TestOtherGroupsStay(t *testing.T) {
	for _, suicide := range []bool{false, true} {
		checkPlay(t, "..../..../OO../XO../", impl.Black, 15, suicide, "...X/..../OO../XO../", nil)
		checkPlay(t, "..../..../OOXX/XOXO/", impl.Black, 15, suicide, "...X/..../OOXX/XOX./", []int{3})
		checkPlay(t, "..../..../OOXX/XOXO/", impl.White, 15, suicide, "...O/..../OOXX/.OXO/", []int{0})
	}
}

// TestPlayStoneModel checks PlayStone of all points against the words of the rules.
func TestPlayStoneModel(t *testing.T) {
	for _, b := range boardsByStep(t, 7) {
		forMoves(b, func(color int, p int, suicide bool) {
			want, gone, ok := modelPlay(b, color, p, suicide)
			got, removed, possible := impl.PlayStone(b, color, p, suicide)
			if possible != ok || !sameBoard(got, want) || !slices.Equal(removed, gone) {
				t.Fatalf("PlayStone(%v, %d, %d, %v) = %v, %v, %v, not %v, %v, %v", b, color, p, suicide, got, removed, possible, want, gone, ok)
			}
		})
	}
}

// TestInvalidMoves checks the results for arguments that are not valid.
func TestInvalidMoves(t *testing.T) {
	check := func(b impl.Board, color int, p int) {
		t.Helper()
		for _, suicide := range []bool{false, true} {
			if x, gone, ok := impl.PlayStone(b, color, p, suicide); ok || !isZero(x) || len(gone) > 0 {
				t.Errorf("PlayStone(size %d, %d cells, %d, %d, %v) = %v, %v, %v", b.Size, len(b.Cells), color, p, suicide, x, gone, ok)
			}
		}
	}
	checkLists := func(b impl.Board, color int) {
		t.Helper()
		x, y, z := impl.PossiblePoints(b, color, false), impl.PossiblePoints(b, color, true), impl.CapturingPoints(b, color)
		if len(x) > 0 || len(y) > 0 || len(z) > 0 {
			t.Errorf("size %d, %d cells, color %d: %v, %v, %v", b.Size, len(b.Cells), color, x, y, z)
		}
	}
	for _, b := range badBoards() {
		for color := -1; color <= 3; color++ {
			for _, p := range []int{-1, 0, 1, 3, 8} {
				check(b, color, p)
			}
			checkLists(b, color)
		}
	}
	for _, b := range sampleBoards(t) {
		for _, p := range badPoints(b.Size) {
			check(b, impl.Black, p)
			check(b, impl.White, p)
		}
		for _, color := range append(badColors, impl.Empty) {
			for p := range b.Cells {
				check(b, color, p)
			}
			checkLists(b, color)
		}
		for p, color := range b.Cells {
			if color != impl.Empty {
				check(b, impl.Black, p)
				check(b, impl.White, p)
			}
		}
	}
}

// TestP24StonesArePlacedAndCaptured checks promise 24.
func TestP24StonesArePlacedAndCaptured(t *testing.T) {
	for _, b := range boardsByStep(t, 7) {
		forMoves(b, func(color int, p int, suicide bool) {
			after, removed, ok := impl.PlayStone(b, color, p, suicide)
			if !ok {
				return
			}
			for q, now := range after.Cells {
				want := b.Cells[q]
				if q == p {
					want = color
				}
				if slices.Contains(removed, q) {
					if want == impl.Empty {
						t.Fatalf("PlayStone(%v, %d, %d, %v) removes nothing at %d", b, color, p, suicide, q)
					}
					want = impl.Empty
				}
				if now != want {
					t.Fatalf("PlayStone(%v, %d, %d, %v) = %v, %v differs at %d", b, color, p, suicide, after, removed, q)
				}
			}
		})
	}
}

// TestP25NobodyStaysWithoutLiberties checks promise 25.
func TestP25NobodyStaysWithoutLiberties(t *testing.T) {
	for _, b := range boardsByStep(t, 7) {
		forMoves(b, func(color int, p int, suicide bool) {
			after, removed, ok := impl.PlayStone(b, color, p, suicide)
			if !ok {
				return
			}
			for _, group := range impl.GroupsOf(after, 3-color) {
				if len(impl.LibertiesOf(after, group[0])) == 0 {
					t.Fatalf("PlayStone(%v, %d, %d, %v) leaves %v", b, color, p, suicide, group)
				}
			}
			if lost := slices.Contains(removed, p); lost == (len(impl.LibertiesOf(after, p)) > 0) || lost && !suicide {
				t.Fatalf("PlayStone(%v, %d, %d, %v) leaves the new stone, lost: %v", b, color, p, suicide, lost)
			}
		})
	}
}

// TestP26SymmetriesAndColors checks promise 26.
func TestP26SymmetriesAndColors(t *testing.T) {
	check := func(b impl.Board, color int, p int, suicide bool, want impl.Board, gone []int, possible bool) {
		t.Helper()
		got, removed, ok := impl.PlayStone(b, color, p, suicide)
		if ok != possible || !sameBoard(got, want) || !slices.Equal(removed, gone) {
			t.Fatalf("PlayStone(%v, %d, %d, %v) = %v, %v, %v, not %v, %v", b, color, p, suicide, got, removed, ok, want, gone)
		}
	}
	for _, b := range sampleBoards(t) {
		forMoves(b, func(color int, p int, suicide bool) {
			after, gone, ok := impl.PlayStone(b, color, p, suicide)
			check(impl.InvertBoard(b), 3-color, p, suicide, impl.InvertBoard(after), gone, ok)
			for k := range symmetries {
				image, point := impl.TransformBoard(b, k), impl.TransformPoint(b.Size, k, p)
				check(image, color, point, suicide, impl.TransformBoard(after, k), imagesOfPoints(b.Size, k, gone), ok)
			}
		})
	}
}

// TestP27PossiblePointsCanBePlayed checks promise 27.
func TestP27PossiblePointsCanBePlayed(t *testing.T) {
	for _, b := range boardsByStep(t, 7) {
		for color := impl.Black; color <= impl.White; color++ {
			var want, empty []int
			for p := range b.Cells {
				if _, _, ok := impl.PlayStone(b, color, p, false); ok {
					want = append(want, p)
				}
				if b.Cells[p] == impl.Empty {
					empty = append(empty, p)
				}
			}
			if got := impl.PossiblePoints(b, color, false); !slices.Equal(got, want) {
				t.Fatalf("PossiblePoints(%v, %d, false) = %v, not %v", b, color, got, want)
			}
			if got := impl.PossiblePoints(b, color, true); !slices.Equal(got, empty) {
				t.Fatalf("PossiblePoints(%v, %d, true) = %v, not %v", b, color, got, empty)
			}
		}
	}
}

func TestPointsOfMoves(t *testing.T) {
	for _, x := range []struct {
		text      string
		color     int
		possible  []int
		capturing []int
	}{
		{"./", impl.Black, nil, nil},
		{"X/", impl.White, nil, nil},
		{"../../", impl.White, []int{0, 1, 2, 3}, nil},
		{"XX/X./", impl.Black, nil, nil},
		{"XX/X./", impl.White, []int{1}, []int{1}},
		{"XX/OO/", impl.Black, nil, nil},
		{".../.../OX./", impl.Black, []int{2, 3, 4, 5, 6, 7, 8}, []int{3}},
		{".../.../OX./", impl.White, []int{2, 3, 4, 5, 6, 7, 8}, nil},
		{".../X../.X./", impl.White, []int{2, 4, 5, 6, 7, 8}, nil},
		{".OX/OX./XX./", impl.Black, []int{2, 5, 6}, []int{6}},
		{".OX/OX./XX./", impl.White, []int{2, 5}, []int{5}},
		// A group without liberties is captured by any stone, and only by the other color.
		{"..X/.../XO./", impl.White, []int{2, 3, 4, 5, 6, 7}, []int{3}},
		{".../OO./XO./", impl.White, []int{2, 5, 6, 7, 8}, []int{2, 5, 6, 7, 8}},
		{".../OO./XO./", impl.Black, []int{2, 5, 6, 7, 8}, nil},
	} {
		b := readText(t, x.text)
		if got := impl.PossiblePoints(b, x.color, false); !slices.Equal(got, x.possible) {
			t.Errorf("PossiblePoints(%q, %d, false) = %v, not %v", x.text, x.color, got, x.possible)
		}
		if got := impl.CapturingPoints(b, x.color); !slices.Equal(got, x.capturing) {
			t.Errorf("CapturingPoints(%q, %d) = %v, not %v", x.text, x.color, got, x.capturing)
		}
	}
}

// TestP28CapturesTakeAwayStones checks promise 28.
func TestP28CapturesTakeAwayStones(t *testing.T) {
	for _, b := range boardsByStep(t, 7) {
		for color := impl.Black; color <= impl.White; color++ {
			var want []int
			for p := range b.Cells {
				if _, gone, ok := modelPlay(b, color, p, false); ok && len(gone) > 0 {
					want = append(want, p)
				}
			}
			got := impl.CapturingPoints(b, color)
			if !slices.Equal(got, want) {
				t.Fatalf("CapturingPoints(%v, %d) = %v, not %v", b, color, got, want)
			}
			for _, p := range got {
				after, _, ok := impl.PlayStone(b, color, p, false)
				if !ok || impl.CountStones(after, 3-color) >= impl.CountStones(b, 3-color) {
					t.Fatalf("CapturingPoints(%v, %d) = %v, but %d makes %v", b, color, got, p, after)
				}
			}
		}
	}
}

// TestP29GroupsInAtariCanBeCaptured checks promise 29.
func TestP29GroupsInAtariCanBeCaptured(t *testing.T) {
	for _, b := range boardsByStep(t, 7) {
		for color := impl.Black; color <= impl.White; color++ {
			points := impl.CapturingPoints(b, 3-color)
			for _, group := range impl.AtariGroups(b, color) {
				if liberty := impl.LibertiesOf(b, group[0]); !slices.Contains(points, liberty[0]) {
					t.Fatalf("CapturingPoints(%v, %d) = %v without %v", b, 3-color, points, liberty)
				}
			}
		}
	}
}

// TestP137AMoveAddsOneStone checks promise 137.
func TestP137AMoveAddsOneStone(t *testing.T) {
	for _, b := range boardsByStep(t, 7) {
		forMoves(b, func(color int, p int, suicide bool) {
			after, removed, ok := impl.PlayStone(b, color, p, suicide)
			if ok && impl.CountStones(after, impl.Empty) != impl.CountStones(b, impl.Empty)-1+len(removed) {
				t.Fatalf("PlayStone(%v, %d, %d, %v) = %v, %v", b, color, p, suicide, after, removed)
			}
			if !slices.IsSorted(removed) || len(slices.Compact(slices.Clone(removed))) != len(removed) {
				t.Fatalf("PlayStone(%v, %d, %d, %v) removes %v", b, color, p, suicide, removed)
			}
		})
	}
}

// TestP138SymmetriesKeepWhatIsPossible checks promise 138, and the same for CapturingPoints.
func TestP138SymmetriesKeepWhatIsPossible(t *testing.T) {
	for _, b := range sampleBoards(t) {
		for color := impl.Black; color <= impl.White; color++ {
			for k := range symmetries {
				image := impl.TransformBoard(b, k)
				for _, suicide := range []bool{false, true} {
					want := imagesOfPoints(b.Size, k, impl.PossiblePoints(b, color, suicide))
					if got := impl.PossiblePoints(image, color, suicide); !slices.Equal(got, want) {
						t.Fatalf("PossiblePoints(%v, %d, %v) = %v, not %v", image, color, suicide, got, want)
					}
				}
				want := imagesOfPoints(b.Size, k, impl.CapturingPoints(b, color))
				if got := impl.CapturingPoints(image, color); !slices.Equal(got, want) {
					t.Fatalf("CapturingPoints(%v, %d) = %v, not %v", image, color, got, want)
				}
			}
		}
	}
}

// TestMovesAreFresh checks that results share no memory with the board and with each other.
func TestMovesAreFresh(t *testing.T) {
	for _, b := range sampleBoards(t) {
		forMoves(b, func(color int, p int, suicide bool) {
			name := fmt.Sprintf("PlayStone of %d at %d", color, p)
			checkFresh(t, name, b, func(b impl.Board) [][]int {
				after, removed, _ := impl.PlayStone(b, color, p, suicide)
				return [][]int{after.Cells, removed}
			})
		})
		for color := impl.Black; color <= impl.White; color++ {
			checkFresh(t, "PossiblePoints", b, func(b impl.Board) [][]int {
				return [][]int{impl.PossiblePoints(b, color, false), impl.PossiblePoints(b, color, true), impl.CapturingPoints(b, color)}
			})
		}
	}
}
