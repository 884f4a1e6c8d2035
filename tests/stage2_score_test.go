package tests

import (
	"math"
	"math/rand"
	"slices"
	"testing"

	"loop.example/goboard/impl"
)

// deadLists returns lists of dead stones of a board: none, each group, all stones, and some groups together.
func deadLists(b impl.Board) [][]int {
	groups := append(modelGroups(b, impl.Black), modelGroups(b, impl.White)...)
	mixed := rand.New(rand.NewSource(int64(len(groups))))
	lists := append([][]int{nil, {}, slices.Concat(groups...)}, groups...)
	for range 4 {
		var some []int
		for _, group := range groups {
			if mixed.Intn(2) == 0 {
				some = append(some, group...)
			}
		}
		lists = append(lists, some)
	}
	for i := range lists {
		lists[i] = slices.Sorted(slices.Values(lists[i]))
	}
	return lists
}

func TestConstantsOfScores(t *testing.T) {
	if impl.MaxPrisoners != 99 || impl.MaxKomi != 99 {
		t.Errorf("MaxPrisoners = %d, MaxKomi = %d", impl.MaxPrisoners, impl.MaxKomi)
	}
}

// TestPointsOfScores checks regions that touch both colors, one or none, on full, empty and other boards.
func TestPointsOfScores(t *testing.T) {
	for _, x := range []struct {
		text         string
		regions      [][]int
		black, white []int
		area         [2]int
	}{
		{"./", [][]int{{0}}, nil, nil, [2]int{0, 0}},
		{"X/", nil, nil, nil, [2]int{1, 0}},
		{"O/", nil, nil, nil, [2]int{0, 1}},
		{"../../", [][]int{{0, 1, 2, 3}}, nil, nil, [2]int{0, 0}},
		{"XO/OX/", nil, nil, nil, [2]int{2, 2}},
		{"XX/XX/", nil, nil, nil, [2]int{4, 0}},
		{"../X./", [][]int{{1, 2, 3}}, []int{1, 2, 3}, nil, [2]int{4, 0}},
		{"../O./", [][]int{{1, 2, 3}}, nil, []int{1, 2, 3}, [2]int{0, 4}},
		{"X./.X/", [][]int{{0}, {3}}, []int{0, 3}, nil, [2]int{4, 0}},
		{"X./.O/", [][]int{{0}, {3}}, nil, nil, [2]int{1, 1}},
		{"OX./XX./.../", [][]int{{0, 1, 2, 5, 8}}, []int{0, 1, 2, 5, 8}, nil, [2]int{8, 1}},
		{"OX./O.X/.O./", [][]int{{0}, {2}, {4}, {8}}, []int{8}, []int{0}, [2]int{3, 4}},
		{".X.O/.X.O/.X.O/.X.O/", [][]int{{0, 4, 8, 12}, {2, 6, 10, 14}}, []int{0, 4, 8, 12}, nil, [2]int{8, 4}},
		{".X.X./X.X.X/.X.O./X.O.O/.X.O./", [][]int{{0}, {2}, {4}, {6}, {8}, {10}, {12}, {14}, {16}, {18}, {20}, {22}, {24}}, []int{0, 10, 16, 20, 22, 24}, []int{4, 8}, [2]int{14, 6}},
		{"...X.../...X.../...X.../XXXXOOO/...O.../...O.../...O.../", [][]int{{0, 1, 2, 7, 8, 9, 14, 15, 16}, {4, 5, 6, 11, 12, 13, 18, 19, 20}, {28, 29, 30, 35, 36, 37, 42, 43, 44}, {32, 33, 34, 39, 40, 41, 46, 47, 48}},
			[]int{28, 29, 30, 35, 36, 37, 42, 43, 44}, []int{4, 5, 6, 11, 12, 13, 18, 19, 20}, [2]int{16, 15}},
	} {
		b := readText(t, x.text)
		if got := impl.EmptyRegions(b); !sameLists(got, x.regions) {
			t.Errorf("EmptyRegions(%q) = %v, not %v", x.text, got, x.regions)
		}
		if black, white := impl.TerritoryOf(b, impl.Black), impl.TerritoryOf(b, impl.White); !slices.Equal(black, x.black) || !slices.Equal(white, x.white) {
			t.Errorf("TerritoryOf(%q) = %v and %v, not %v and %v", x.text, black, white, x.black, x.white)
		}
		if black, white := impl.AreaScore(b); black != x.area[0] || white != x.area[1] {
			t.Errorf("AreaScore(%q) = %d, %d, not %v", x.text, black, white, x.area)
		}
	}
}

// TestEmptyBoardsHaveNoTerritory checks boards of all sizes without stones, and with nothing but stones.
func TestEmptyBoardsHaveNoTerritory(t *testing.T) {
	forSizes(func(size int) {
		for color := impl.Empty; color <= impl.White; color++ {
			b := boardOf(size, slices.Repeat([]int{color}, pointsOf(size))...)
			var regions [][]int
			if color == impl.Empty {
				regions = modelRegions(b)
			}
			if got := impl.EmptyRegions(b); !sameLists(got, regions) || color == impl.Empty && len(got[0]) != pointsOf(size) {
				t.Errorf("EmptyRegions(%v) = %v", b, got)
			}
			if len(impl.TerritoryOf(b, impl.Black))+len(impl.TerritoryOf(b, impl.White)) > 0 {
				t.Errorf("TerritoryOf(%v) = %v and %v", b, impl.TerritoryOf(b, impl.Black), impl.TerritoryOf(b, impl.White))
			}
			black, white := impl.AreaScore(b)
			if black != impl.CountStones(b, impl.Black) || white != impl.CountStones(b, impl.White) {
				t.Errorf("AreaScore(%v) = %d, %d", b, black, white)
			}
		}
	})
}

// TestInvalidScores checks the results for boards that are not valid, and for other colors.
func TestInvalidScores(t *testing.T) {
	for _, b := range badBoards() {
		if got := impl.EmptyRegions(b); len(got) > 0 {
			t.Errorf("size %d, %d cells: EmptyRegions = %v", b.Size, len(b.Cells), got)
		}
		for color := -1; color <= 3; color++ {
			if got := impl.TerritoryOf(b, color); len(got) > 0 {
				t.Errorf("size %d, %d cells: TerritoryOf = %v", b.Size, len(b.Cells), got)
			}
		}
		if black, white := impl.AreaScore(b); black != -1 || white != -1 {
			t.Errorf("size %d, %d cells: AreaScore = %d, %d", b.Size, len(b.Cells), black, white)
		}
		for _, dead := range [][]int{nil, {}, {0}, {0, 1}, {-1}, {63}} {
			checkNotDead(t, b, dead)
		}
	}
	for _, b := range sampleBoards(t) {
		for _, color := range append(badColors, impl.Empty) {
			if got := impl.TerritoryOf(b, color); len(got) > 0 {
				t.Errorf("TerritoryOf(%v, %d) = %v", b, color, got)
			}
		}
	}
}

// checkNotDead checks that some points are no dead stones of a board.
func checkNotDead(t *testing.T, b impl.Board, dead []int) {
	t.Helper()
	if x, ok := impl.RemoveDead(b, dead); ok || !isZero(x) {
		t.Fatalf("RemoveDead(size %d, %v, %v) = %v, %v", b.Size, b.Cells, dead, x, ok)
	}
	if n, ok := impl.TerritoryMargin(b, dead, 1, 0, 1); ok || n != 0 {
		t.Fatalf("TerritoryMargin(size %d, %v, %v, 1, 0, 1) = %d, %v", b.Size, b.Cells, dead, n, ok)
	}
}

// TestP36RegionsHaveAllEmptyPoints checks promise 36.
func TestP36RegionsHaveAllEmptyPoints(t *testing.T) {
	for _, b := range smallBoards(t) {
		regions := impl.EmptyRegions(b)
		if want := modelRegions(b); !sameLists(regions, want) {
			t.Fatalf("EmptyRegions(%v) = %v, not %v", b, regions, want)
		}
		number := map[int]int{}
		for i, region := range regions {
			for _, p := range region {
				number[p] = i
			}
		}
		if len(number) != impl.CountStones(b, impl.Empty) {
			t.Fatalf("EmptyRegions(%v) = %v have %d points", b, regions, len(number))
		}
		for p, i := range number {
			for _, q := range impl.Neighbors(b.Size, p) {
				if j, ok := number[q]; ok && i != j {
					t.Fatalf("EmptyRegions(%v) = %v has neighbours %d and %d", b, regions, p, q)
				}
			}
		}
	}
}

// TestP37TerritoryTouchesOneColor checks promise 37.
func TestP37TerritoryTouchesOneColor(t *testing.T) {
	for _, b := range smallBoards(t) {
		for color := impl.Black; color <= impl.White; color++ {
			territory := impl.TerritoryOf(b, color)
			if want := modelTerritory(b, color); !slices.Equal(territory, want) {
				t.Fatalf("TerritoryOf(%v, %d) = %v, not %v", b, color, territory, want)
			}
			other := impl.TerritoryOf(b, 3-color)
			for _, p := range territory {
				next := slices.ContainsFunc(impl.Neighbors(b.Size, p), func(q int) bool { return b.Cells[q] == 3-color })
				if next || slices.Contains(other, p) || b.Cells[p] != impl.Empty {
					t.Fatalf("TerritoryOf(%v, %d) = %v with %d", b, color, territory, p)
				}
			}
		}
	}
}

// TestP38AreaTreatsColorsAlike checks promise 38.
func TestP38AreaTreatsColorsAlike(t *testing.T) {
	for _, b := range boardsByStep(t, 29) {
		black, white := impl.AreaScore(b)
		if x, y := impl.AreaScore(impl.InvertBoard(b)); x != white || y != black {
			t.Fatalf("AreaScore of InvertBoard(%v) = %d, %d, not %d, %d", b, x, y, white, black)
		}
		for k := range symmetries {
			if x, y := impl.AreaScore(impl.TransformBoard(b, k)); x != black || y != white {
				t.Fatalf("AreaScore of image %d of %v = %d, %d, not %d, %d", k, b, x, y, black, white)
			}
		}
	}
}

// TestP39AreaIsStonesAndTerritory checks promise 39.
func TestP39AreaIsStonesAndTerritory(t *testing.T) {
	for _, b := range smallBoards(t) {
		black, white := impl.AreaScore(b)
		wantBlack := modelCount(b, impl.Black) + len(impl.TerritoryOf(b, impl.Black))
		wantWhite := modelCount(b, impl.White) + len(impl.TerritoryOf(b, impl.White))
		if black != wantBlack || white != wantWhite {
			t.Fatalf("AreaScore(%v) = %d, %d, not %d, %d", b, black, white, wantBlack, wantWhite)
		}
	}
}

// TestP40DeadStonesAreTakenAway checks promise 40.
func TestP40DeadStonesAreTakenAway(t *testing.T) {
	for _, b := range boardsByStep(t, 29) {
		for _, dead := range deadLists(b) {
			want := boardOf(b.Size, slices.Clone(b.Cells)...)
			for _, p := range dead {
				want.Cells[p] = impl.Empty
			}
			if got, ok := impl.RemoveDead(b, dead); !ok || !sameBoard(got, want) {
				t.Fatalf("RemoveDead(%v, %v) = %v, %v", b, dead, got, ok)
			}
		}
		if got, ok := impl.RemoveDead(b, nil); !ok || !sameBoard(got, b) {
			t.Fatalf("RemoveDead(%v, nil) = %v, %v", b, got, ok)
		}
	}
}

// TestRemoveDeadOfOtherPoints checks all sets of points of small boards, and lists that are almost right.
func TestRemoveDeadOfOtherPoints(t *testing.T) {
	check := func(b impl.Board, dead []int) {
		t.Helper()
		if modelDead(b, dead) {
			if _, ok := impl.RemoveDead(b, dead); !ok {
				t.Fatalf("RemoveDead(%v, %v) fails", b, dead)
			}
		} else {
			checkNotDead(t, b, dead)
		}
	}
	for n := range 81 {
		for set := range 16 {
			var dead []int
			for p := range 4 {
				if set>>p&1 == 1 {
					dead = append(dead, p)
				}
			}
			check(numberedBoard(2, n), dead)
		}
	}
	for _, b := range boardsByStep(t, 29) {
		for _, p := range badPoints(b.Size) {
			check(b, []int{p})
		}
		for _, dead := range deadLists(b) {
			for i := range dead {
				check(b, slices.Delete(slices.Clone(dead), i, i+1))
				check(b, slices.Insert(slices.Clone(dead), i, dead[i]))
				check(b, slices.Concat(dead[i:], dead[:i]))
			}
			for _, p := range badPoints(b.Size) {
				check(b, append(slices.Clone(dead), p))
				check(b, append([]int{p}, dead...))
			}
			for p, color := range b.Cells {
				if color == impl.Empty {
					check(b, slices.Sorted(slices.Values(append(slices.Clone(dead), p))))
				}
			}
		}
	}
}

func TestRemoveDead(t *testing.T) {
	text := "XX.O/.X.O/O.X./OOX./"
	for _, x := range []struct {
		dead []int
		want string
	}{
		{nil, text}, {[]int{0, 1, 4}, "XX.O/.X.O/..X./..X./"}, {[]int{2, 6}, "XX.O/.X.O/O.../OO../"}, {[]int{11, 15}, "XX../.X../O.X./OOX./"},
		{[]int{0, 1, 2, 4, 6}, "XX.O/.X.O/..../..../"}, {[]int{9, 11, 12, 13, 15}, "..../..../O.X./OOX./"},
		{[]int{0, 1}, ""}, {[]int{0, 4}, ""}, {[]int{1, 4}, ""}, {[]int{2}, ""}, {[]int{0, 1, 2, 4}, ""}, {[]int{0, 1, 4, 13}, ""}, {[]int{0, 1, 4, 5}, ""},
		{[]int{6, 2}, ""}, {[]int{2, 2, 6}, ""}, {[]int{2, 6, 6}, ""}, {[]int{11, 15, 16}, ""}, {[]int{-1, 2, 6}, ""}, {[]int{0, 4, 1}, ""}, {[]int{3}, ""},
	} {
		got, ok := impl.RemoveDead(readText(t, text), x.dead)
		if ok != (x.want != "") || impl.FormatBoard(got) != x.want || !ok && !isZero(got) {
			t.Errorf("RemoveDead(%q, %v) = %v, %v, not %q", text, x.dead, got, ok, x.want)
		}
	}
}

// TestP142AllStonesCanBeDead checks promise 142.
func TestP142AllStonesCanBeDead(t *testing.T) {
	for _, b := range smallBoards(t) {
		var stones []int
		for p, color := range b.Cells {
			if color != impl.Empty {
				stones = append(stones, p)
			}
		}
		got, ok := impl.RemoveDead(b, stones)
		if !ok || !sameBoard(got, impl.BoardNew(b.Size)) {
			t.Fatalf("RemoveDead(%v, %v) = %v, %v", b, stones, got, ok)
		}
		if black, white := impl.AreaScore(got); black != 0 || white != 0 {
			t.Fatalf("AreaScore(%v) = %d, %d", got, black, white)
		}
	}
}

func TestTerritoryMargin(t *testing.T) {
	for _, x := range []struct {
		text         string
		dead         []int
		black, white int
		komi         int
		want         int
	}{
		{"./", nil, 0, 0, 0, 0}, {"./", nil, 0, 0, 13, -13}, {"./", nil, 0, 0, -13, 13}, {"./", nil, 3, 0, 0, -6}, {"./", nil, 0, 3, 0, 6},
		{"X/", nil, 0, 0, 0, 0}, {"X/", []int{0}, 0, 0, 0, -2}, {"O/", []int{0}, 0, 0, 0, 2},
		{"../X./", nil, 0, 0, 0, 6}, {"../O./", nil, 0, 0, 0, -6}, {"X./.O/", nil, 0, 0, 1, -1},
		{".X.O/.X.O/.X.O/.X.O/", nil, 1, 2, 13, -3}, {".X.O/.X.O/.X.O/.X.O/", []int{3, 7, 11, 15}, 1, 2, 13, 21},
		{".X.O/.X.O/.X.O/.X.O/", []int{1, 5, 9, 13}, 0, 0, 0, -32},
		{"OX./XX./.../", []int{6}, 0, 0, 0, 14}, {"OX./XX./.../", []int{3, 4, 7}, 0, 0, 0, -22},
		{"XO/OX/", []int{0, 1, 2, 3}, 0, 0, 0, 0}, {"XO/OX/", []int{0, 3}, 0, 0, 0, 8}, {"XO/OX/", []int{1, 2}, 0, 0, 0, -8},
		{"./", nil, 99, 99, 99, -99}, {"./", nil, 99, 0, 99, -297}, {"./", nil, 0, 99, -99, 297},
	} {
		if got, ok := impl.TerritoryMargin(readText(t, x.text), x.dead, x.black, x.white, x.komi); !ok || got != x.want {
			t.Errorf("TerritoryMargin(%q, %v, %d, %d, %d) = %d, %v, not %d", x.text, x.dead, x.black, x.white, x.komi, got, ok, x.want)
		}
	}
}

// TestInvalidMargins checks prisoners and komi at their limits and beyond.
func TestInvalidMargins(t *testing.T) {
	b := readText(t, "../XO/")
	for _, black := range []int{math.MinInt, -1, 0, 1, 50, 99, 100, math.MaxInt} {
		for _, white := range []int{math.MinInt, -1, 0, 1, 50, 99, 100, math.MaxInt} {
			for _, komi := range []int{math.MinInt, -1000, -100, -99, -1, 0, 1, 99, 100, math.MaxInt} {
				valid := 0 <= black && black <= 99 && 0 <= white && white <= 99 && -99 <= komi && komi <= 99
				want := 0
				if valid {
					want = 2*white - 2*black - komi
				}
				if got, ok := impl.TerritoryMargin(b, nil, black, white, komi); ok != valid || got != want {
					t.Errorf("TerritoryMargin(%v, nil, %d, %d, %d) = %d, %v, not %d, %v", b, black, white, komi, got, ok, want, valid)
				}
			}
		}
	}
}

// TestP41KomiAndPrisonersCount checks promise 41, and the margin against its words.
func TestP41KomiAndPrisonersCount(t *testing.T) {
	margin := func(b impl.Board, dead []int, black int, white int, komi int) int {
		t.Helper()
		n, ok := impl.TerritoryMargin(b, dead, black, white, komi)
		if !ok {
			t.Fatalf("TerritoryMargin(%v, %v, %d, %d, %d) fails", b, dead, black, white, komi)
		}
		return n
	}
	for _, b := range boardsByStep(t, 29) {
		for i, dead := range deadLists(b) {
			left := boardOf(b.Size, slices.Clone(b.Cells)...)
			for _, p := range dead {
				left.Cells[p] = impl.Empty
			}
			black := len(modelTerritory(left, impl.Black)) + modelCount(b, impl.White) - modelCount(left, impl.White)
			white := len(modelTerritory(left, impl.White)) + modelCount(b, impl.Black) - modelCount(left, impl.Black)
			x, y, komi := 7*i%98, 5*i%98, 11*i%196-98
			n := margin(b, dead, x, y, komi)
			if want := 2*(black+y) - 2*(white+x) - komi; n != want {
				t.Fatalf("TerritoryMargin(%v, %v, %d, %d, %d) = %d, not %d", b, dead, x, y, komi, n, want)
			}
			if more := margin(b, dead, x, y, komi+1); more != n-1 {
				t.Fatalf("TerritoryMargin(%v, %v) = %d, and %d with more komi", b, dead, n, more)
			}
			if more := margin(b, dead, x+1, y, komi); more != n-2 {
				t.Fatalf("TerritoryMargin(%v, %v) = %d, and %d with one black prisoner more", b, dead, n, more)
			}
			if more := margin(b, dead, x, y+1, komi); more != n+2 {
				t.Fatalf("TerritoryMargin(%v, %v) = %d, and %d with one white prisoner more", b, dead, n, more)
			}
		}
	}
}

// TestP42MarginsTreatColorsAlike checks promise 42.
func TestP42MarginsTreatColorsAlike(t *testing.T) {
	for _, b := range boardsByStep(t, 29) {
		for i, dead := range deadLists(b) {
			black, white := 3*i%100, 7*i%100
			n, ok1 := impl.TerritoryMargin(b, dead, black, white, 0)
			other, ok2 := impl.TerritoryMargin(impl.InvertBoard(b), dead, white, black, 0)
			if !ok1 || !ok2 || other != -n {
				t.Fatalf("TerritoryMargin(%v, %v, %d, %d, 0) = %d, and %d with colors exchanged", b, dead, black, white, n, other)
			}
		}
	}
}

// TestP141SymmetriesKeepRegions checks promise 141.
func TestP141SymmetriesKeepRegions(t *testing.T) {
	for _, b := range boardsByStep(t, 29) {
		regions := impl.EmptyRegions(b)
		if got := impl.EmptyRegions(impl.InvertBoard(b)); !sameLists(got, regions) {
			t.Fatalf("EmptyRegions of InvertBoard(%v) = %v, not %v", b, got, regions)
		}
		for k := range symmetries {
			var want [][]int
			for _, region := range regions {
				want = append(want, imagesOfPoints(b.Size, k, region))
			}
			slices.SortFunc(want, slices.Compare[[]int])
			if got := impl.EmptyRegions(impl.TransformBoard(b, k)); !sameLists(got, want) {
				t.Fatalf("EmptyRegions of image %d of %v = %v, not %v", k, b, got, want)
			}
		}
	}
}

// TestScoresAreFresh checks that results share no memory with the arguments and with each other.
func TestScoresAreFresh(t *testing.T) {
	for _, b := range boardsByStep(t, 29) {
		checkFresh(t, "EmptyRegions", b, impl.EmptyRegions)
		checkFresh(t, "TerritoryOf", b, func(b impl.Board) [][]int {
			return [][]int{impl.TerritoryOf(b, impl.Black), impl.TerritoryOf(b, impl.White)}
		})
		for _, dead := range deadLists(b) {
			before := slices.Clone(dead)
			checkFresh(t, "RemoveDead", b, func(b impl.Board) [][]int {
				left, _ := impl.RemoveDead(b, dead)
				impl.TerritoryMargin(b, dead, 0, 0, 0)
				impl.AreaScore(b)
				return [][]int{left.Cells}
			})
			if !slices.Equal(dead, before) {
				t.Fatalf("RemoveDead(%v, %v) changes the points to %v", b, before, dead)
			}
		}
	}
}
