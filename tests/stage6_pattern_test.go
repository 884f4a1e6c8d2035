package tests

import (
	"math/rand"
	"slices"
	"testing"

	"loop.example/goboard/impl"
)

// TestConstantsOfPatterns checks limits.
func TestConstantsOfPatterns(t *testing.T) {
	if impl.MaxPattern != 65535 || impl.Edge != 3 {
		t.Error("limits")
	}
}

// patternOf returns the pattern with digits, the lowest one first.
func patternOf(digits ...int) int {
	n := 0
	for i, digit := range digits {
		n += digit << (2 * i)
	}
	return n
}

// TestPatternAt checks points in corners, at edges and in the middle of boards of several sizes.
func TestPatternAt(t *testing.T) {
	for _, x := range []struct {
		text string
		p    int
		want int
	}{
		{"./", 0, 65535}, {"X/", 0, 65535}, {"O/", 0, 65535},
		{"../../", 0, patternOf(3, 3, 3, 3, 0, 3, 0, 0)}, {"../../", 1, patternOf(3, 3, 3, 0, 3, 0, 0, 3)}, {"../../", 2, patternOf(3, 0, 0, 3, 0, 3, 3, 3)}, {"../../", 3, patternOf(0, 0, 3, 0, 3, 3, 3, 3)},
		{"OX/X./", 1, patternOf(3, 3, 3, 1, 3, 2, 1, 3)}, {"OX/.X/", 0, patternOf(3, 3, 3, 3, 1, 3, 2, 1)},
		{".../.../.../", 4, 0}, {".../.../.../", 0, 3327}, {".../.../.../", 1, patternOf(3, 3, 3, 0, 0, 0, 0, 0)}, {".../.../.../", 3, patternOf(3, 0, 0, 3, 0, 3, 0, 0)}, {".../.../.../", 5, patternOf(0, 0, 3, 0, 3, 0, 0, 3)}, {".../.../.../", 7, patternOf(0, 0, 0, 0, 0, 3, 3, 3)}, {".../.../.../", 8, patternOf(0, 0, 3, 0, 3, 3, 3, 3)},
		{"XXX/X.X/XXX/", 4, 21845}, {"OOO/OXO/OOO/", 4, 43690}, {"O.X/.X./X.O/", 4, patternOf(1, 0, 2, 0, 0, 2, 0, 1)}, {"..O/X../.../", 4, patternOf(0, 0, 0, 1, 0, 0, 0, 2)},
		// Each digit by itself, from the lowest to the highest one.
		{".../.../X../", 4, 1}, {".../.../.X./", 4, 4}, {".../.../..X/", 4, 16}, {".../X../.../", 4, 64}, {".../..X/.../", 4, 256}, {"X../.../.../", 4, 1024}, {".X./.../.../", 4, 4096}, {"..X/.../.../", 4, 16384}, {"..O/.../.../", 4, 32768}, {".../.X./.../", 4, 0},
		{"......./......./......./.....XO/.....X./.....OX/XXXXX../", 20, patternOf(2, 1, 3, 1, 3, 1, 2, 3)}, {"......X/.....O./......./......./......./......./......./", 48, patternOf(2, 0, 3, 0, 3, 3, 3, 3)}, {"......./......./..X.O../......./..O.X../......./......./", 24, patternOf(2, 0, 1, 0, 0, 1, 0, 2)},
	} {
		if got := impl.PatternAt(readText(t, x.text), x.p); got != x.want {
			t.Errorf("PatternAt(%q, %d) = %d, not %d", x.text, x.p, got, x.want)
		}
	}
	for _, b := range boardsByStep(t, 13) {
		for p := range b.Cells {
			if got := impl.PatternAt(b, p); got != modelPattern(b, p) {
				t.Fatalf("PatternAt(%v, %d) = %d, not %d", b, p, got, modelPattern(b, p))
			}
		}
	}
}

// TestInvalidPatterns checks boards, points and numbers that are not valid.
func TestInvalidPatterns(t *testing.T) {
	for _, b := range badBoards() {
		for _, p := range []int{-1, 0, 4} {
			if got := impl.PatternAt(b, p); got != -1 {
				t.Errorf("PatternAt(%v, %d) = %d", b, p, got)
			}
		}
		for _, n := range append([]int{0, 3327, 65535}, badPatterns...) {
			if got := impl.FindPattern(b, n); len(got) > 0 {
				t.Errorf("FindPattern(%v, %d) = %v", b, n, got)
			}
		}
	}
	forSizes(func(size int) {
		b := impl.BoardNew(size)
		for _, p := range badPoints(size) {
			if got := impl.PatternAt(b, p); got != -1 {
				t.Errorf("PatternAt of size %d, %d = %d", size, p, got)
			}
		}
		for _, n := range badPatterns {
			if got := impl.FindPattern(b, n); len(got) > 0 {
				t.Errorf("FindPattern of size %d, %d = %v", size, n, got)
			}
		}
	})
	for _, n := range badPatterns {
		if impl.CanonicalPattern(n) != -1 || impl.InvertPattern(n) != -1 {
			t.Errorf("CanonicalPattern(%d) = %d, InvertPattern = %d", n, impl.CanonicalPattern(n), impl.InvertPattern(n))
		}
	}
}

// TestCanonicalPattern checks patterns that a symmetry leaves as they are, others, and all patterns against the model.
func TestCanonicalPattern(t *testing.T) {
	for _, x := range []struct{ n, want int }{
		{0, 0}, {65535, 65535}, {21845, 21845}, {43690, 43690}, {3327, 3327}, {1, 1}, {16, 1}, {1024, 1}, {16384, 1}, {4, 4}, {64, 4}, {256, 4}, {4096, 4}, {32768, 2}, {8192, 8},
		{patternOf(0, 0, 3, 0, 3, 3, 3, 3), 3327}, {patternOf(0, 0, 0, 0, 0, 3, 3, 3), 63}, {patternOf(0, 0, 0, 0, 0, 1, 0, 2), patternOf(2, 0, 1, 0, 0, 0, 0, 0)}, {patternOf(0, 1, 0, 1, 0, 0, 0, 0), patternOf(0, 1, 0, 1, 0, 0, 0, 0)}, {patternOf(0, 0, 0, 0, 1, 0, 1, 0), patternOf(0, 1, 0, 1, 0, 0, 0, 0)},
		// Mirrored images of one another, which no turn makes equal.
		{patternOf(1, 2, 0, 0, 0, 0, 0, 0), patternOf(1, 2, 0, 0, 0, 0, 0, 0)}, {patternOf(0, 2, 1, 0, 0, 0, 0, 0), patternOf(1, 2, 0, 0, 0, 0, 0, 0)}, {patternOf(1, 0, 0, 2, 0, 0, 0, 0), patternOf(1, 2, 0, 0, 0, 0, 0, 0)}, {patternOf(0, 0, 0, 0, 2, 0, 0, 1), patternOf(1, 2, 0, 0, 0, 0, 0, 0)},
	} {
		if got := impl.CanonicalPattern(x.n); got != x.want {
			t.Errorf("CanonicalPattern(%d) = %d, not %d", x.n, got, x.want)
		}
	}
	for n := range impl.MaxPattern + 1 {
		if got, want := impl.CanonicalPattern(n), slices.Min(modelPatterns(n)); got != want {
			t.Fatalf("CanonicalPattern(%d) = %d, not %d", n, got, want)
		}
	}
}

// TestInvertPattern checks patterns with and without stones, and all patterns digit by digit.
func TestInvertPattern(t *testing.T) {
	for _, x := range []struct{ n, want int }{{0, 0}, {65535, 65535}, {3327, 3327}, {1, 2}, {2, 1}, {3, 3}, {21845, 43690}, {43690, 21845}, {16384, 32768}, {patternOf(0, 1, 2, 3, 3, 2, 1, 0), patternOf(0, 2, 1, 3, 3, 1, 2, 0)}} {
		if got := impl.InvertPattern(x.n); got != x.want {
			t.Errorf("InvertPattern(%d) = %d, not %d", x.n, got, x.want)
		}
	}
	for n := range impl.MaxPattern + 1 {
		ring := modelRing(n)
		for i, digit := range ring {
			ring[i] = []int{0, 2, 1, 3}[digit]
		}
		if got := impl.InvertPattern(n); got != ringPattern(ring) {
			t.Fatalf("InvertPattern(%d) = %d, not %d", n, got, ringPattern(ring))
		}
	}
}

// TestFindPattern checks patterns that are found nowhere, once, several times, and everywhere.
func TestFindPattern(t *testing.T) {
	corner := patternOf(0, 0, 3, 0, 3, 3, 3, 3)
	edge := patternOf(0, 0, 3, 0, 3, 0, 0, 3)
	for _, x := range []struct {
		text string
		n    int
		want []int
	}{
		{"./", 65535, []int{0}}, {"X/", 65535, nil}, {"O/", 65535, nil}, {"./", 0, nil}, {"../../", corner, []int{0, 1, 2, 3}}, {"../../", 3327, []int{0, 1, 2, 3}}, {"../../", 65535, nil}, {"../../", 0, nil}, {"XX/XX/", corner, nil}, {"XX/XX/", patternOf(1, 1, 3, 1, 3, 3, 3, 3), nil}, {"XX/X./", patternOf(1, 1, 3, 1, 3, 3, 3, 3), []int{1}},
		{".../.../.../", 0, []int{4}}, {".../.../.../", corner, []int{0, 2, 6, 8}}, {".../.../.../", edge, []int{1, 3, 5, 7}}, {".../.../.../", 1, nil}, {".../.X./.../", 0, nil}, {"XXX/X.X/XXX/", 21845, []int{4}}, {"XXX/XXX/XXX/", 21845, nil}, {"XXX/X.X/XXX/", 43690, nil},
		{".../.../OX./", patternOf(2, 1, 0, 0, 0, 0, 0, 0), []int{4}}, {".../.../OX./", patternOf(0, 1, 2, 0, 0, 0, 0, 0), []int{4}}, {".../.../OX./", patternOf(0, 0, 0, 0, 1, 0, 0, 2), []int{4}}, {".../.../OX./", patternOf(1, 2, 0, 0, 0, 0, 0, 0), nil}, {".../.../OX./", corner, []int{6, 8}},
		{"......./......./......./......./......./......./......./", 0, []int{8, 9, 10, 11, 12, 15, 16, 17, 18, 19, 22, 23, 24, 25, 26, 29, 30, 31, 32, 33, 36, 37, 38, 39, 40}}, {"......./......./......./......./......./......./......./", 63, []int{1, 2, 3, 4, 5, 7, 13, 14, 20, 21, 27, 28, 34, 35, 41, 43, 44, 45, 46, 47}}, {"......./......./......./......./......./......./......./", 3327, []int{0, 6, 42, 48}},
		{"......./......./......./...X.../......./......./......./", 1, []int{16, 18, 30, 32}}, {"......./......./......./...X.../......./......./......./", 4096, []int{17, 23, 25, 31}}, {"......./......./......./...X.../......./......./......./", 2, nil},
	} {
		if got := impl.FindPattern(readText(t, x.text), x.n); !slices.Equal(got, x.want) {
			t.Errorf("FindPattern(%q, %d) = %v, not %v", x.text, x.n, got, x.want)
		}
	}
}

// TestFindPatternModel checks patterns that are on the board, and others, against the model.
func TestFindPatternModel(t *testing.T) {
	mixed := rand.New(rand.NewSource(62))
	found := 0
	for _, b := range sampleBoards(t) {
		patterns := []int{0, 65535, mixed.Intn(65536)}
		for p := range b.Cells {
			patterns = append(patterns, modelPattern(b, p))
		}
		for _, n := range patterns {
			got := impl.FindPattern(b, n)
			if !slices.Equal(got, modelFind(b, n)) {
				t.Fatalf("FindPattern(%v, %d) = %v, not %v", b, n, got, modelFind(b, n))
			}
			found += len(got)
		}
	}
	if found < 1000 {
		t.Errorf("only %d points are found", found)
	}
}

// TestP96PatternsMoveWithTheBoard checks promise 96.
func TestP96PatternsMoveWithTheBoard(t *testing.T) {
	for _, b := range sampleBoards(t) {
		inverse := impl.InvertBoard(b)
		for p := range b.Cells {
			n := impl.PatternAt(b, p)
			if got := impl.PatternAt(inverse, p); got != impl.InvertPattern(n) {
				t.Fatalf("PatternAt(%v, %d) = %d, but with the colors exchanged %d", b, p, n, got)
			}
			for k := range symmetries {
				image := impl.PatternAt(impl.TransformBoard(b, k), impl.TransformPoint(b.Size, k, p))
				if impl.CanonicalPattern(image) != impl.CanonicalPattern(n) {
					t.Fatalf("PatternAt(%v, %d) = %d, but under symmetry %d it is %d", b, p, n, k, image)
				}
			}
		}
	}
}

// TestP97CanonicalPatternsAreSmallest checks promise 97.
func TestP97CanonicalPatternsAreSmallest(t *testing.T) {
	for n := range impl.MaxPattern + 1 {
		got := impl.CanonicalPattern(n)
		if got > n || got < 0 || impl.CanonicalPattern(got) != got {
			t.Fatalf("CanonicalPattern(%d) = %d, and of that it is %d", n, got, impl.CanonicalPattern(got))
		}
	}
}

// TestP98ColorsCanBeExchangedBack checks promise 98.
func TestP98ColorsCanBeExchangedBack(t *testing.T) {
	for n := range impl.MaxPattern + 1 {
		if got := impl.InvertPattern(impl.InvertPattern(n)); got != n {
			t.Fatalf("InvertPattern(%d) twice is %d", n, got)
		}
	}
}

// TestP99PatternsAreFoundAtEmptyPoints checks promise 99.
func TestP99PatternsAreFoundAtEmptyPoints(t *testing.T) {
	boards := sampleBoards(t)
	for i, b := range boards {
		n := impl.PatternAt(b, i%len(b.Cells))
		points := impl.FindPattern(b, n)
		for p, color := range b.Cells {
			equal := impl.CanonicalPattern(impl.PatternAt(b, p)) == impl.CanonicalPattern(n)
			if slices.Contains(points, p) != (equal && color == impl.Empty) {
				t.Fatalf("FindPattern(%v, %d) = %v", b, n, points)
			}
		}
		for k := range symmetries {
			if got := impl.FindPattern(impl.TransformBoard(b, k), n); !slices.Equal(got, imagesOfPoints(b.Size, k, points)) {
				t.Fatalf("FindPattern(%v, %d) = %v, but under symmetry %d it is %v", b, n, points, k, got)
			}
		}
	}
}

// inside reports whether all points around a point are on the board.
func inside(size int, p int) bool {
	r, c := p/size, p%size
	return r > 0 && r < size-1 && c > 0 && c < size-1
}

// TestP151EmptyBoardsHaveEmptyPatterns checks promise 151.
func TestP151EmptyBoardsHaveEmptyPatterns(t *testing.T) {
	forSizes(func(size int) {
		b := impl.BoardNew(size)
		for p := range b.Cells {
			if got := impl.PatternAt(b, p); (got == 0) != inside(size, p) {
				t.Errorf("PatternAt of size %d, %d = %d", size, p, got)
			}
		}
	})
	mixed := rand.New(rand.NewSource(63))
	for _, b := range sampleBoards(t) {
		for p := range b.Cells {
			other := boardOf(b.Size, slices.Clone(b.Cells)...)
			for q := range other.Cells {
				if rows, columns := q/b.Size-p/b.Size, q%b.Size-p%b.Size; p == q || max(rows, -rows, columns, -columns) > 1 {
					other.Cells[q] = mixed.Intn(3)
				}
			}
			if got := impl.PatternAt(other, p); got != impl.PatternAt(b, p) {
				t.Fatalf("PatternAt(%v, %d) = %d, but with other points far away %d", b, p, impl.PatternAt(b, p), got)
			}
		}
	}
}

// TestEqualPatternsOfSizes checks that points inside boards of different sizes have equal patterns.
func TestEqualPatternsOfSizes(t *testing.T) {
	for n := 0; n < 19683; n += 5 {
		small := numberedBoard(3, n)
		for size := 4; size <= impl.MaxSize; size++ {
			low := n % (size - 2)
			large := impl.BoardNew(size)
			for q, color := range small.Cells {
				large.Cells[(low+q/3)*size+low+q%3] = color
			}
			if got := impl.PatternAt(large, (low+1)*size+low+1); got != impl.PatternAt(small, 4) {
				t.Fatalf("PatternAt in the middle of %v is %d, but %d on a larger board", small, impl.PatternAt(small, 4), got)
			}
		}
	}
}

// TestFreshPatterns checks that results share no memory, and that boards are not changed.
func TestFreshPatterns(t *testing.T) {
	for _, b := range sampleBoards(t) {
		checkFresh(t, "FindPattern", b, func(b impl.Board) [][]int {
			return [][]int{impl.FindPattern(b, impl.PatternAt(b, 0)), impl.FindPattern(b, 0), {impl.PatternAt(b, 0)}}
		})
	}
}
