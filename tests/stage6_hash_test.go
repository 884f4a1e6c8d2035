package tests

import (
	"math"
	"slices"
	"testing"

	"loop.example/goboard/impl"
)

// TestConstantsOfHashes checks the numbers of keys.
func TestConstantsOfHashes(t *testing.T) {
	if impl.KeyFactor != 48271 || impl.KeyTerm != 11 || impl.KeyRange != 1048576 {
		t.Error("numbers of keys")
	}
}

// TestKeyOf checks the first and the last point, others, and invalid points and colors.
func TestKeyOf(t *testing.T) {
	for _, x := range []struct{ p, black, white int }{{0, 795169, 710114}, {1, 625059, 540004}, {2, 454949, 369894}, {6, 823085, 738030}, {24, 906833, 821778}, {47, 140031, 54976}, {48, 1018497, 933442}} {
		if black, white := impl.KeyOf(x.p, impl.Black), impl.KeyOf(x.p, impl.White); black != x.black || white != x.white {
			t.Errorf("KeyOf(%d) = %d and %d, not %d and %d", x.p, black, white, x.black, x.white)
		}
	}
	for p := range 49 {
		for _, color := range append([]int{impl.Empty}, badColors...) {
			if got := impl.KeyOf(p, color); got != -1 {
				t.Errorf("KeyOf(%d, %d) = %d", p, color, got)
			}
		}
	}
	for _, p := range []int{-1, -2, 49, 50, 64, 1 << 32, math.MaxInt, math.MinInt} {
		for _, color := range append([]int{impl.Empty, impl.Black, impl.White}, badColors...) {
			if got := impl.KeyOf(p, color); got != -1 {
				t.Errorf("KeyOf(%d, %d) = %d", p, color, got)
			}
		}
	}
}

// TestP100KeysAreInRangeAndDiffer checks promise 100, and that the keys of all stones differ.
func TestP100KeysAreInRangeAndDiffer(t *testing.T) {
	seen := map[int]bool{}
	for p := range impl.MaxSize * impl.MaxSize {
		for color := impl.Black; color <= impl.White; color++ {
			key := impl.KeyOf(p, color)
			if key < 0 || key >= impl.KeyRange || seen[key] || key != modelKey(p, color) {
				t.Errorf("KeyOf(%d, %d) = %d", p, color, key)
			}
			seen[key] = true
		}
	}
}

// TestHashOf checks boards without stones, with one and with several, and boards that are not valid.
func TestHashOf(t *testing.T) {
	for _, x := range []struct {
		text string
		want int
	}{
		{"./", 0}, {"X/", 795169}, {"O/", 710114}, {".../.../.../", 0}, {".../.../OX./", 710114 ^ 625059}, {"../XO/", 795169 ^ 540004}, {"../OX/", 710114 ^ 625059}, {".../.../XXO/", 795169 ^ 625059 ^ 369894},
		{"......X/......./......./......./......./......./O...../", 1018497 ^ 710114}, {"......O/......./......./...X.../......./......./......X/", 933442 ^ 906833 ^ 823085},
	} {
		if got := impl.HashOf(readText(t, x.text)); got != x.want {
			t.Errorf("HashOf(%q) = %d, not %d", x.text, got, x.want)
		}
	}
	for _, b := range boardsByStep(t, 17) {
		if got := impl.HashOf(b); got != modelHash(b) {
			t.Fatalf("HashOf(%v) = %d, not %d", b, got, modelHash(b))
		}
	}
	for _, b := range badBoards() {
		if got := impl.HashOf(b); got != -1 {
			t.Errorf("HashOf(%v) = %d", b, got)
		}
	}
}

// TestP101HashesChangeStoneByStone checks promise 101.
func TestP101HashesChangeStoneByStone(t *testing.T) {
	forSizes(func(size int) {
		if got := impl.HashOf(impl.BoardNew(size)); got != 0 {
			t.Errorf("HashOf of the empty board of size %d is %d", size, got)
		}
	})
	for _, b := range sampleBoards(t) {
		for p, old := range b.Cells {
			if old != impl.Empty {
				continue
			}
			for color := impl.Black; color <= impl.White; color++ {
				one, _ := impl.SetStone(b, p, color)
				if got, want := impl.HashOf(one), impl.HashOf(b)^impl.KeyOf(p, color); got != want {
					t.Fatalf("HashOf(%v) = %d, not %d", one, got, want)
				}
			}
		}
	}
}

// checkHashAfter checks HashAfter, where the text "" of the board after the move means that it is impossible.
func checkHashAfter(t *testing.T, text string, color int, p int, suicide bool, after string) {
	t.Helper()
	want := -1
	if after != "" {
		want = modelHash(readText(t, after))
	}
	if got := impl.HashAfter(readText(t, text), color, p, suicide); got != want {
		t.Errorf("HashAfter(%q, %d, %d, %v) = %d, not %d", text, color, p, suicide, got, want)
	}
}

// TestHashAfter checks moves that remove nothing, stones of the other color, and stones of the own one.
func TestHashAfter(t *testing.T) {
	for _, x := range []struct {
		text    string
		color   int
		p       int
		suicide bool
		after   string
	}{
		{".../.../.../", impl.Black, 0, false, ".../.../X../"}, {".../.../.../", impl.White, 1, true, ".../.../.O./"}, {".../.../OX./", impl.White, 2, false, ".../.../OXO/"}, {"......./......./......./......./......./......./......./", impl.White, 48, false, "......O/......./......./......./......./......./......./"},
		// One stone of the other color, several groups, and all stones but the new one.
		{".../.../OX./", impl.Black, 3, false, ".../X../.X./"}, {"X.X/.../XOO/", impl.White, 3, false, "X.X/O../.OO/"}, {"OX.XO/XX.XX/...../XX.XX/OX.XO/", impl.Black, 12, true, ".X.X./XX.XX/..X../XX.XX/.X.X./"}, {"XXX/X.X/XXX/", impl.White, 4, true, ".../.O./.../"}, {"OO/.O/", impl.Black, 0, false, "../X./"},
		// Suicide of the new stone alone, of its group, and with other groups of its color.
		{"./", impl.Black, 0, true, "./"}, {"./", impl.White, 0, true, "./"}, {".../X../.X./", impl.White, 0, true, ".../X../.X./"}, {"XX/.X/", impl.Black, 0, true, "../../"}, {".X../OX../OX../OX../", impl.White, 12, true, ".X../.X../.X../.X../"}, {".X../X.../..XX/..XO/", impl.White, 12, true, ".X../X.../..XX/..X./"},
		// Stones of both colors in one move.
		{".O.../O..../...../OO.XX/XXOXO/", impl.Black, 20, true, ".O.../O..../...../OO.XX/..OX./"}, {".O../O.../..XX/..XO/", impl.Black, 12, true, ".O../O.../..XX/..X./"},
		// Moves that are not possible.
		{"./", impl.Black, 0, false, ""}, {".../X../.X./", impl.White, 0, false, ""}, {"XX/.X/", impl.Black, 0, false, ""}, {".../.../OX./", impl.Black, 0, false, ""}, {".../.../OX./", impl.White, 0, true, ""}, {".../.../OX./", impl.Black, 1, true, ""}, {"XX/XX/", impl.White, 0, true, ""},
	} {
		checkHashAfter(t, x.text, x.color, x.p, x.suicide, x.after)
	}
	b := readText(t, ".../.../OX./")
	if got := impl.HashAfter(b, impl.Black, 3, false); got != 625059^impl.KeyOf(3, impl.Black) {
		t.Errorf("HashAfter a capture = %d", got)
	}
	if got := impl.HashAfter(b, impl.White, 2, true); got != 710114^625059^369894 {
		t.Errorf("HashAfter a stone = %d", got)
	}
}

// TestP102HashesCanBeFoundFromMoves checks promise 102.
func TestP102HashesCanBeFoundFromMoves(t *testing.T) {
	plain, captures, suicides, impossible := 0, 0, 0, 0
	for _, b := range boardsByStep(t, 7) {
		forMoves(b, func(color int, p int, suicide bool) {
			got := impl.HashAfter(b, color, p, suicide)
			after, removed, ok := impl.PlayStone(b, color, p, suicide)
			want := impl.HashOf(b) ^ impl.KeyOf(p, color)
			for _, q := range removed {
				gone := b.Cells[q]
				if q == p {
					gone = color
				}
				want ^= impl.KeyOf(q, gone)
			}
			switch {
			case !ok:
				want = -1
				impossible++
			case len(removed) == 0:
				plain++
			case slices.Contains(removed, p):
				suicides++
			default:
				captures++
			}
			if got != want || ok && got != impl.HashOf(after) {
				t.Fatalf("HashAfter(%v, %d, %d, %v) = %d, not %d", b, color, p, suicide, got, want)
			}
		})
	}
	if min(plain, captures, suicides, impossible) < 500 {
		t.Errorf("only %d moves remove nothing, %d capture, %d are suicide, and %d are impossible", plain, captures, suicides, impossible)
	}
}

// TestInvalidHashes checks boards, colors and points that are not valid.
func TestInvalidHashes(t *testing.T) {
	check := func(b impl.Board, color int, p int) {
		t.Helper()
		for _, suicide := range []bool{false, true} {
			if got := impl.HashAfter(b, color, p, suicide); got != -1 {
				t.Errorf("HashAfter(%v, %d, %d, %v) = %d", b, color, p, suicide, got)
			}
		}
	}
	for _, b := range badBoards() {
		for _, p := range []int{-1, 0, 4} {
			check(b, impl.Black, p)
			check(b, impl.White, p)
			check(b, impl.Empty, p)
		}
	}
	forSizes(func(size int) {
		b := impl.BoardNew(size)
		for _, p := range append(badPoints(size), impl.Pass) {
			check(b, impl.Black, p)
			check(b, impl.White, p)
		}
		for _, color := range append([]int{impl.Empty}, badColors...) {
			check(b, color, 0)
		}
	})
}

// TestHashesKeepBoards checks that boards are not changed.
func TestHashesKeepBoards(t *testing.T) {
	for _, b := range sampleBoards(t) {
		checkFresh(t, "HashOf and HashAfter", b, func(b impl.Board) [][]int {
			hashes := []int{impl.HashOf(b)}
			forMoves(b, func(color int, p int, suicide bool) {
				hashes = append(hashes, impl.HashAfter(b, color, p, suicide))
			})
			return [][]int{hashes}
		})
	}
}
