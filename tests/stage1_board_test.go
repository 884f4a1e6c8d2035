package tests

import (
	"fmt"
	"math"
	"regexp"
	"slices"
	"strings"
	"testing"

	"loop.example/goboard/impl"
)

func TestConstantsOfBoards(t *testing.T) {
	if impl.Empty != 0 || impl.Black != 1 || impl.White != 2 {
		t.Errorf("colors are %d, %d and %d", impl.Empty, impl.Black, impl.White)
	}
}

func TestValidBoard(t *testing.T) {
	for _, b := range sampleBoards(t) {
		if !impl.ValidBoard(b) {
			t.Errorf("ValidBoard(%v) is false", b)
		}
	}
	for _, b := range badBoards() {
		if impl.ValidBoard(b) {
			t.Errorf("ValidBoard of size %d with %d cells is true", b.Size, len(b.Cells))
		}
	}
	forSizes(func(size int) {
		for p := range pointsOf(size) {
			for _, color := range badColors {
				b := boardOf(size, make([]int, pointsOf(size))...)
				b.Cells[p] = color
				if impl.ValidBoard(b) {
					t.Errorf("ValidBoard is true for the color %d at %d", color, p)
				}
			}
		}
	})
}

// TestInvalidBoards checks the results of all functions of boards and groups for boards that are not valid.
func TestInvalidBoards(t *testing.T) {
	for _, b := range badBoards() {
		name := fmt.Sprintf("size %d, %d cells", b.Size, len(b.Cells))
		for _, p := range []int{-1, 0, 1, 3, 8} {
			for color := -1; color <= 3; color++ {
				if x, ok := impl.SetStone(b, p, color); ok || !isZero(x) {
					t.Errorf("%s: SetStone = %v, %v", name, x, ok)
				}
			}
			if g, l := impl.GroupOf(b, p), impl.LibertiesOf(b, p); len(g) > 0 || len(l) > 0 {
				t.Errorf("%s: GroupOf = %v, LibertiesOf = %v", name, g, l)
			}
		}
		for color := -1; color <= 3; color++ {
			if n := impl.CountStones(b, color); n != -1 {
				t.Errorf("%s: CountStones = %d", name, n)
			}
			if g, a := impl.GroupsOf(b, color), impl.AtariGroups(b, color); len(g) > 0 || len(a) > 0 {
				t.Errorf("%s: GroupsOf = %v, AtariGroups = %v", name, g, a)
			}
		}
		for k := -1; k <= symmetries; k++ {
			if x := impl.TransformBoard(b, k); !isZero(x) {
				t.Errorf("%s: TransformBoard = %v", name, x)
			}
		}
		if x := impl.InvertBoard(b); !isZero(x) {
			t.Errorf("%s: InvertBoard = %v", name, x)
		}
		if x, k := impl.CanonicalBoard(b); !isZero(x) || k != -1 {
			t.Errorf("%s: CanonicalBoard = %v, %d", name, x, k)
		}
		if s := impl.FormatBoard(b); s != "" {
			t.Errorf("%s: FormatBoard = %q", name, s)
		}
	}
}

// TestP9ValidBoardsHaveTexts checks promise 9.
func TestP9ValidBoardsHaveTexts(t *testing.T) {
	for _, b := range append(sampleBoards(t), badBoards()...) {
		valid := impl.ValidBoard(b)
		if valid != (impl.FormatBoard(b) != "") {
			t.Errorf("ValidBoard(%v) is %v, FormatBoard is %q", b, valid, impl.FormatBoard(b))
		}
		sum := impl.CountStones(b, impl.Empty) + impl.CountStones(b, impl.Black) + impl.CountStones(b, impl.White)
		if valid && sum != len(b.Cells) {
			t.Errorf("counts of %v add up to %d", b, sum)
		}
	}
}

// TestP10NewBoardsAreEmpty checks promise 10.
func TestP10NewBoardsAreEmpty(t *testing.T) {
	forSizes(func(size int) {
		b := impl.BoardNew(size)
		if !sameBoard(b, boardOf(size, make([]int, size*size)...)) || !impl.ValidBoard(b) {
			t.Errorf("BoardNew(%d) = %v", size, b)
		}
		if impl.CountStones(b, impl.Black) != 0 || impl.CountStones(b, impl.White) != 0 || impl.CountStones(b, impl.Empty) != size*size {
			t.Errorf("BoardNew(%d) has stones", size)
		}
		for k := range symmetries {
			if !sameBoard(impl.TransformBoard(b, k), b) {
				t.Errorf("BoardNew(%d) is not its image under symmetry %d", size, k)
			}
		}
		spoil(b.Cells)
		if !sameBoard(impl.BoardNew(size), boardOf(size, make([]int, size*size)...)) {
			t.Errorf("BoardNew(%d) is not empty after its result was overwritten", size)
		}
	})
	for _, size := range badSizes {
		if b := impl.BoardNew(size); !isZero(b) {
			t.Errorf("BoardNew(%d) = %v", size, b)
		}
	}
}

// TestP11SetStonesAreThere checks promise 11.
func TestP11SetStonesAreThere(t *testing.T) {
	for _, b := range sampleBoards(t) {
		for p, old := range b.Cells {
			for color := impl.Empty; color <= impl.White; color++ {
				want := boardOf(b.Size, slices.Clone(b.Cells)...)
				want.Cells[p] = color
				got, ok := impl.SetStone(b, p, color)
				if !ok || !sameBoard(got, want) {
					t.Fatalf("SetStone(%v, %d, %d) = %v, %v", b, p, color, got, ok)
				}
				if back, ok := impl.SetStone(got, p, old); !ok || !sameBoard(back, b) {
					t.Fatalf("SetStone(%v, %d, %d) back = %v, %v", b, p, color, back, ok)
				}
			}
		}
		for _, p := range badPoints(b.Size) {
			if x, ok := impl.SetStone(b, p, impl.Black); ok || !isZero(x) {
				t.Fatalf("SetStone(%v, %d, 1) = %v, %v", b, p, x, ok)
			}
		}
		for _, color := range badColors {
			if x, ok := impl.SetStone(b, 0, color); ok || !isZero(x) {
				t.Fatalf("SetStone(%v, 0, %d) = %v, %v", b, color, x, ok)
			}
		}
	}
}

// TestP135TheLastStoneCounts checks promise 135.
func TestP135TheLastStoneCounts(t *testing.T) {
	for _, b := range sampleBoards(t) {
		for p := range b.Cells {
			for first := impl.Empty; first <= impl.White; first++ {
				for second := impl.Empty; second <= impl.White; second++ {
					x, ok1 := impl.SetStone(b, p, first)
					x, ok2 := impl.SetStone(x, p, second)
					y, ok3 := impl.SetStone(b, p, second)
					if !ok1 || !ok2 || !ok3 || !sameBoard(x, y) {
						t.Fatalf("%v: colors %d and %d at %d make %v, not %v", b, first, second, p, x, y)
					}
				}
			}
		}
	}
}

func TestCountStones(t *testing.T) {
	b := readText(t, "XX./.X./O.O/")
	if impl.CountStones(b, impl.Empty) != 4 || impl.CountStones(b, impl.Black) != 3 || impl.CountStones(b, impl.White) != 2 {
		t.Errorf("CountStones = %d, %d, %d", impl.CountStones(b, 0), impl.CountStones(b, 1), impl.CountStones(b, 2))
	}
	for _, color := range badColors {
		if n := impl.CountStones(b, color); n != 0 {
			t.Errorf("CountStones of the color %d = %d", color, n)
		}
	}
	for _, b := range sampleBoards(t) {
		for color := impl.Empty; color <= impl.White; color++ {
			n := len(slices.DeleteFunc(slices.Clone(b.Cells), func(x int) bool { return x != color }))
			if impl.CountStones(b, color) != n {
				t.Errorf("CountStones(%v, %d) = %d, not %d", b, color, impl.CountStones(b, color), n)
			}
		}
	}
}

// TestP12SymmetriesAndColorsKeepCounts checks promise 12.
func TestP12SymmetriesAndColorsKeepCounts(t *testing.T) {
	for _, b := range sampleBoards(t) {
		inverse := impl.InvertBoard(b)
		for color, other := range []int{0, 2, 1} {
			n := impl.CountStones(b, color)
			for k := range symmetries {
				if got := impl.CountStones(impl.TransformBoard(b, k), color); got != n {
					t.Errorf("image %d of %v has %d of color %d, not %d", k, b, got, color, n)
				}
			}
			if got := impl.CountStones(inverse, other); got != n {
				t.Errorf("InvertBoard(%v) has %d of color %d, not %d", b, got, other, n)
			}
		}
	}
}

// TestP13ImagesOfBoards checks promise 13.
func TestP13ImagesOfBoards(t *testing.T) {
	b := readText(t, "XX./O../.../")
	for k, want := range []string{
		"XX./O../.../", ".../X../XO./", ".../..O/.XX/", ".OX/..X/.../",
		".XX/..O/.../", "XO./X../.../", ".../O../XX./", ".../..X/.OX/",
	} {
		if got := impl.TransformBoard(b, k); !sameBoard(got, readText(t, want)) {
			t.Errorf("image %d = %v, not %v", k, got, readText(t, want))
		}
	}
	for _, b := range sampleBoards(t) {
		for k := range symmetries {
			got := impl.TransformBoard(b, k)
			if !sameBoard(got, modelImage(b, k)) {
				t.Fatalf("TransformBoard(%v, %d) = %v", b, k, got)
			}
			for p, color := range b.Cells {
				if got.Cells[impl.TransformPoint(b.Size, k, p)] != color {
					t.Fatalf("TransformBoard(%v, %d) = %v differs at the image of %d", b, k, got, p)
				}
			}
		}
		for _, k := range badSymmetries {
			if got := impl.TransformBoard(b, k); !isZero(got) {
				t.Fatalf("TransformBoard(%v, %d) = %v", b, k, got)
			}
		}
	}
}

// TestP14TwoSymmetriesOfBoards checks promise 14.
func TestP14TwoSymmetriesOfBoards(t *testing.T) {
	for _, b := range sampleBoards(t) {
		for first := range symmetries {
			for second := range symmetries {
				twice := impl.TransformBoard(impl.TransformBoard(b, first), second)
				once := impl.TransformBoard(b, impl.ComposeOf(first, second))
				if !sameBoard(once, twice) || isZero(once) {
					t.Fatalf("%v: symmetries %d and %d make %v, and ComposeOf %v", b, first, second, twice, once)
				}
			}
		}
	}
}

// TestP15ColorsCanBeExchangedBack checks promise 15.
func TestP15ColorsCanBeExchangedBack(t *testing.T) {
	for _, b := range sampleBoards(t) {
		inverse := impl.InvertBoard(b)
		if !sameBoard(inverse, modelInverse(b)) {
			t.Fatalf("InvertBoard(%v) = %v", b, inverse)
		}
		if back := impl.InvertBoard(inverse); !sameBoard(back, b) {
			t.Fatalf("InvertBoard of InvertBoard(%v) = %v", b, back)
		}
		for k := range symmetries {
			x, y := impl.TransformBoard(inverse, k), impl.InvertBoard(impl.TransformBoard(b, k))
			if !sameBoard(x, y) || isZero(x) {
				t.Fatalf("%v: symmetry %d and InvertBoard make %v or %v", b, k, x, y)
			}
		}
	}
}

// TestP16ImagesHaveOneCanonicalBoard checks promise 16.
func TestP16ImagesHaveOneCanonicalBoard(t *testing.T) {
	for _, b := range sampleBoards(t) {
		want, number := b, 0
		for k := 1; k < symmetries; k++ {
			if image := modelImage(b, k); slices.Compare(image.Cells, want.Cells) < 0 {
				want, number = image, k
			}
		}
		got, k := impl.CanonicalBoard(b)
		if !sameBoard(got, want) || k != number {
			t.Fatalf("CanonicalBoard(%v) = %v, %d, not %v, %d", b, got, k, want, number)
		}
		if again, k := impl.CanonicalBoard(got); !sameBoard(again, got) || k != 0 {
			t.Fatalf("CanonicalBoard(%v) = %v, %d", got, again, k)
		}
		for k := range symmetries {
			image := impl.TransformBoard(b, k)
			other, j := impl.CanonicalBoard(image)
			if !sameBoard(other, got) || !sameBoard(impl.TransformBoard(image, j), got) {
				t.Fatalf("image %d of %v has the CanonicalBoard %v, %d, not %v", k, b, other, j, got)
			}
		}
	}
}

// TestCanonicalBoardNumbers checks the number of the symmetry for boards without symmetry, and the smallest number for others.
func TestCanonicalBoardNumbers(t *testing.T) {
	for _, text := range []string{".XX/..O/.../", "O.....X/......./......./...X.../......./......./......./"} {
		smallest, _ := impl.CanonicalBoard(readText(t, text))
		for k := range symmetries {
			back := slices.Index(composed[k][:], 0)
			if got, j := impl.CanonicalBoard(modelImage(smallest, k)); j != back || !sameBoard(got, smallest) {
				t.Errorf("CanonicalBoard of image %d of %v = %v, %d, not %d", k, smallest, got, j, back)
			}
		}
	}
	for _, x := range []struct {
		text string
		want []int
		k    int
	}{
		{"./", []int{0}, 0}, {"O/", []int{2}, 0},
		{"../X./", []int{0, 0, 0, 1}, 2}, {"../.X/", []int{0, 0, 0, 1}, 1}, {"X./../", []int{0, 0, 0, 1}, 3}, {".X/../", []int{0, 0, 0, 1}, 0},
		{"../XO/", []int{0, 0, 1, 2}, 6}, {"OX/../", []int{0, 0, 1, 2}, 4}, {"XX/XX/", []int{1, 1, 1, 1}, 0}, {"XO/OX/", []int{1, 2, 2, 1}, 1},
		{".../.../.X./", []int{0, 0, 0, 0, 0, 0, 0, 1, 0}, 2}, {".../.../X../", []int{0, 0, 0, 0, 0, 0, 0, 0, 1}, 2},
	} {
		if got, k := impl.CanonicalBoard(readText(t, x.text)); !slices.Equal(got.Cells, x.want) || k != x.k {
			t.Errorf("CanonicalBoard of %q = %v, %d", x.text, got, k)
		}
	}
}

func TestFormatBoard(t *testing.T) {
	for _, x := range []struct {
		b    impl.Board
		text string
	}{
		{boardOf(1, 0), "./"}, {boardOf(1, 1), "X/"}, {boardOf(1, 2), "O/"},
		{boardOf(2, 1, 0, 0, 2), ".O/X./"}, {boardOf(2, 0, 1, 2, 0), "O./.X/"},
		{boardOf(3, 1, 2, 0, 0, 1, 0, 0, 0, 2), "..O/.X./XO./"},
	} {
		if got := impl.FormatBoard(x.b); got != x.text {
			t.Errorf("FormatBoard(%v) = %q, not %q", x.b, got, x.text)
		}
		if got, ok := impl.ParseBoard(x.text); !ok || !sameBoard(got, x.b) {
			t.Errorf("ParseBoard(%q) = %v, %v", x.text, got, ok)
		}
	}
	b := boardOf(7, make([]int, 49)...)
	b.Cells[0], b.Cells[6], b.Cells[42], b.Cells[45] = 1, 2, 2, 1
	if got := impl.FormatBoard(b); got != "O..X.../"+strings.Repeat("......./", 5)+"X.....O/" {
		t.Errorf("FormatBoard(%v) = %q", b, got)
	}
}

// TestP17TextsLoseNothing checks promise 17.
func TestP17TextsLoseNothing(t *testing.T) {
	for _, b := range sampleBoards(t) {
		text := impl.FormatBoard(b)
		if got, ok := impl.ParseBoard(text); !ok || !sameBoard(got, b) {
			t.Errorf("ParseBoard(FormatBoard(%v)) = %v, %v", b, got, ok)
		}
		if !sameBoard(readText(t, text), b) {
			t.Errorf("FormatBoard(%v) = %q", b, text)
		}
	}
}

// textPattern is what a text of a board looks like, for each size.
func textPattern() *regexp.Regexp {
	var sizes []string
	for size := 1; size <= 7; size++ {
		sizes = append(sizes, fmt.Sprintf("([.XO]{%d}/){%d}", size, size))
	}
	return regexp.MustCompile(`\A(` + strings.Join(sizes, "|") + `)\z`)
}

// checkText checks ParseBoard of one text.
func checkText(t *testing.T, pattern *regexp.Regexp, s string) {
	t.Helper()
	got, ok := impl.ParseBoard(s)
	if ok != pattern.MatchString(s) {
		t.Fatalf("ParseBoard(%q) = %v, %v", s, got, ok)
	}
	if !ok && !isZero(got) {
		t.Fatalf("ParseBoard(%q) fails with %v", s, got)
	}
	if ok && (impl.FormatBoard(got) != s || !sameBoard(got, readText(t, s))) {
		t.Fatalf("ParseBoard(%q) = %v, with the text %q", s, got, impl.FormatBoard(got))
	}
}

// TestP18EveryBoardHasOneText checks promise 18 for texts with one byte too few, too many or wrong.
func TestP18EveryBoardHasOneText(t *testing.T) {
	pattern := textPattern()
	for _, b := range sampleBoards(t) {
		text := impl.FormatBoard(b)
		checkText(t, pattern, text)
		for i := range len(text) + 1 {
			for _, c := range []string{".", "X", "O", "/", "x", "o", "0", " ", "\n", "\x00", "\xff"} {
				checkText(t, pattern, text[:i]+c+text[i:])
				if i < len(text) {
					checkText(t, pattern, text[:i]+c+text[i+1:])
				}
			}
			checkText(t, pattern, text[:i])
			checkText(t, pattern, text[i:])
			if i < len(text) {
				checkText(t, pattern, text[:i]+text[i+1:])
			}
		}
	}
}

// TestParseBoardOfOtherTexts checks texts of other shapes, and all short ones.
func TestParseBoardOfOtherTexts(t *testing.T) {
	pattern := textPattern()
	for _, s := range []string{
		"", "/", "//", "././", "./.", ".", "X", "../..", "../../../", "../../ ", "..../..../", "../.../", ".../../", ".../.../..", "/../..", "/./",
		"..\\..\\", "\u25cb/", "\u00b7/", "X/\n", "\nX/", "X/X/", "XO/OX", "XO//OX/", "XOOX//", "X/OOX/", ".X/O/X.", "..|../",
	} {
		checkText(t, pattern, s)
	}
	for _, size := range []int{0, 8, 9, 10, 40} {
		checkText(t, pattern, strings.Repeat(strings.Repeat(".", size)+"/", size))
		checkText(t, pattern, strings.Repeat(strings.Repeat("X", size)+"/", size))
	}
	for size := 1; size <= impl.MaxSize; size++ {
		row := strings.Repeat(".", size) + "/"
		for rows := range 10 {
			checkText(t, pattern, strings.Repeat(row, rows))
		}
	}
	checkShort(t, pattern, "", 6)
}

// checkShort checks all texts that begin with a text and have at most a number of bytes more.
func checkShort(t *testing.T, pattern *regexp.Regexp, s string, more int) {
	t.Helper()
	checkText(t, pattern, s)
	if more == 0 {
		return
	}
	for _, c := range []string{".", "X", "O", "/", "x"} {
		checkShort(t, pattern, s+c, more-1)
	}
}

// TestBoardsAreFresh checks that results share no memory with arguments, which stay as they are.
func TestBoardsAreFresh(t *testing.T) {
	for _, b := range sampleBoards(t) {
		for p := range b.Cells {
			checkFresh(t, "SetStone", b, func(b impl.Board) [][]int {
				x, _ := impl.SetStone(b, p, b.Cells[p])
				return [][]int{x.Cells}
			})
		}
		for k := range symmetries {
			checkFresh(t, "TransformBoard", b, func(b impl.Board) [][]int {
				return [][]int{impl.TransformBoard(b, k).Cells}
			})
		}
		checkFresh(t, "InvertBoard", b, func(b impl.Board) [][]int {
			return [][]int{impl.InvertBoard(b).Cells}
		})
		checkFresh(t, "CanonicalBoard", b, func(b impl.Board) [][]int {
			x, k := impl.CanonicalBoard(b)
			return [][]int{x.Cells, {k}}
		})
		checkFresh(t, "ParseBoard of FormatBoard", b, func(b impl.Board) [][]int {
			x, _ := impl.ParseBoard(impl.FormatBoard(b))
			return [][]int{x.Cells}
		})
		checkFresh(t, "ValidBoard and CountStones", b, func(b impl.Board) [][]int {
			if !impl.ValidBoard(b) {
				return nil
			}
			return [][]int{{impl.CountStones(b, impl.Black), impl.CountStones(b, math.MaxInt)}}
		})
	}
}
