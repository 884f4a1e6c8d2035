package tests

import (
	"math"
	"math/rand"
	"reflect"
	"slices"
	"strings"
	"testing"

	"loop.example/goboard/impl"
)

// symmetries is the number of symmetries.
const symmetries = 8

// badSizes are sizes that no board has.
var badSizes = []int{-1, 0, impl.MaxSize + 1, 10, 1 << 32, math.MaxInt, -2, math.MinInt}

// badSymmetries are numbers that no symmetry has.
var badSymmetries = []int{-1, 8, 9, -4, math.MaxInt, math.MinInt}

// badColors are numbers that no color has.
var badColors = []int{-1, 3, 4, math.MaxInt, math.MinInt}

// fixedTexts are boards with stones in corners, at edges, without liberties, and in rings.
var fixedTexts = []string{
	"./", "X/", "O/",
	"XX/XX/", "XO/OX/", "X./.O/", "../../",
	"XX./.X./O.O/", ".../.../OX./", "XXX/X.X/XXX/", "XXX/XOX/XXX/", ".X./X.X/.X./", "OOO/OOO/OOO/",
	"X..X/..../..../X..X/", ".XX./XOOX/XO.X/.XX./", "OXXO/X..X/X..X/OXXO/",
	"XXXXX/X...X/X.O.X/X...X/XXXXX/", "X.X.X/.X.X./X.X.X/.X.X./X.X.X/", "OOOOO/....O/OOO.O/O...O/OOOOO/",
	"......./.XXXXX./.X...X./.X.O.X./.X...X./.XXXXX./......./",
	"XOXOXOX/OXOXOXO/XOXOXOX/OXOXOXO/XOXOXOX/OXOXOXO/XOXOXOX/",
	"X......./......./......./......./......./......./......O/",
	"OXXXXXX/OOOOOOX/XXXXXOX/X.OOXOX/XOXXXOX/XOOOOOX/XXXXXXX/",
}

// pointsOf returns how many points boards of a size have.
func pointsOf(size int) int {
	return size * size
}

// badPoints returns numbers that are no points of a board of a size.
func badPoints(size int) []int {
	n := pointsOf(size)
	return []int{-1, n, n + 1, -n, math.MaxInt, math.MinInt}
}

// forSizes calls a function for all sizes of boards.
func forSizes(f func(size int)) {
	for size := 1; size <= impl.MaxSize; size++ {
		f(size)
	}
}

// boardOf returns a board with cells.
func boardOf(size int, cells ...int) impl.Board {
	return impl.Board{Size: size, Cells: cells}
}

// numberedBoard returns the board whose cells are the digits of a number to the base 3.
func numberedBoard(size int, n int) impl.Board {
	cells := make([]int, pointsOf(size))
	for i := range cells {
		cells[i] = n % 3
		n /= 3
	}
	return boardOf(size, cells...)
}

// readText returns the board with a text, found without the package.
func readText(t *testing.T, text string) impl.Board {
	t.Helper()
	rows := strings.Split(strings.TrimSuffix(text, "/"), "/")
	size := len(rows)
	cells := make([]int, pointsOf(size))
	for i, row := range rows {
		for c := range min(size, len(row)) {
			cells[(size-1-i)*size+c] = strings.Index(".XO", row[c:c+1])
		}
	}
	return boardOf(size, cells...)
}

// sampleBoards returns boards of all sizes: all of the sizes 1 and 2, fixed ones, and mixed ones with few to many stones.
func sampleBoards(t *testing.T) []impl.Board {
	t.Helper()
	var list []impl.Board
	for n := range 3 {
		list = append(list, numberedBoard(1, n))
	}
	for n := range 81 {
		list = append(list, numberedBoard(2, n))
	}
	for _, text := range fixedTexts {
		list = append(list, readText(t, text))
	}
	mixed := rand.New(rand.NewSource(1))
	for size := 3; size <= impl.MaxSize; size++ {
		for i := range 24 {
			cells := make([]int, pointsOf(size))
			for p := range cells {
				if mixed.Intn(24) <= i {
					cells[p] = 1 + mixed.Intn(2)
				}
			}
			list = append(list, boardOf(size, cells...))
		}
	}
	return list
}

// badBoards returns boards that are not valid.
func badBoards() []impl.Board {
	list := []impl.Board{
		{}, {Size: 1}, {Size: 1, Cells: []int{}}, {Size: 7}, {Cells: []int{0}}, {Size: 0, Cells: []int{}},
		boardOf(1, 0, 0), boardOf(1, 3), boardOf(1, -1), boardOf(1, math.MinInt), boardOf(1, math.MaxInt),
		boardOf(2, 0, 0, 0), boardOf(2, 0, 0, 0, 0, 0), boardOf(2, 1, 2), boardOf(2, 3, 0, 0, 0), boardOf(2, 0, 0, 0, 3),
		boardOf(3, 1, 1, 1, 1), boardOf(-1, 0), boardOf(-2, 0, 0, 0, 0), boardOf(-3, make([]int, 9)...),
	}
	for _, size := range []int{3, 5, impl.MaxSize} {
		n := pointsOf(size)
		list = append(list, boardOf(size, make([]int, n-1)...), boardOf(size, make([]int, n+1)...), boardOf(size, make([]int, n-size)...))
		for _, p := range []int{0, size, n / 2, n - 1} {
			for _, color := range badColors {
				b := boardOf(size, make([]int, n)...)
				b.Cells[p] = color
				list = append(list, b)
			}
		}
	}
	list = append(list, boardOf(8, make([]int, 64)...), boardOf(9, make([]int, 81)...), boardOf(100, make([]int, 10000)...))
	return append(list, boardOf(1<<32, 0), impl.Board{Size: 1 << 32}, boardOf(math.MaxInt, 0), boardOf(math.MinInt), boardOf(0, 0, 0))
}

// isZero reports whether a board is the zero value.
func isZero(b impl.Board) bool {
	return b.Size == 0 && len(b.Cells) == 0
}

// sameBoard reports whether two boards are equal.
func sameBoard(a impl.Board, b impl.Board) bool {
	return a.Size == b.Size && slices.Equal(a.Cells, b.Cells)
}

// sameLists reports whether two lists of lists are equal.
func sameLists(a [][]int, b [][]int) bool {
	return slices.EqualFunc(a, b, slices.Equal)
}

// modelNeighbors returns the points at a distance of 1, found by looking at all points.
func modelNeighbors(size int, p int) []int {
	var list []int
	for q := range pointsOf(size) {
		rows, columns := p/size-q/size, p%size-q%size
		if rows*rows+columns*columns == 1 {
			list = append(list, q)
		}
	}
	return list
}

// modelTransform returns the image of a point by the formula of each symmetry.
func modelTransform(size int, k int, p int) int {
	r, c, last := p/size, p%size, size-1
	images := [symmetries][2]int{
		{r, c}, {c, last - r}, {last - r, last - c}, {last - c, r},
		{r, last - c}, {last - c, last - r}, {last - r, c}, {c, r},
	}
	return images[k][0]*size + images[k][1]
}

// modelImage returns the image of a board.
func modelImage(b impl.Board, k int) impl.Board {
	image := boardOf(b.Size, make([]int, len(b.Cells))...)
	for p, color := range b.Cells {
		image.Cells[modelTransform(b.Size, k, p)] = color
	}
	return image
}

// modelInverse returns a board with both colors exchanged.
func modelInverse(b impl.Board) impl.Board {
	inverse := boardOf(b.Size, make([]int, len(b.Cells))...)
	for p, color := range b.Cells {
		inverse.Cells[p] = []int{0, 2, 1}[color]
	}
	return inverse
}

// modelGroup returns the group of a stone by flooding.
func modelGroup(b impl.Board, p int) []int {
	in := map[int]bool{p: true}
	list := []int{p}
	for i := 0; i < len(list); i++ {
		for _, q := range modelNeighbors(b.Size, list[i]) {
			if b.Cells[q] == b.Cells[p] && !in[q] {
				in[q] = true
				list = append(list, q)
			}
		}
	}
	slices.Sort(list)
	return list
}

// modelLiberties returns the liberties of a group.
func modelLiberties(b impl.Board, group []int) []int {
	var list []int
	for q, color := range b.Cells {
		next := slices.ContainsFunc(modelNeighbors(b.Size, q), func(p int) bool { return slices.Contains(group, p) })
		if color == 0 && next {
			list = append(list, q)
		}
	}
	return list
}

// modelGroups returns all groups of a color.
func modelGroups(b impl.Board, color int) [][]int {
	var list [][]int
	for p := range b.Cells {
		if b.Cells[p] != color {
			continue
		}
		if group := modelGroup(b, p); group[0] == p {
			list = append(list, group)
		}
	}
	return list
}

// imagesOfPoints returns the images of points under a symmetry, in ascending order.
func imagesOfPoints(size int, k int, points []int) []int {
	var list []int
	for _, p := range points {
		list = append(list, modelTransform(size, k, p))
	}
	slices.Sort(list)
	return list
}

// spoil overwrites all memory of a list, its spare capacity included.
func spoil(list []int) {
	whole := list[:cap(list)]
	for i := range whole {
		whole[i] = 77
	}
}

// withSpare returns a copy of a board with spare capacity behind its cells, and all of that memory.
func withSpare(b impl.Board) (impl.Board, []int) {
	whole := make([]int, len(b.Cells)+8)
	for i := range whole {
		whole[i] = 55
	}
	copy(whole, b.Cells)
	return impl.Board{Size: b.Size, Cells: whole[:len(b.Cells)]}, whole
}

// checkFresh checks that the slices that a call returns share no memory with its board and with each other, that the board is not changed, and that a second call returns the same.
func checkFresh(t *testing.T, name string, b impl.Board, call func(b impl.Board) [][]int) {
	t.Helper()
	given, whole := withSpare(b)
	before := slices.Clone(whole)
	first := copyLists(call(given))
	second := call(given)
	if !reflect.DeepEqual(before, whole) {
		t.Fatalf("%s of %v changes its board", name, b)
	}
	if !sameLists(first, second) {
		t.Fatalf("%s of %v is %v and then %v", name, b, first, second)
	}
	for i := range second {
		spoil(second[i])
		for j := i + 1; j < len(second); j++ {
			if !slices.Equal(first[j], second[j]) {
				t.Fatalf("%s of %v has lists that share memory", name, b)
			}
		}
	}
	if !reflect.DeepEqual(before, whole) {
		t.Fatalf("%s of %v shares memory with its board", name, b)
	}
	if third := call(given); !sameLists(first, third) {
		t.Fatalf("%s of %v is %v after its result was overwritten, not %v", name, b, third, first)
	}
}

// copyLists returns a copy of a list of lists.
func copyLists(list [][]int) [][]int {
	var copied [][]int
	for _, one := range list {
		copied = append(copied, slices.Clone(one))
	}
	return copied
}
