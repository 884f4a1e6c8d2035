package impl

import (
	"slices"
	"strings"
)

// Empty is the color of a point without a stone.
const Empty = 0

// Black is the color of the player who begins.
const Black = 1

// White is the color of the other player.
const White = 2

// colorLetters has the letter of each color, in the order of their numbers.
const colorLetters = ".XO"

// rowEnd is what follows each row in the text of a board.
const rowEnd = '/'

// Board is a board with its stones.
type Board struct {
	Size  int
	Cells []int
}

// cellList is the colors of the points of a board.
type cellList []int

// allColors reports whether a list has nothing but colors.
func (c cellList) allColors() bool {
	for _, color := range c {
		if !validColor(color) {
			return false
		}
	}
	return true
}

// count returns how often a color is in a list.
func (c cellList) count(color int) int {
	n := 0
	for _, other := range c {
		if other == color {
			n++
		}
	}
	return n
}

// movedTo returns a list in which each color is at the image of its point.
func (c cellList) movedTo(images []int) cellList {
	moved := make(cellList, len(c))
	for p, color := range c {
		moved[images[p]] = color
	}
	return moved
}

// inverted returns a list with Black and White exchanged.
func (c cellList) inverted() cellList {
	other := make(cellList, len(c))
	for p, color := range c {
		other[p] = otherColor(color)
	}
	return other
}

// validColor reports whether a number is Empty, Black or White.
func validColor(color int) bool {
	return color == Empty || isStone(color)
}

// isStone reports whether a color is Black or White.
func isStone(color int) bool {
	return color == Black || color == White
}

// otherColor exchanges Black and White, and leaves Empty.
func otherColor(color int) int {
	switch color {
	case Black:
		return White
	case White:
		return Black
	}
	return color
}

// ValidBoard reports whether a board is valid.
func ValidBoard(b Board) bool {
	return validSize(b.Size) && len(b.Cells) == b.Size*b.Size && cellList(b.Cells).allColors()
}

// BoardNew returns an empty board.
func BoardNew(size int) Board {
	if !validSize(size) {
		return Board{}
	}
	return Board{Size: size, Cells: make([]int, size*size)}
}

// SetStone returns a board in which a point has a color.
func SetStone(b Board, p int, color int) (Board, bool) {
	if !ValidBoard(b) || !ValidPoint(b.Size, p) || !validColor(color) {
		return Board{}, false
	}
	changed := BoardNew(b.Size)
	copy(changed.Cells, b.Cells)
	changed.Cells[p] = color
	return changed, true
}

// CountStones returns the number of points with a color.
func CountStones(b Board, color int) int {
	if !ValidBoard(b) {
		return -1
	}
	return cellList(b.Cells).count(color)
}

// TransformBoard returns the image of a board under a symmetry.
func TransformBoard(b Board, k int) Board {
	if !ValidBoard(b) || !validSymmetry(k) {
		return Board{}
	}
	return Board{Size: b.Size, Cells: cellList(b.Cells).movedTo(imagesOf(b.Size, k))}
}

// InvertBoard returns a board with both colors exchanged.
func InvertBoard(b Board) Board {
	if !ValidBoard(b) {
		return Board{}
	}
	return Board{Size: b.Size, Cells: cellList(b.Cells).inverted()}
}

// CanonicalBoard returns the smallest image of a board.
func CanonicalBoard(b Board) (Board, int) {
	if !ValidBoard(b) {
		return Board{}, -1
	}
	smallest, number := TransformBoard(b, 0), 0
	for k := 1; k < symmetryCount; k++ {
		image := TransformBoard(b, k)
		if slices.Compare(image.Cells, smallest.Cells) < 0 {
			smallest, number = image, k
		}
	}
	return smallest, number
}

// FormatBoard returns the text of a board.
func FormatBoard(b Board) string {
	if !ValidBoard(b) {
		return ""
	}
	var text strings.Builder
	for row := b.Size - 1; row >= 0; row-- {
		for _, color := range b.Cells[row*b.Size : (row+1)*b.Size] {
			text.WriteByte(colorLetters[color])
		}
		text.WriteByte(rowEnd)
	}
	return text.String()
}

// ParseBoard returns the board with a text.
func ParseBoard(s string) (Board, bool) {
	size := strings.IndexByte(s, rowEnd)
	if !validSize(size) || len(s) != size*(size+1) {
		return Board{}, false
	}
	b := BoardNew(size)
	for line := range size {
		start := line * (size + 1)
		row := size - 1 - line
		if s[start+size] != rowEnd || !readRow(b.Cells[row*size:(row+1)*size], s[start:start+size]) {
			return Board{}, false
		}
	}
	return b, true
}

// readRow stores the colors of a row that has a text, and reports whether it is the text of one.
func readRow(row []int, text string) bool {
	for column := range row {
		color := strings.IndexByte(colorLetters, text[column])
		if color < 0 {
			return false
		}
		row[column] = color
	}
	return true
}
