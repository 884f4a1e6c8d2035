// Package impl is the core of a program for the game of Go, one file for each layer.
package impl

import "strconv"

// MaxSize is the largest size of a board.
const MaxSize = 7

// turnCount is the number of quarter turns that lead back to the beginning.
const turnCount = 4

// symmetryCount is the number of symmetries: the turns, and the turns after mirroring.
const symmetryCount = 2 * turnCount

// place is a point as its row and its column.
type place struct {
	row    int
	column int
}

// placeOf returns the place of a point.
func placeOf(size int, p int) place {
	return place{row: p / size, column: p % size}
}

// pointOn returns the point at a place of a board.
func (a place) pointOn(size int) int {
	return a.row*size + a.column
}

// mirrored returns the place with left and right exchanged.
func (a place) mirrored(size int) place {
	return place{row: a.row, column: size - 1 - a.column}
}

// turned returns the place after a quarter turn.
func (a place) turned(size int) place {
	return place{row: a.column, column: size - 1 - a.row}
}

// ValidPoint reports whether a number is a point of a board.
func ValidPoint(size int, p int) bool {
	return validSize(size) && 0 <= p && p < size*size
}

// validSize reports whether there are boards of a size.
func validSize(size int) bool {
	return 1 <= size && size <= MaxSize
}

// validSymmetry reports whether a number is that of a symmetry.
func validSymmetry(k int) bool {
	return 0 <= k && k < symmetryCount
}

// Neighbors returns the points next to a point.
func Neighbors(size int, p int) []int {
	if !ValidPoint(size, p) {
		return nil
	}
	at := placeOf(size, p)
	var next []int
	if at.row > 0 {
		next = append(next, p-size)
	}
	if at.column > 0 {
		next = append(next, p-1)
	}
	if at.column < size-1 {
		next = append(next, p+1)
	}
	if at.row < size-1 {
		next = append(next, p+size)
	}
	return next
}

// PointName returns the name of a point.
func PointName(size int, p int) string {
	if !ValidPoint(size, p) {
		return ""
	}
	at := placeOf(size, p)
	return string(rune('A'+at.column)) + strconv.Itoa(at.row+1)
}

// ParsePoint returns the point with a name.
func ParsePoint(size int, s string) int {
	if !validSize(size) {
		return -1
	}
	for p := range size * size {
		if PointName(size, p) == s {
			return p
		}
	}
	return -1
}

// TransformPoint returns the image of a point under a symmetry.
func TransformPoint(size int, k int, p int) int {
	if !ValidPoint(size, p) || !validSymmetry(k) {
		return -1
	}
	at := placeOf(size, p)
	if k >= turnCount {
		at = at.mirrored(size)
	}
	for range k % turnCount {
		at = at.turned(size)
	}
	return at.pointOn(size)
}

// imagesOf returns the images of all points of a board under a symmetry.
func imagesOf(size int, k int) []int {
	images := make([]int, size*size)
	for p := range images {
		images[p] = TransformPoint(size, k, p)
	}
	return images
}

// ComposeOf returns the symmetry that does what two others do.
func ComposeOf(a int, b int) int {
	if !validSymmetry(a) || !validSymmetry(b) {
		return -1
	}
	turns := b + a
	if b >= turnCount {
		// Mirroring after a turn is the opposite turn after mirroring.
		turns = b - a + symmetryCount
	}
	mirror := (a/turnCount + b/turnCount) % 2
	return mirror*turnCount + turns%turnCount
}
