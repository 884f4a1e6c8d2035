package tests

import (
	"math/rand"
	"slices"
	"testing"

	"loop.example/goboard/impl"
)

// diagonalTable has the diagonals of all points of boards of all sizes.
var diagonalTable = makePointTable(modelDiagonals)

// modelDiagonals returns the points one row and one column away, found by looking at all points.
func modelDiagonals(size int, p int) []int {
	var list []int
	for q := range pointsOf(size) {
		rows, columns := p/size-q/size, p%size-q%size
		if rows*rows == 1 && columns*columns == 1 {
			list = append(list, q)
		}
	}
	return list
}

// modelEnclosed reports whether a point is empty and has neighbours, all of which have a color.
func modelEnclosed(b impl.Board, p int, color int) bool {
	next := neighborTable[b.Size][p]
	for _, q := range next {
		if b.Cells[q] != color {
			return false
		}
	}
	return b.Cells[p] == impl.Empty && len(next) > 0
}

// modelEye reports whether a point is an eye of a color.
func modelEye(b impl.Board, p int, color int) bool {
	corners, lost := diagonalTable[b.Size][p], 0
	for _, q := range corners {
		if b.Cells[q] == 3-color {
			lost++
		}
	}
	return modelEnclosed(b, p, color) && (lost == 0 || lost == 1 && len(corners) == 4)
}

// modelColorRegions returns the sets of connected points that do not have a color.
func modelColorRegions(b impl.Board, color int) [][]int {
	flat := boardOf(b.Size, make([]int, len(b.Cells))...)
	for p, other := range b.Cells {
		if other == color {
			flat.Cells[p] = impl.Black
		}
	}
	return modelGroups(flat, impl.Empty)
}

// modelBelongs reports whether a region has a point next to a group, and whether it is vital for the group.
func modelBelongs(b impl.Board, group []int, region []int) (bool, bool) {
	belongs, open, far := false, 0, 0
	for _, p := range region {
		next := slices.ContainsFunc(neighborTable[b.Size][p], func(q int) bool { return slices.Contains(group, q) })
		belongs = belongs || next
		if b.Cells[p] == impl.Empty {
			open++
			if !next {
				far++
			}
		}
	}
	return belongs, open > 0 && far == 0
}

// modelLife is the life of the groups of a color, found by the words of the specification, and how many times something was removed.
type modelLife struct {
	groups, regions [][]int
	rounds          int
}

// modelAlive removes groups and regions again and again.
func modelAlive(b impl.Board, color int) modelLife {
	life := modelLife{groups: modelGroups(b, color), regions: modelColorRegions(b, color)}
	var removed [][]int
	for {
		var groups, regions [][]int
		for _, group := range life.groups {
			n := 0
			for _, region := range life.regions {
				if _, vital := modelBelongs(b, group, region); vital {
					n++
				}
			}
			if n < 2 {
				removed = append(removed, group)
			} else {
				groups = append(groups, group)
			}
		}
		next := func(region []int) func(group []int) bool {
			return func(group []int) bool {
				belongs, _ := modelBelongs(b, group, region)
				return belongs
			}
		}
		for _, region := range life.regions {
			if slices.ContainsFunc(groups, next(region)) && !slices.ContainsFunc(removed, next(region)) {
				regions = append(regions, region)
			}
		}
		if len(groups) == len(life.groups) && len(regions) == len(life.regions) {
			return life
		}
		life = modelLife{groups: groups, regions: regions, rounds: life.rounds + 1}
	}
}

// livingBoards returns boards on which one color has most of the stones, so that many of its groups live, in rings, in pairs, and with groups that do not.
func livingBoards() []impl.Board {
	var list []impl.Board
	mixed := rand.New(rand.NewSource(5))
	for size := 3; size <= impl.MaxSize; size++ {
		for i := range 240 {
			color, empty, foes := 1+i%2, 25+i%4*5, i%5*4
			cells := make([]int, pointsOf(size))
			for p := range cells {
				switch x := mixed.Intn(100); {
				case x < foes:
					cells[p] = 3 - color
				case x >= foes+empty:
					cells[p] = color
				}
			}
			list = append(list, boardOf(size, cells...))
		}
	}
	return list
}

// lifeBoards returns all boards of the sizes 1 and 2, some of size 3, mixed ones, and those on which many groups live.
func lifeBoards(t *testing.T) []impl.Board {
	t.Helper()
	return append(boardsByStep(t, 5), livingBoards()...)
}

// badLifeBoards returns boards that are not valid, with and without points that look like eyes.
func badLifeBoards() []impl.Board {
	list := badBoards()
	for _, size := range []int{2, 3, 4, 5, impl.MaxSize, impl.MaxSize + 1} {
		cells := slices.Repeat([]int{impl.Black}, pointsOf(size))
		cells[0], cells[pointsOf(size)-1] = impl.Empty, impl.Empty
		if size > impl.MaxSize {
			list = append(list, boardOf(size, cells...))
			continue
		}
		list = append(list, boardOf(-size, cells...), boardOf(size+1, cells...), boardOf(size-1, cells...), boardOf(size, append(slices.Clone(cells), impl.Black)...), boardOf(size, cells[:len(cells)-1]...))
		for _, color := range badColors {
			bad := slices.Clone(cells)
			bad[size+1] = color
			list = append(list, boardOf(size, bad...))
		}
	}
	return list
}
