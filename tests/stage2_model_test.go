package tests

import (
	"math/rand"
	"slices"
	"testing"

	"loop.example/goboard/impl"
)

// boardsByStep returns the sample boards, and one of step boards of size 3.
func boardsByStep(t *testing.T, step int) []impl.Board {
	t.Helper()
	list := sampleBoards(t)
	for n := 0; n < 19683; n += step {
		list = append(list, numberedBoard(3, n))
	}
	return list
}

// neighborTable has the neighbours of all points of boards of all sizes.
var neighborTable = makePointTable(modelNeighbors)

// makePointTable returns the lists of points that belong to all points, by size and point.
func makePointTable(listOf func(size int, p int) []int) [impl.MaxSize + 1][][]int {
	var table [impl.MaxSize + 1][][]int
	forSizes(func(size int) {
		for p := range pointsOf(size) {
			table[size] = append(table[size], listOf(size, p))
		}
	})
	return table
}

// modelBreathes reports whether the group of a stone has a liberty, found by walking over its stones.
func modelBreathes(b impl.Board, p int) bool {
	var seen [impl.MaxSize * impl.MaxSize]bool
	var walk func(q int) bool
	walk = func(q int) bool {
		seen[q] = true
		for _, r := range neighborTable[b.Size][q] {
			if b.Cells[r] == impl.Empty {
				return true
			}
			if b.Cells[r] == b.Cells[p] && !seen[r] && walk(r) {
				return true
			}
		}
		return false
	}
	return walk(p)
}

// modelChoked returns the stones of a color whose groups have no liberty.
func modelChoked(b impl.Board, color int) []int {
	var list []int
	for p := range b.Cells {
		if b.Cells[p] == color && !modelBreathes(b, p) {
			list = append(list, p)
		}
	}
	return list
}

// modelPlay places a stone by the words of the rules.
func modelPlay(b impl.Board, color int, p int, suicide bool) (impl.Board, []int, bool) {
	if b.Cells[p] != impl.Empty {
		return impl.Board{}, nil, false
	}
	after := boardOf(b.Size, slices.Clone(b.Cells)...)
	after.Cells[p] = color
	removed := modelChoked(after, 3-color)
	for _, q := range removed {
		after.Cells[q] = impl.Empty
	}
	if !modelBreathes(after, p) {
		if !suicide {
			return impl.Board{}, nil, false
		}
		own := modelChoked(after, color)
		for _, q := range own {
			after.Cells[q] = impl.Empty
		}
		removed = append(removed, own...)
	}
	slices.Sort(removed)
	return after, removed, true
}

// modelGame is all boards of a game: the one at the beginning, and the one after each move.
type modelGame []impl.Board

// newModelGame returns a game without moves.
func newModelGame(size int) modelGame {
	return modelGame{boardOf(size, make([]int, pointsOf(size))...)}
}

// last returns the board at the end.
func (g modelGame) last() impl.Board {
	return g[len(g)-1]
}

// color returns the color of the player to move.
func (g modelGame) color() int {
	return []int{impl.White, impl.Black}[len(g)%2]
}

// next returns the board after one more move, if that is allowed.
func (g modelGame) next(r impl.Rules, move int) (impl.Board, bool) {
	if move == -1 {
		return g.last(), true
	}
	after, _, ok := modelPlay(g.last(), g.color(), move, r.Suicide)
	if !ok {
		return impl.Board{}, false
	}
	for i, earlier := range g {
		if !sameBoard(earlier, after) {
			continue
		}
		// After i moves the same player is to move as after len(g) moves if both are even or both odd.
		sameTurn := i%2 == len(g)%2
		beforeOpponent := i == len(g)-2
		if r.Ko == impl.KoPositional || r.Ko == impl.KoSituational && sameTurn || r.Ko == impl.KoSimple && beforeOpponent {
			return impl.Board{}, false
		}
	}
	return after, true
}

// points returns the points at which the next stone is allowed.
func (g modelGame) points(r impl.Rules) []int {
	var list []int
	for p := range pointsOf(r.Size) {
		if _, ok := g.next(r, p); ok {
			list = append(list, p)
		}
	}
	return list
}

// modelReplay returns the game up to the first move that is not allowed, and the index of that move, or -1.
func modelReplay(r impl.Rules, moves []int) (modelGame, int) {
	g := newModelGame(r.Size)
	for i, move := range moves {
		after, ok := g.next(r, move)
		if !ok {
			return g, i
		}
		g = append(g, after)
	}
	return g, -1
}

// allRules returns all rules for boards of a size.
func allRules(size int) []impl.Rules {
	var list []impl.Rules
	for _, ko := range []int{impl.KoSimple, impl.KoPositional, impl.KoSituational} {
		list = append(list, impl.Rules{Size: size, Ko: ko}, impl.Rules{Size: size, Ko: ko, Suicide: true})
	}
	return list
}

// mixedMoves returns n moves that are allowed, with some passes among them.
func mixedMoves(mixed *rand.Rand, r impl.Rules, n int) []int {
	var moves []int
	g := newModelGame(r.Size)
	for range n {
		move := -1
		points := g.points(r)
		if len(points) > 0 && mixed.Intn(8) > 0 {
			move = points[mixed.Intn(len(points))]
		}
		after, _ := g.next(r, move)
		g = append(g, after)
		moves = append(moves, move)
	}
	return moves
}

// modelRegions returns the sets of connected empty points.
func modelRegions(b impl.Board) [][]int {
	return modelGroups(b, impl.Empty)
}

// modelTerritory returns the territory of a color.
func modelTerritory(b impl.Board, color int) []int {
	var list []int
	for _, region := range modelRegions(b) {
		var next [3]bool
		for _, p := range region {
			for _, q := range neighborTable[b.Size][p] {
				next[b.Cells[q]] = true
			}
		}
		if next[color] && !next[3-color] {
			list = append(list, region...)
		}
	}
	slices.Sort(list)
	return list
}

// modelDead reports whether points ascend and are stones of whole groups.
func modelDead(b impl.Board, dead []int) bool {
	for i, p := range dead {
		if p < 0 || p >= len(b.Cells) || b.Cells[p] == impl.Empty || i > 0 && p <= dead[i-1] {
			return false
		}
	}
	for _, p := range dead {
		for _, q := range modelGroup(b, p) {
			if !slices.Contains(dead, q) {
				return false
			}
		}
	}
	return true
}

// modelCount returns the number of points with a color.
func modelCount(b impl.Board, color int) int {
	n := 0
	for _, c := range b.Cells {
		if c == color {
			n++
		}
	}
	return n
}
