package tests

import (
	"math/rand"
	"slices"
	"testing"

	"loop.example/goboard/impl"
)

// modelLadder returns all points at which a ladder begins within a depth, by the words of the specification.
func modelLadder(b impl.Board, p int, depth int) []int {
	liberties := modelLiberties(b, modelGroup(b, p))
	var list []int
	for _, q := range liberties {
		after, _, ok := modelPlay(b, 3-b.Cells[p], q, false)
		if !ok || len(liberties) > 2 {
			continue
		}
		if len(liberties) == 1 || len(modelLiberties(after, modelGroup(after, p))) == 1 && !modelEscapes(after, p, depth-1) {
			list = append(list, q)
		}
	}
	return list
}

// modelEscapes reports whether an answer for a group with one liberty does not fail.
func modelEscapes(b impl.Board, p int, depth int) bool {
	liberty := modelLiberties(b, modelGroup(b, p))[0]
	for q := range b.Cells {
		after, removed, ok := modelPlay(b, b.Cells[p], q, false)
		if !ok || q != liberty && len(removed) == 0 {
			continue
		}
		if depth == 0 || len(modelLadder(after, p, depth)) == 0 {
			return true
		}
	}
	return false
}

// modelLadderDepth returns the smallest depth of a ladder.
func modelLadderDepth(b impl.Board, p int) int {
	for depth := 1; depth <= impl.MaxDepth; depth++ {
		if len(modelLadder(b, p, depth)) > 0 {
			return depth
		}
	}
	return 0
}

// mixedBoard returns a board on which some of a hundred points have stones.
func mixedBoard(mixed *rand.Rand, size int, stones int) impl.Board {
	cells := make([]int, pointsOf(size))
	for p := range cells {
		if mixed.Intn(100) < stones {
			cells[p] = 1 + mixed.Intn(2)
		}
	}
	return boardOf(size, cells...)
}

// longLadder is a board on which the stone at point 6 is captured in a ladder with six moves.
const longLadder = "...../...../...../OX.../.OO../"

// ladderBoards returns boards of all sizes with many groups that have one or two liberties, and long ladders with stones in their way.
func ladderBoards(t *testing.T) []impl.Board {
	t.Helper()
	list := boardsByStep(t, 19)
	mixed := rand.New(rand.NewSource(9))
	for i := range 60 {
		b := readText(t, longLadder)
		for range i % 3 {
			b.Cells[mixed.Intn(len(b.Cells))] = mixed.Intn(3)
		}
		list = append(list, b)
	}
	for size := 3; size <= impl.MaxSize; size++ {
		for i := range 120 {
			list = append(list, mixedBoard(mixed, size, 25+i%9*5))
		}
	}
	return list
}

// forGroups calls a function for the first stone of each group of some boards.
func forGroups(boards []impl.Board, f func(b impl.Board, p int)) {
	for _, b := range boards {
		for color := impl.Black; color <= impl.White; color++ {
			for _, group := range modelGroups(b, color) {
				f(b, group[0])
			}
		}
	}
}

// modelEdge is a move of a task: a point or Pass, whether it removes the target, and the number of the board after it.
type modelEdge struct {
	move     int
	captured bool
	to       int
}

// modelNode is a board of a task with the moves of both players, and for each depth the first point that captures, or Pass.
type modelNode struct {
	attacks []modelEdge
	replies []modelEdge
	first   [impl.MaxTaskDepth + 1]int
}

// modelFight is all boards of a task, the first one being that of the task.
type modelFight []modelNode

// cellsKey returns a text that tells the cells of a board.
func cellsKey(b impl.Board) string {
	text := make([]byte, len(b.Cells))
	for p, color := range b.Cells {
		text[p] = byte(color)
	}
	return string(text)
}

// newModelFight finds all boards of a task, and then, depth by depth, from which of them the attacker captures.
func newModelFight(task impl.Task) modelFight {
	boards := []impl.Board{task.Board}
	number := map[string]int{cellsKey(task.Board): 0}
	numberOf := func(b impl.Board) int {
		key := cellsKey(b)
		if _, found := number[key]; !found {
			number[key] = len(boards)
			boards = append(boards, b)
		}
		return number[key]
	}
	defender := task.Board.Cells[task.Target]
	var fight modelFight
	for i := 0; i < len(boards); i++ {
		node := modelNode{replies: []modelEdge{{move: impl.Pass, to: i}}}
		for _, p := range task.Points {
			if after, removed, ok := modelPlay(boards[i], 3-defender, p, false); ok {
				edge := modelEdge{move: p, captured: slices.Contains(removed, task.Target)}
				if !edge.captured {
					edge.to = numberOf(after)
				}
				node.attacks = append(node.attacks, edge)
			}
			if after, _, ok := modelPlay(boards[i], defender, p, false); ok {
				node.replies = append(node.replies, modelEdge{move: p, to: numberOf(after)})
			}
		}
		fight = append(fight, node)
	}
	for depth := range impl.MaxTaskDepth + 1 {
		for i := range fight {
			fight[i].first[depth] = fight.firstCapture(i, depth)
		}
	}
	return fight
}

// firstCapture returns the first point that captures, if those for smaller depths are known already.
func (f modelFight) firstCapture(i int, depth int) int {
	for _, edge := range f[i].attacks {
		if depth > 0 && (edge.captured || len(f.saves(edge.to, depth-1)) == 0) {
			return edge.move
		}
	}
	return impl.Pass
}

// saves returns the answers that keep the target.
func (f modelFight) saves(i int, depth int) []int {
	var list []int
	for _, edge := range f[i].replies {
		if f[edge.to].first[depth] == impl.Pass {
			list = append(list, edge.move)
		}
	}
	return list
}

// status returns the status of the target.
func (f modelFight) status(depth int) int {
	if f[0].first[depth] == impl.Pass {
		return impl.StatusAlive
	}
	if len(f.saves(0, depth)) > 0 {
		return impl.StatusOpen
	}
	return impl.StatusDead
}

// depth returns the smallest depth for which the attacker captures; 0 if there is none.
func (f modelFight) depth() int {
	for depth, move := range f[0].first {
		if move != impl.Pass {
			return depth
		}
	}
	return 0
}

// proof returns the proof with the first points that capture.
func (f modelFight) proof(i int, depth int) []int {
	var list []int
	for _, edge := range f[i].attacks {
		if edge.move != f[i].first[depth] {
			continue
		}
		list = append(list, edge.move)
		if edge.captured {
			break
		}
		for _, reply := range f[edge.to].replies {
			list = append(list, f.proof(reply.to, depth-1)...)
		}
	}
	return list
}

// proofs returns all proofs for a board.
func (f modelFight) proofs(i int, depth int) [][]int {
	var list [][]int
	for _, edge := range f[i].attacks {
		if depth == 0 {
			break
		}
		parts := [][]int{{edge.move}}
		if !edge.captured {
			for _, reply := range f[edge.to].replies {
				parts = joined(parts, f.proofs(reply.to, depth-1))
			}
		}
		list = append(list, parts...)
	}
	return list
}

// rest returns what is left of a list after the proof for a board at its beginning, if there is one.
func (f modelFight) rest(i int, depth int, list []int) ([]int, bool) {
	if depth == 0 || len(list) == 0 {
		return nil, false
	}
	for _, edge := range f[i].attacks {
		if edge.move != list[0] {
			continue
		}
		list = list[1:]
		if edge.captured {
			return list, true
		}
		for _, reply := range f[edge.to].replies {
			var ok bool
			if list, ok = f.rest(reply.to, depth-1, list); !ok {
				return nil, false
			}
		}
		return list, true
	}
	return nil, false
}

// accepts reports whether a list is a proof for the board of the task.
func (f modelFight) accepts(depth int, list []int) bool {
	left, ok := f.rest(0, depth, list)
	return ok && len(left) == 0
}

// mixedProof returns a proof with any points that capture; the board is one from which the attacker captures.
func (f modelFight) mixedProof(mixed *rand.Rand, i int, depth int) []int {
	var good []modelEdge
	for _, edge := range f[i].attacks {
		if edge.captured || len(f.saves(edge.to, depth-1)) == 0 {
			good = append(good, edge)
		}
	}
	edge := good[mixed.Intn(len(good))]
	list := []int{edge.move}
	if !edge.captured {
		for _, reply := range f[edge.to].replies {
			list = append(list, f.mixedProof(mixed, reply.to, depth-1)...)
		}
	}
	return list
}

// joined returns each of some lists followed by each of some other lists.
func joined(heads [][]int, tails [][]int) [][]int {
	var list [][]int
	for _, head := range heads {
		for _, tail := range tails {
			list = append(list, slices.Concat(head, tail))
		}
	}
	return list
}

// mixedTarget returns a stone of a board, more often one whose group has few liberties; -1 if there is none.
func mixedTarget(mixed *rand.Rand, b impl.Board) int {
	best, fewest := -1, len(b.Cells)
	for range 8 {
		p := mixed.Intn(len(b.Cells))
		if b.Cells[p] == impl.Empty {
			continue
		}
		if n := len(modelLiberties(b, modelGroup(b, p))); n > 0 && n < fewest || best < 0 {
			best, fewest = p, n
		}
	}
	return best
}

// mixedPoints returns points of a board, most of which are liberties of the group of a stone or next to them.
func mixedPoints(mixed *rand.Rand, b impl.Board, target int) []int {
	liberties := modelLiberties(b, modelGroup(b, target))
	mixed.Shuffle(len(liberties), func(i, j int) { liberties[i], liberties[j] = liberties[j], liberties[i] })
	points := liberties[:min(len(liberties), 1+mixed.Intn(impl.MaxTaskPoints))]
	near := slices.Clone(liberties)
	for _, p := range liberties {
		near = append(near, modelNeighbors(b.Size, p)...)
	}
	for len(points) < impl.MaxTaskPoints && mixed.Intn(5) > 0 {
		p := mixed.Intn(len(b.Cells))
		if len(near) > 0 && mixed.Intn(6) > 0 {
			p = near[mixed.Intn(len(near))]
		}
		if !slices.Contains(points, p) {
			points = append(points, p)
		}
	}
	slices.Sort(points)
	return points
}

// smallTasks returns tasks on all boards of the sizes 1 and 2, with all targets and points.
func smallTasks() []impl.Task {
	var list []impl.Task
	for size, count := range []int{0, 3, 81} {
		for n := range count {
			b := numberedBoard(size, n)
			for target, color := range b.Cells {
				for set := range 1 << len(b.Cells) {
					if color == impl.Empty {
						continue
					}
					var points []int
					for p := range b.Cells {
						if set>>p&1 == 1 {
							points = append(points, p)
						}
					}
					list = append(list, impl.Task{Board: b, Target: target, Points: points})
				}
			}
		}
	}
	return list
}

// largerTasks returns tasks on mixed boards of the sizes 3 and more.
func largerTasks(each int) []impl.Task {
	var list []impl.Task
	mixed := rand.New(rand.NewSource(11))
	for size := 3; size <= impl.MaxSize; size++ {
		for i := range each {
			b := mixedBoard(mixed, size, 25+i%11*6)
			if target := mixedTarget(mixed, b); target >= 0 {
				list = append(list, impl.Task{Board: b, Target: target, Points: mixedPoints(mixed, b, target)})
			}
		}
	}
	return list
}

// sampleTasks returns tasks on boards of all sizes.
func sampleTasks() []impl.Task {
	return append(smallTasks(), largerTasks(600)...)
}

// forTasks calls a function for tasks and all depths.
func forTasks(tasks []impl.Task, f func(task impl.Task, depth int)) {
	for _, task := range tasks {
		for depth := range impl.MaxTaskDepth + 1 {
			f(task, depth)
		}
	}
}

// boardTask returns the task on the board with a text.
func boardTask(t *testing.T, text string, target int, points ...int) impl.Task {
	t.Helper()
	return impl.Task{Board: readText(t, text), Target: target, Points: points}
}
