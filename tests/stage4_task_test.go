package tests

import (
	"math"
	"reflect"
	"slices"
	"testing"

	"loop.example/goboard/impl"
)

// badTaskDepths are numbers that no task has as its depth.
var badTaskDepths = append([]int{impl.MaxTaskDepth + 1, impl.MaxTaskDepth + 2}, badDepths...)

// captureMoves returns CaptureMove for all depths.
func captureMoves(task impl.Task) []int {
	var list []int
	for depth := range impl.MaxTaskDepth + 1 {
		list = append(list, impl.CaptureMove(task, depth))
	}
	return list
}

// checkTask checks the moves of both players within MaxTaskDepth, and the smallest depth for which the attacker captures; 0 if there is none.
func checkTask(t *testing.T, task impl.Task, depth int, move int, saves ...int) {
	t.Helper()
	status := impl.StatusOpen
	switch {
	case depth == 0:
		status = impl.StatusAlive
	case len(saves) == 0:
		status = impl.StatusDead
	}
	if !impl.ValidTask(task) {
		t.Errorf("ValidTask(%v) is false", task)
	}
	moves := captureMoves(task)
	if first := 1 + slices.IndexFunc(moves[1:], func(p int) bool { return p != impl.Pass }); first != depth || moves[impl.MaxTaskDepth] != move {
		t.Errorf("CaptureMove(%v) = %v, not %d from depth %d on", task, moves, move, depth)
	}
	if got := impl.SaveMoves(task, impl.MaxTaskDepth); !slices.Equal(got, saves) {
		t.Errorf("SaveMoves(%v) = %v, not %v", task, got, saves)
	}
	if got := impl.StatusOf(task, impl.MaxTaskDepth); got != status {
		t.Errorf("StatusOf(%v) = %d, not %d", task, got, status)
	}
}

// TestTasks checks targets that are removed at once, that are saved by passing or by a stone only, and that are not saved.
func TestTasks(t *testing.T) {
	// Removed at once; saved by a stone, by none because it is not possible, and by none because it does not help.
	checkTask(t, boardTask(t, ".../.../XO./", 0, 3), 1, 3, 3)
	checkTask(t, boardTask(t, "O../.O./XO./", 0, 3), 1, 3)
	checkTask(t, boardTask(t, "O../.../XO./", 0, 3, 4), 1, 3)
	checkTask(t, boardTask(t, "X/", 0), 0, impl.Pass, impl.Pass)
	checkTask(t, boardTask(t, "XX/X./", 0, 1), 1, 1)
	// A group without liberties is removed by any stone.
	checkTask(t, boardTask(t, ".../OO./XO./", 0, 8), 1, 8, 8)
	checkTask(t, boardTask(t, ".../OO./XO./", 0, 6, 8), 1, 6)
	// Both answers save, and so does passing.
	checkTask(t, boardTask(t, ".../.../X../", 0, 1), 0, impl.Pass, impl.Pass, 1)
	// Two eyes: only passing saves, because each stone fills one of them.
	checkTask(t, boardTask(t, ".X.X/XXXX/OOOO/..../", 8, 12, 14), 0, impl.Pass, impl.Pass)
	// The attacker can begin at the second point only.
	checkTask(t, boardTask(t, ".X.O/XXXO/OOOO/..../", 8, 12, 14), 2, 14)
	// After the first stone only passing is possible.
	checkTask(t, boardTask(t, "O../.O./X.O/", 0, 1, 3), 2, 1)
	checkTask(t, boardTask(t, "O../.O./X../", 0, 1, 3), 2, 1, 1)
	checkTask(t, boardTask(t, ".../.OO/.X./", 1, 0, 2), 2, 0, 0)
	checkTask(t, boardTask(t, "..../..../..../X.../", 0, 1, 4, 5), 0, impl.Pass, impl.Pass, 1, 4, 5)
	// Several answers save.
	checkTask(t, boardTask(t, "OO./.X./OOO/", 7, 3, 5, 8), 3, 5, 3, 5, 8)
}

// TestTasksWithAnswersThatCapture checks tasks in which the defender removes stones of the attacker.
func TestTasksWithAnswersThatCapture(t *testing.T) {
	checkTask(t, boardTask(t, "../XX/", 0, 2, 3), 2, 2)
	checkTask(t, boardTask(t, "X./.O/", 1, 0, 2, 3), 3, 0)
	checkTask(t, boardTask(t, "../X./", 0, 1, 2, 3), 4, 3, 3)
	// White can only begin at C1, where Black takes back at D1, and the board is as before: that is allowed, and saves.
	ko := boardTask(t, "..../OOO./XXXO/.X.X/", 1, 0, 2, 3)
	checkTask(t, ko, 0, impl.Pass, impl.Pass)
	ko.Points = []int{0, 2}
	checkTask(t, ko, 2, 2)
}

// TestTasksByDepth checks all depths of tasks whose results depend on them.
func TestTasksByDepth(t *testing.T) {
	two := boardTask(t, "O../.O./X../", 0, 1, 3)
	four := boardTask(t, "../X./", 0, 1, 2, 3)
	eyes := boardTask(t, ".X.X/XXXX/OOOO/..../", 8, 12, 14)
	for _, x := range []struct {
		task  impl.Task
		moves []int
		saves [][]int
	}{
		{two, []int{impl.Pass, impl.Pass, 1, 1, 1}, [][]int{{impl.Pass, 1, 3}, {impl.Pass, 1}, {1}, {1}, {1}}},
		{four, []int{impl.Pass, impl.Pass, impl.Pass, impl.Pass, 3}, [][]int{{impl.Pass, 1, 2, 3}, {impl.Pass, 1, 2, 3}, {impl.Pass, 3}, {impl.Pass, 3}, {3}}},
		{eyes, []int{impl.Pass, impl.Pass, impl.Pass, impl.Pass, impl.Pass}, [][]int{{impl.Pass, 12, 14}, {impl.Pass}, {impl.Pass}, {impl.Pass}, {impl.Pass}}},
	} {
		if got := captureMoves(x.task); !slices.Equal(got, x.moves) {
			t.Errorf("CaptureMove(%v) = %v, not %v", x.task, got, x.moves)
		}
		for depth, saves := range x.saves {
			if got := impl.SaveMoves(x.task, depth); !slices.Equal(got, saves) {
				t.Errorf("SaveMoves(%v, %d) = %v, not %v", x.task, depth, got, saves)
			}
		}
	}
}

// TestTasksWithoutPoints checks that nobody can do anything but pass.
func TestTasksWithoutPoints(t *testing.T) {
	forGroups(boardsByStep(t, 29), func(b impl.Board, p int) {
		for _, points := range [][]int{nil, {}, {p}} {
			task := impl.Task{Board: b, Target: p, Points: points}
			checkTask(t, task, 0, impl.Pass, impl.Pass)
			if got := impl.StatusOf(task, 0); got != impl.StatusAlive {
				t.Errorf("StatusOf(%v, 0) = %d", task, got)
			}
		}
	})
}

// TestValidTask checks points of all kinds.
func TestValidTask(t *testing.T) {
	b := readText(t, "X.O/.X./O.X/")
	for _, x := range []struct {
		target int
		points []int
		want   bool
	}{
		{0, nil, true}, {2, []int{}, true}, {8, []int{0}, true}, {4, []int{8}, true}, {6, []int{4, 6}, true}, {0, []int{0, 1, 7, 8}, true}, {0, []int{5, 6, 7, 8}, true},
		{1, nil, false}, {3, []int{3}, false}, {9, nil, false}, {-1, nil, false}, {math.MaxInt, nil, false}, {math.MinInt, nil, false},
		{0, []int{-1}, false}, {0, []int{9}, false}, {0, []int{-1, 1}, false}, {0, []int{1, 9}, false}, {0, []int{1, math.MaxInt}, false}, {0, []int{math.MinInt, 1}, false},
		{0, []int{1, 1}, false}, {0, []int{3, 1}, false}, {0, []int{1, 3, 3}, false}, {0, []int{1, 5, 3}, false}, {0, []int{1, 3, 5, 5}, false}, {0, []int{1, 3, 7, 5}, false},
		{0, []int{1, 3, 5, 7, 8}, false}, {0, []int{0, 1, 2, 3, 4, 5, 6, 7, 8}, false}, {0, []int{1, 3, 5, 7, 7}, false}, {0, make([]int, 1000), false},
	} {
		if got := impl.ValidTask(impl.Task{Board: b, Target: x.target, Points: x.points}); got != x.want {
			t.Errorf("ValidTask of %d and %v is %v", x.target, x.points, got)
		}
	}
	for _, b := range badBoards() {
		for _, target := range []int{-1, 0, 1, 3, 24} {
			if impl.ValidTask(impl.Task{Board: b, Target: target}) {
				t.Errorf("ValidTask(size %d, %v, %d) is true", b.Size, b.Cells, target)
			}
		}
	}
}

// badTasks returns tasks that are not valid, most of which would be captures if they were.
func badTasks(t *testing.T) []impl.Task {
	t.Helper()
	dead := readText(t, "O../.O./XO./")
	var list []impl.Task
	for _, points := range [][]int{{3, 3}, {3, 2}, {3, 9}, {-1, 3}, {3, math.MaxInt}, {math.MinInt, 3}, {3, 5, 6, 7, 8}, {2, 3, 5, 7, 8, 9}, {2, 3, 5, 7, 7}, {5, 3}} {
		list = append(list, impl.Task{Board: dead, Target: 0, Points: points})
	}
	for _, target := range append(badPoints(3), 2, 3, 5, 7, 8) {
		list = append(list, impl.Task{Board: dead, Target: target, Points: []int{3}})
	}
	for _, color := range badColors {
		cells := slices.Clone(dead.Cells)
		cells[8] = color
		list = append(list, impl.Task{Board: boardOf(3, cells...), Target: 0, Points: []int{3}})
	}
	list = append(list, impl.Task{Board: boardOf(3, dead.Cells[:8]...), Points: []int{3}}, impl.Task{Board: boardOf(3, append(slices.Clone(dead.Cells), 0)...), Points: []int{3}}, impl.Task{Board: boardOf(2, dead.Cells...), Points: []int{3}})
	for _, b := range badBoards() {
		list = append(list, impl.Task{Board: b}, impl.Task{Board: b, Points: []int{0}}, impl.Task{Board: b, Target: 1, Points: []int{0}})
	}
	return list
}

// TestInvalidTasks checks the results for arguments that are not valid.
func TestInvalidTasks(t *testing.T) {
	check := func(task impl.Task, depth int) {
		t.Helper()
		if got := impl.CaptureMove(task, depth); got != impl.Pass {
			t.Errorf("CaptureMove(%v, %d) = %d", task, depth, got)
		}
		if got := impl.SaveMoves(task, depth); len(got) > 0 {
			t.Errorf("SaveMoves(%v, %d) = %v", task, depth, got)
		}
		if got := impl.StatusOf(task, depth); got != impl.StatusInvalid {
			t.Errorf("StatusOf(%v, %d) = %d", task, depth, got)
		}
	}
	for _, task := range badTasks(t) {
		if impl.ValidTask(task) {
			t.Errorf("ValidTask(%v) is true", task)
		}
		for _, depth := range append(badTaskDepths, 0, 1, 2, 3, impl.MaxTaskDepth) {
			check(task, depth)
		}
	}
	for _, task := range append(smallTasks(), largerTasks(20)...) {
		for _, depth := range badTaskDepths {
			check(task, depth)
		}
	}
}

// TestTaskModel checks all depths against a search that works from the boards at which the target is removed.
func TestTaskModel(t *testing.T) {
	var depths [impl.MaxTaskDepth + 1]int
	var passOnly, stoneOnly, dead int
	for _, task := range sampleTasks() {
		fight := newModelFight(task)
		depths[fight.depth()]++
		for depth := range impl.MaxTaskDepth + 1 {
			saves := fight.saves(0, depth)
			if got := impl.CaptureMove(task, depth); got != fight[0].first[depth] {
				t.Fatalf("CaptureMove(%v, %d) = %d, not %d", task, depth, got, fight[0].first[depth])
			}
			if got := impl.SaveMoves(task, depth); !slices.Equal(got, saves) {
				t.Fatalf("SaveMoves(%v, %d) = %v, not %v", task, depth, got, saves)
			}
			if got := impl.StatusOf(task, depth); got != fight.status(depth) {
				t.Fatalf("StatusOf(%v, %d) = %d, not %d", task, depth, got, fight.status(depth))
			}
			switch {
			case len(saves) == 0:
				dead++
			case saves[0] != impl.Pass:
				stoneOnly++
			case len(saves) == 1 && len(fight[0].replies) > 1:
				passOnly++
			}
		}
	}
	for depth, least := range []int{3000, 1500, 200, 20, 15} {
		if depths[depth] < least {
			t.Errorf("only %d tasks of depth %d", depths[depth], depth)
		}
	}
	if passOnly < 100 || stoneOnly < 2000 || dead < 1000 {
		t.Errorf("%d times only passing saves, %d times only a stone, and %d times nothing", passOnly, stoneOnly, dead)
	}
}

// TestP55TasksCanLosePoints checks promise 55.
func TestP55TasksCanLosePoints(t *testing.T) {
	for _, task := range sampleTasks() {
		if !impl.ValidTask(task) {
			t.Fatalf("ValidTask(%v) is false", task)
		}
		for set := range 1 << len(task.Points) {
			var points []int
			for i, p := range task.Points {
				if set>>i&1 == 1 {
					points = append(points, p)
				}
			}
			if !impl.ValidTask(impl.Task{Board: task.Board, Target: task.Target, Points: points}) {
				t.Fatalf("ValidTask(%v) is false with the points %v", task, points)
			}
		}
	}
}

// afterMove returns a task after a stone at a point, and whether the target is removed by it.
func afterMove(t *testing.T, task impl.Task, color int, p int) (impl.Task, bool) {
	t.Helper()
	after, removed, ok := impl.PlayStone(task.Board, color, p, false)
	if !ok || !slices.Contains(task.Points, p) {
		t.Fatalf("%v: a stone of color %d at %d is not possible", task, color, p)
	}
	return impl.Task{Board: after, Target: task.Target, Points: task.Points}, slices.Contains(removed, task.Target)
}

// TestP56CapturesCanBeForced checks promise 56.
func TestP56CapturesCanBeForced(t *testing.T) {
	forTasks(sampleTasks(), func(task impl.Task, depth int) {
		move := impl.CaptureMove(task, depth)
		if move == impl.Pass {
			return
		}
		next, captured := afterMove(t, task, 3-task.Board.Cells[task.Target], move)
		if captured {
			return
		}
		if saves := impl.SaveMoves(next, depth-1); len(saves) > 0 || impl.StatusOf(next, depth-1) == impl.StatusAlive {
			t.Fatalf("CaptureMove(%v, %d) = %d, but then %v saves", task, depth, move, saves)
		}
	})
}

// TestP57MoreStonesCaptureMore checks promise 57.
func TestP57MoreStonesCaptureMore(t *testing.T) {
	for _, task := range sampleTasks() {
		moves := captureMoves(task)
		if moves[0] != impl.Pass {
			t.Fatalf("CaptureMove(%v, 0) = %d", task, moves[0])
		}
		for depth := 1; depth < len(moves); depth++ {
			if moves[depth] == impl.Pass && moves[depth-1] != impl.Pass {
				t.Fatalf("CaptureMove(%v) = %v", task, moves)
			}
		}
	}
}

// TestP58AnswersThatSaveKeepTheTarget checks promise 58.
func TestP58AnswersThatSaveKeepTheTarget(t *testing.T) {
	forTasks(sampleTasks(), func(task impl.Task, depth int) {
		saves := impl.SaveMoves(task, depth)
		if slices.Contains(saves, impl.Pass) != (impl.CaptureMove(task, depth) == impl.Pass) {
			t.Fatalf("SaveMoves(%v, %d) = %v, CaptureMove = %d", task, depth, saves, impl.CaptureMove(task, depth))
		}
		for i, move := range saves {
			if i > 0 && move <= saves[i-1] {
				t.Fatalf("SaveMoves(%v, %d) = %v", task, depth, saves)
			}
			if move == impl.Pass {
				continue
			}
			next, _ := afterMove(t, task, task.Board.Cells[task.Target], move)
			if got := impl.CaptureMove(next, depth); got != impl.Pass {
				t.Fatalf("SaveMoves(%v, %d) = %v, but %d captures after %d", task, depth, saves, got, move)
			}
		}
	})
}

// TestP59TheStatusSaysWhoWins checks promise 59.
func TestP59TheStatusSaysWhoWins(t *testing.T) {
	forTasks(sampleTasks(), func(task impl.Task, depth int) {
		want := impl.StatusDead
		if len(impl.SaveMoves(task, depth)) > 0 {
			want = impl.StatusOpen
		}
		if impl.CaptureMove(task, depth) == impl.Pass {
			want = impl.StatusAlive
		}
		if got := impl.StatusOf(task, depth); got != want {
			t.Fatalf("StatusOf(%v, %d) = %d, not %d", task, depth, got, want)
		}
	})
}

// TestP60DeeperSearchFindsMoreDead checks promise 60.
func TestP60DeeperSearchFindsMoreDead(t *testing.T) {
	forTasks(sampleTasks(), func(task impl.Task, depth int) {
		if depth > 0 && impl.StatusOf(task, depth) > impl.StatusOf(task, depth-1) {
			t.Fatalf("StatusOf(%v, %d) = %d, and with less depth %d", task, depth, impl.StatusOf(task, depth), impl.StatusOf(task, depth-1))
		}
	})
}

// TestP147ColorsAreTreatedAlike checks promise 147, and the same for the moves.
func TestP147ColorsAreTreatedAlike(t *testing.T) {
	forTasks(sampleTasks(), func(task impl.Task, depth int) {
		other := impl.Task{Board: impl.InvertBoard(task.Board), Target: task.Target, Points: task.Points}
		if got := impl.StatusOf(other, depth); got != impl.StatusOf(task, depth) {
			t.Fatalf("StatusOf(%v, %d) = %d, and with colors exchanged %d", task, depth, impl.StatusOf(task, depth), got)
		}
		if impl.CaptureMove(other, depth) != impl.CaptureMove(task, depth) || !slices.Equal(impl.SaveMoves(other, depth), impl.SaveMoves(task, depth)) {
			t.Fatalf("CaptureMove or SaveMoves of %v differ with colors exchanged", task)
		}
	})
}

// TestTasksAreFresh checks that tasks and proofs are unchanged and share no memory with results, and that a second call returns the same.
func TestTasksAreFresh(t *testing.T) {
	for _, task := range largerTasks(60) {
		b, cells := withSpare(task.Board)
		points := slices.Grow(slices.Clone(task.Points), 8)
		given := impl.Task{Board: b, Target: task.Target, Points: points}
		cellsBefore, pointsBefore := slices.Clone(cells), slices.Clone(points[:cap(points)])
		for depth := range impl.MaxTaskDepth + 1 {
			saves, proof := impl.SaveMoves(given, depth), impl.MakeProof(given, depth)
			wantSaves, wantProof := slices.Clone(saves), slices.Clone(proof)
			checked := slices.Grow(slices.Clone(proof), 4)
			status := impl.StatusOf(given, depth)
			spoil(saves)
			spoil(proof)
			if accepted := impl.CheckProof(given, depth, checked); accepted != (len(wantProof) > 0) || !slices.Equal(checked, wantProof) {
				t.Fatalf("CheckProof(%v, %d, %v) is %v and leaves %v", task, depth, wantProof, accepted, checked)
			}
			if !slices.Equal(impl.SaveMoves(given, depth), wantSaves) || !slices.Equal(impl.MakeProof(given, depth), wantProof) || impl.StatusOf(given, depth) != status {
				t.Fatalf("%v has other results after they were overwritten", task)
			}
		}
		if !reflect.DeepEqual(cells, cellsBefore) || !slices.Equal(points[:cap(points)], pointsBefore) {
			t.Fatalf("%v is changed to %v", task, given)
		}
	}
}
