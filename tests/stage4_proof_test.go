package tests

import (
	"math"
	"math/rand"
	"slices"
	"testing"

	"loop.example/goboard/impl"
)

// checkProofs checks MakeProof, and lists that are proofs and that are none.
func checkProofs(t *testing.T, task impl.Task, depth int, proof []int, good [][]int, bad [][]int) {
	t.Helper()
	if got := impl.MakeProof(task, depth); !slices.Equal(got, proof) {
		t.Errorf("MakeProof(%v, %d) = %v, not %v", task, depth, got, proof)
	}
	if len(proof) > 0 {
		good = append(good, proof)
	}
	for _, list := range good {
		if !impl.CheckProof(task, depth, list) {
			t.Errorf("CheckProof(%v, %d, %v) is false", task, depth, list)
		}
	}
	for _, list := range bad {
		if impl.CheckProof(task, depth, list) {
			t.Errorf("CheckProof(%v, %d, %v) is true", task, depth, list)
		}
	}
}

// TestProofs checks proofs that are too short or too long, that name other points, and that are not those of MakeProof.
func TestProofs(t *testing.T) {
	one := boardTask(t, "O../.O./XO./", 0, 3)
	for depth := 1; depth <= impl.MaxTaskDepth; depth++ {
		checkProofs(t, one, depth, []int{3}, nil, [][]int{nil, {}, {4}, {5}, {0}, {impl.Pass}, {3, 3}, {3, impl.Pass}, {impl.Pass, 3}, {5, 3}, {9}, {math.MaxInt}, {math.MinInt}, make([]int, 1000)})
	}
	checkProofs(t, one, 0, nil, nil, [][]int{nil, {3}})
	two := boardTask(t, "O../.O./X.O/", 0, 1, 3)
	for depth := 2; depth <= impl.MaxTaskDepth; depth++ {
		checkProofs(t, two, depth, []int{1, 3}, [][]int{{3, 1}}, [][]int{nil, {1}, {3}, {1, 1}, {3, 3}, {1, 3, 1}, {1, 3, 3}, {1, 1, 3}, {3, 1, 3}, {1, 4}, {1, 2}, {1, 8, 3}, {1, impl.Pass, 3}, {1, 3, impl.Pass}})
	}
	checkProofs(t, two, 1, nil, nil, [][]int{nil, {1}, {3}, {1, 3}, {3, 1}})
	// Here Black escapes at the other point.
	checkProofs(t, boardTask(t, "O../.O./X../", 0, 1, 3), 2, []int{1, 3}, nil, [][]int{{3, 1}, {3, 1, 1}, {3, 1, 3}})
	// The attacker's stone is not possible at the first point.
	checkProofs(t, boardTask(t, ".X.O/XXXO/OOOO/..../", 8, 12, 14), 2, []int{14, 12}, nil, [][]int{{12}, {12, 14}, {14}, {14, 14}, {14, 12, 12}, {14, 12, 14}, {14, 14, 12}})
	// There is nothing to prove.
	for depth := range impl.MaxTaskDepth + 1 {
		checkProofs(t, boardTask(t, ".../.../XO./", 0), depth, nil, nil, [][]int{nil, {3}, {impl.Pass}, {0}})
		checkProofs(t, boardTask(t, ".X.X/XXXX/OOOO/..../", 8, 12, 14), depth, nil, nil, [][]int{nil, {12}, {14}, {12, 14}, {14, 12}, {12, 12, 14}})
	}
}

// TestProofsByDepth checks that the first point is taken that is good enough for the depth, and that proofs within a depth are proofs within greater ones.
func TestProofsByDepth(t *testing.T) {
	three := boardTask(t, "O../.O./X../", 0, 1, 2, 3)
	// After 1 there are two answers, passing and 2, and the target is removed at 3.
	checkProofs(t, three, 2, []int{1, 3, 3}, [][]int{{3, 1, 2, 1}}, [][]int{{1, 2, 3, 3}, {1, 3}, {1, 3, 3, 3}, {1, 3, 2}, {3, 1, 1}, {3, 1, 1, 2}})
	// With more depth the attacker may play at 2 before that.
	checkProofs(t, three, impl.MaxTaskDepth, []int{1, 2, 3, 3}, [][]int{{1, 3, 3}, {3, 1, 2, 1}, {3, 2, 1, 2, 1}}, [][]int{{1, 2, 3}, {1, 2, 3, 3, 3}, {1, 3}, {1, 2, 2, 3}, {1, 2, 3, 2}, {1, 2, 3, 1}})
	four := boardTask(t, "../X./", 0, 1, 2, 3)
	checkProofs(t, four, 4, []int{3, 1, 2, 1, 3, 1, 2, 1}, nil, [][]int{{3, 1, 2, 1, 3, 1, 2}, {1, 2, 3}, {3, 1, 2, 1, 3, 1, 2, 1, 1}, {3, 1, 2, 1, 1, 3, 1, 2, 1}})
	checkProofs(t, four, 3, nil, nil, [][]int{nil, {3, 1, 2, 1, 3, 1, 2, 1}})
}

// TestProofsWithAPointAhead checks a list that is a proof with one point more at its beginning, because it is the proof of another first move.
func TestProofsWithAPointAhead(t *testing.T) {
	task := boardTask(t, ".../OO./X.O/", 0, 1, 8)
	checkProofs(t, task, 1, []int{1}, nil, [][]int{{8, 1}, {1, 8}, {8}})
	checkProofs(t, task, 2, []int{1}, [][]int{{8, 1}}, [][]int{{1, 8}, {8}, {8, 8}, {1, 1}, {8, 8, 1}, {8, 1, 1}})
}

// TestInvalidProofs checks the results for arguments that are not valid.
func TestInvalidProofs(t *testing.T) {
	check := func(task impl.Task, depth int, proof []int) {
		t.Helper()
		if got := impl.MakeProof(task, depth); len(got) > 0 {
			t.Errorf("MakeProof(%v, %d) = %v", task, depth, got)
		}
		if impl.CheckProof(task, depth, proof) {
			t.Errorf("CheckProof(%v, %d, %v) is true", task, depth, proof)
		}
	}
	for _, task := range badTasks(t) {
		for _, proof := range [][]int{nil, {0}, {3}, {2, 3, 3}} {
			for _, depth := range append(badTaskDepths, 0, 1, 2, impl.MaxTaskDepth) {
				check(task, depth, proof)
			}
		}
	}
	for _, task := range append(smallTasks(), largerTasks(20)...) {
		for _, depth := range badTaskDepths {
			check(task, depth, nil)
			check(task, depth, impl.MakeProof(task, impl.MaxTaskDepth))
		}
	}
}

// TestProofModel checks MakeProof of all tasks, and mixed proofs and lists that are nearly proofs.
func TestProofModel(t *testing.T) {
	mixed := rand.New(rand.NewSource(13))
	different, refused := 0, 0
	forTasks(sampleTasks(), func(task impl.Task, depth int) {
		fight := newModelFight(task)
		proof := fight.proof(0, depth)
		if got := impl.MakeProof(task, depth); !slices.Equal(got, proof) {
			t.Fatalf("MakeProof(%v, %d) = %v, not %v", task, depth, got, proof)
		}
		if len(proof) == 0 {
			return
		}
		for range 3 {
			other := fight.mixedProof(mixed, 0, depth)
			if !impl.CheckProof(task, depth, other) {
				t.Fatalf("CheckProof(%v, %d, %v) is false", task, depth, other)
			}
			if !slices.Equal(other, proof) {
				different++
			}
			at := mixed.Intn(len(other))
			some := append(slices.Clone(task.Points), impl.Pass, mixed.Intn(len(task.Board.Cells)))
			other[at] = some[mixed.Intn(len(some))]
			if got := impl.CheckProof(task, depth, other); got != fight.accepts(depth, other) {
				t.Fatalf("CheckProof(%v, %d, %v) is %v", task, depth, other, got)
			} else if !got {
				refused++
			}
		}
	})
	if different < 1000 || refused < 5000 {
		t.Errorf("only %d proofs that are not those of MakeProof, and %d lists that are none", different, refused)
	}
}

// allLists returns all lists of at most a number of points out of some.
func allLists(points []int, most int) [][]int {
	list := [][]int{nil}
	for from := 0; most > 0; most-- {
		longer := joined(list[from:], allSingle(points))
		from = len(list)
		list = append(list, longer...)
	}
	return list
}

// allSingle returns a list with each of some points alone.
func allSingle(points []int) [][]int {
	var list [][]int
	for _, p := range points {
		list = append(list, []int{p})
	}
	return list
}

// TestProofsAmongAllLists checks all short lists of points of a task and Pass: those that are proofs, and no others, are accepted.
func TestProofsAmongAllLists(t *testing.T) {
	most, tasks, count := 5, 0, 0
	for _, task := range append(smallTasks(), largerTasks(1500)...) {
		fight := newModelFight(task)
		if len(task.Points) > 3 || fight.depth() < 2 {
			continue
		}
		tasks++
		lists := allLists(append(slices.Clone(task.Points), impl.Pass), most)
		// With more points and more depth there are too many proofs.
		for depth := range 6 - len(task.Points) {
			want := 0
			for _, proof := range fight.proofs(0, depth) {
				if len(proof) <= most {
					want++
				}
			}
			got := 0
			for _, list := range lists {
				if impl.CheckProof(task, depth, list) {
					got++
					if !fight.accepts(depth, list) {
						t.Fatalf("CheckProof(%v, %d, %v) is true", task, depth, list)
					}
				}
			}
			if got != want {
				t.Fatalf("CheckProof(%v, %d) accepts %d lists, not %d", task, depth, got, want)
			}
			count += got
		}
	}
	if tasks < 200 || count < 300 {
		t.Errorf("only %d proofs of %d tasks", count, tasks)
	}
}

// TestP61CapturesHaveProofs checks promise 61.
func TestP61CapturesHaveProofs(t *testing.T) {
	forTasks(sampleTasks(), func(task impl.Task, depth int) {
		move, proof := impl.CaptureMove(task, depth), impl.MakeProof(task, depth)
		if (move == impl.Pass) != (len(proof) == 0) {
			t.Fatalf("CaptureMove(%v, %d) = %d, MakeProof = %v", task, depth, move, proof)
		}
		if len(proof) > 0 && proof[0] != move || impl.CheckProof(task, depth, proof) != (len(proof) > 0) {
			t.Fatalf("MakeProof(%v, %d) = %v, CaptureMove = %d, CheckProof is %v", task, depth, proof, move, impl.CheckProof(task, depth, proof))
		}
		for deeper := depth + 1; len(proof) > 0 && deeper <= impl.MaxTaskDepth; deeper++ {
			if !impl.CheckProof(task, deeper, proof) {
				t.Fatalf("CheckProof(%v, %d, %v) is false, but not with depth %d", task, deeper, proof, depth)
			}
		}
	})
}

// TestP62ProofsAreTrue checks promise 62.
func TestP62ProofsAreTrue(t *testing.T) {
	mixed := rand.New(rand.NewSource(17))
	accepted := 0
	check := func(task impl.Task, depth int, list []int) {
		t.Helper()
		if !impl.CheckProof(task, depth, list) {
			return
		}
		accepted++
		if impl.CaptureMove(task, depth) == impl.Pass || len(list) == 0 || !slices.Contains(task.Points, list[0]) {
			t.Fatalf("CheckProof(%v, %d, %v) is true, and CaptureMove is %d", task, depth, list, impl.CaptureMove(task, depth))
		}
	}
	forTasks(sampleTasks(), func(task impl.Task, depth int) {
		check(task, depth, nil)
		for _, p := range append(slices.Clone(task.Points), task.Target, impl.Pass) {
			check(task, depth, []int{p})
		}
		for deeper := range impl.MaxTaskDepth + 1 {
			check(task, depth, impl.MakeProof(task, deeper))
		}
		for n := range 9 {
			list := make([]int, n)
			for i := range list {
				if len(task.Points) > 0 {
					list[i] = task.Points[mixed.Intn(len(task.Points))]
				}
			}
			check(task, depth, list)
		}
	})
	if accepted < 10000 {
		t.Errorf("only %d lists are accepted", accepted)
	}
}

// TestP63ProofsHaveNoPartTooFewOrTooMany checks promise 63, and that a point more inside is accepted only if it makes another proof.
func TestP63ProofsHaveNoPartTooFewOrTooMany(t *testing.T) {
	longer := 0
	forTasks(sampleTasks(), func(task impl.Task, depth int) {
		proof := impl.MakeProof(task, depth)
		if len(proof) == 0 {
			return
		}
		fight := newModelFight(task)
		for i := range proof {
			if impl.CheckProof(task, depth, proof[:i]) {
				t.Fatalf("CheckProof(%v, %d, %v) is true, of the proof %v", task, depth, proof[:i], proof)
			}
		}
		for _, p := range append(slices.Clone(task.Points), task.Target, impl.Pass) {
			if list := append(slices.Clone(proof), p); impl.CheckProof(task, depth, list) {
				t.Fatalf("CheckProof(%v, %d, %v) is true, of the proof %v", task, depth, list, proof)
			}
			for at := range proof {
				list := slices.Insert(slices.Clone(proof), at, p)
				got := impl.CheckProof(task, depth, list)
				if got != fight.accepts(depth, list) {
					t.Fatalf("CheckProof(%v, %d, %v) is %v, of the proof %v", task, depth, list, got, proof)
				}
				if got {
					longer++
				}
			}
		}
	})
	if longer == 0 {
		t.Error("no proof is one of another kind with one point more inside")
	}
}
