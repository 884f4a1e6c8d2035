package tests

import (
	"slices"
	"testing"

	"loop.example/goboard/impl"
)

// smallBoards returns all boards of size 3 and the sample boards.
func smallBoards(t *testing.T) []impl.Board {
	t.Helper()
	list := sampleBoards(t)
	for n := range 19683 {
		list = append(list, numberedBoard(3, n))
	}
	return list
}

func TestGroupOf(t *testing.T) {
	for _, x := range []struct {
		text      string
		p         int
		group     []int
		liberties []int
	}{
		{"X/", 0, []int{0}, nil}, {"./", 0, nil, nil}, {"XX/XX/", 3, []int{0, 1, 2, 3}, nil}, {"XO/OX/", 0, []int{0}, nil},
		{"../X./", 0, []int{0}, []int{1, 2}}, {"XX./.X./O.O/", 7, []int{4, 6, 7}, []int{1, 3, 5, 8}}, {"XX./.X./O.O/", 0, []int{0}, []int{1, 3}},
		{"XX./.X./O.O/", 1, nil, nil}, {"XXX/X.X/XXX/", 8, []int{0, 1, 2, 3, 5, 6, 7, 8}, []int{4}}, {"XXX/XOX/XXX/", 4, []int{4}, nil},
		{"X..X/..../..../X..X/", 15, []int{15}, []int{11, 14}}, {"..../X.../...X/..../", 7, []int{7}, []int{3, 6, 11}}, {"..../X.../...X/..../", 8, []int{8}, []int{4, 9, 12}},
		{"OOOOO/....O/OOO.O/O...O/OOOOO/", 12, []int{0, 1, 2, 3, 4, 5, 9, 10, 11, 12, 14, 19, 20, 21, 22, 23, 24}, []int{6, 7, 8, 13, 15, 16, 17, 18}},
		{"......./......./......./...O.../......./......./......./", 24, []int{24}, []int{17, 23, 25, 31}},
		{"......X/......./......./......./......./......./O....../", 48, []int{48}, []int{41, 47}},
		{"......./......./......./......./......./X....../......X/", 7, []int{7}, []int{0, 8, 14}},
	} {
		b := readText(t, x.text)
		if got := impl.GroupOf(b, x.p); !slices.Equal(got, x.group) {
			t.Errorf("GroupOf(%q, %d) = %v, not %v", x.text, x.p, got, x.group)
		}
		if got := impl.LibertiesOf(b, x.p); !slices.Equal(got, x.liberties) {
			t.Errorf("LibertiesOf(%q, %d) = %v, not %v", x.text, x.p, got, x.liberties)
		}
	}
	for _, b := range sampleBoards(t) {
		for _, p := range badPoints(b.Size) {
			if g, l := impl.GroupOf(b, p), impl.LibertiesOf(b, p); len(g) > 0 || len(l) > 0 {
				t.Errorf("GroupOf(%v, %d) = %v, LibertiesOf = %v", b, p, g, l)
			}
		}
	}
}

// TestP19GroupsBelongToTheirStones checks promise 19.
func TestP19GroupsBelongToTheirStones(t *testing.T) {
	for _, b := range smallBoards(t) {
		for p, color := range b.Cells {
			group := impl.GroupOf(b, p)
			if color == impl.Empty {
				if len(group) > 0 {
					t.Fatalf("GroupOf(%v, %d) = %v without a stone", b, p, group)
				}
				continue
			}
			if !slices.Equal(group, modelGroup(b, p)) {
				t.Fatalf("GroupOf(%v, %d) = %v", b, p, group)
			}
			for _, q := range group {
				if b.Cells[q] != color || !slices.Equal(impl.GroupOf(b, q), group) {
					t.Fatalf("%v: the group of %d is that of %d, but not the other way round", b, p, q)
				}
				for _, r := range impl.Neighbors(b.Size, q) {
					if b.Cells[r] == color && !slices.Contains(group, r) {
						t.Fatalf("GroupOf(%v, %d) = %v lacks %d", b, p, group, r)
					}
				}
			}
		}
	}
}

// TestP20LibertiesAreEmptyNeighbors checks promise 20.
func TestP20LibertiesAreEmptyNeighbors(t *testing.T) {
	for _, b := range smallBoards(t) {
		for p, color := range b.Cells {
			liberties := impl.LibertiesOf(b, p)
			if color == impl.Empty {
				if len(liberties) > 0 {
					t.Fatalf("LibertiesOf(%v, %d) = %v without a stone", b, p, liberties)
				}
				continue
			}
			group := impl.GroupOf(b, p)
			if !slices.Equal(liberties, modelLiberties(b, group)) {
				t.Fatalf("LibertiesOf(%v, %d) = %v", b, p, liberties)
			}
			for _, q := range group {
				if !slices.Equal(impl.LibertiesOf(b, q), liberties) {
					t.Fatalf("%v: stones %d and %d have other liberties", b, p, q)
				}
			}
			for _, q := range liberties {
				next := slices.ContainsFunc(impl.Neighbors(b.Size, q), func(r int) bool { return slices.Contains(group, r) })
				if b.Cells[q] != impl.Empty || !next {
					t.Fatalf("LibertiesOf(%v, %d) = %v with %d", b, p, liberties, q)
				}
			}
		}
	}
}

// TestP21EveryStoneIsInOneGroup checks promise 21.
func TestP21EveryStoneIsInOneGroup(t *testing.T) {
	for _, b := range smallBoards(t) {
		for color := impl.Black; color <= impl.White; color++ {
			groups := impl.GroupsOf(b, color)
			if !sameLists(groups, modelGroups(b, color)) {
				t.Fatalf("GroupsOf(%v, %d) = %v", b, color, groups)
			}
			var stones []int
			for _, group := range groups {
				if !slices.Equal(group, impl.GroupOf(b, group[0])) {
					t.Fatalf("GroupsOf(%v, %d) has %v, not GroupOf %d", b, color, group, group[0])
				}
				stones = append(stones, group...)
			}
			slices.Sort(stones)
			if len(slices.Compact(stones)) != impl.CountStones(b, color) {
				t.Fatalf("GroupsOf(%v, %d) = %v has not all stones", b, color, groups)
			}
		}
	}
}

func TestGroupsOf(t *testing.T) {
	b := readText(t, "O.OX/XX.X/O..X/OOX./")
	if got := impl.GroupsOf(b, impl.Black); !sameLists(got, [][]int{{2}, {7, 11, 15}, {8, 9}}) {
		t.Errorf("GroupsOf(%v, 1) = %v", b, got)
	}
	if got := impl.GroupsOf(b, impl.White); !sameLists(got, [][]int{{0, 1, 4}, {12}, {14}}) {
		t.Errorf("GroupsOf(%v, 2) = %v", b, got)
	}
	if got := impl.AtariGroups(b, impl.Black); len(got) > 0 {
		t.Errorf("AtariGroups(%v, 1) = %v", b, got)
	}
	if got := impl.AtariGroups(b, impl.White); !sameLists(got, [][]int{{0, 1, 4}, {12}}) {
		t.Errorf("AtariGroups(%v, 2) = %v", b, got)
	}
	for _, b := range sampleBoards(t) {
		for _, color := range append(badColors, impl.Empty) {
			if g, a := impl.GroupsOf(b, color), impl.AtariGroups(b, color); len(g) > 0 || len(a) > 0 {
				t.Errorf("GroupsOf(%v, %d) = %v, AtariGroups = %v", b, color, g, a)
			}
		}
	}
}

// TestP22SymmetriesKeepGroups checks promise 22.
func TestP22SymmetriesKeepGroups(t *testing.T) {
	for _, b := range sampleBoards(t) {
		for color := impl.Black; color <= impl.White; color++ {
			groups := impl.GroupsOf(b, color)
			for k := range symmetries {
				image := impl.TransformBoard(b, k)
				if got := impl.GroupsOf(image, color); len(got) != len(groups) {
					t.Fatalf("GroupsOf(%v, %d) = %v, not %d groups", image, color, got, len(groups))
				}
				for _, group := range groups {
					want := imagesOfPoints(b.Size, k, group)
					if got := impl.GroupOf(image, want[0]); !slices.Equal(got, want) {
						t.Fatalf("GroupOf(%v, %d) = %v, not %v", image, want[0], got, want)
					}
				}
			}
		}
	}
}

// TestP136SymmetriesKeepLiberties checks promise 136.
func TestP136SymmetriesKeepLiberties(t *testing.T) {
	for _, b := range sampleBoards(t) {
		for k := range symmetries {
			image := impl.TransformBoard(b, k)
			for p := range b.Cells {
				want := imagesOfPoints(b.Size, k, impl.LibertiesOf(b, p))
				if got := impl.LibertiesOf(image, impl.TransformPoint(b.Size, k, p)); !slices.Equal(got, want) {
					t.Fatalf("%v: liberties of the image of %d under symmetry %d are %v, not %v", b, p, k, got, want)
				}
			}
		}
	}
}

// TestP23GroupsInAtariHaveOneLiberty checks promise 23.
func TestP23GroupsInAtariHaveOneLiberty(t *testing.T) {
	for _, b := range smallBoards(t) {
		for color := impl.Black; color <= impl.White; color++ {
			var want [][]int
			for _, group := range impl.GroupsOf(b, color) {
				if len(modelLiberties(b, group)) == 1 {
					want = append(want, group)
				}
			}
			if got := impl.AtariGroups(b, color); !sameLists(got, want) {
				t.Fatalf("AtariGroups(%v, %d) = %v, not %v", b, color, got, want)
			}
		}
	}
}

// TestGroupsAreFresh checks that results share no memory with the board and with each other.
func TestGroupsAreFresh(t *testing.T) {
	for _, b := range sampleBoards(t) {
		for p := range b.Cells {
			checkFresh(t, "GroupOf", b, func(b impl.Board) [][]int { return [][]int{impl.GroupOf(b, p)} })
			checkFresh(t, "LibertiesOf", b, func(b impl.Board) [][]int { return [][]int{impl.LibertiesOf(b, p)} })
		}
		for color := impl.Black; color <= impl.White; color++ {
			checkFresh(t, "GroupsOf", b, func(b impl.Board) [][]int { return impl.GroupsOf(b, color) })
			checkFresh(t, "AtariGroups", b, func(b impl.Board) [][]int { return impl.AtariGroups(b, color) })
		}
	}
}
