package tests

import (
	"slices"
	"strings"
	"testing"

	"loop.example/goboard/impl"
)

// columnBoard returns the text of a board of size 7 with one row again and again below an upper row.
func columnBoard(upper string, row string) string {
	return upper + "/" + strings.Repeat(row+"/", impl.MaxSize-1)
}

// column returns the points of a column of a board of size 7.
func column(c int) []int {
	var points []int
	for r := range impl.MaxSize {
		points = append(points, r*impl.MaxSize+c)
	}
	return points
}

// checkAlive checks the groups and regions of Black on a board, and those of White on the board with colors exchanged.
func checkAlive(t *testing.T, text string, groups [][]int, regions [][]int) {
	t.Helper()
	b := readText(t, text)
	for color := impl.Black; color <= impl.White; color++ {
		if got, proof := impl.AliveGroups(b, color); !sameLists(got, groups) || !sameLists(proof, regions) {
			t.Errorf("AliveGroups(%v, %d) = %v, %v, not %v, %v", b, color, got, proof, groups, regions)
		}
		b = modelInverse(b)
	}
}

// TestRegionsOf checks boards with and without stones of the color.
func TestRegionsOf(t *testing.T) {
	for _, x := range []struct {
		text         string
		black, white [][]int
	}{
		{"./", [][]int{{0}}, [][]int{{0}}}, {"X/", nil, [][]int{{0}}}, {"O/", [][]int{{0}}, nil},
		{"../../", [][]int{{0, 1, 2, 3}}, [][]int{{0, 1, 2, 3}}}, {"XX/XX/", nil, [][]int{{0, 1, 2, 3}}}, {"XO/OX/", [][]int{{0}, {3}}, [][]int{{1}, {2}}},
		{"X./.O/", [][]int{{0, 1, 3}}, [][]int{{0, 2, 3}}}, {"X./.X/", [][]int{{0}, {3}}, [][]int{{0, 1, 2, 3}}},
		{"O.X/XX./.XO/", [][]int{{0}, {2, 5}, {6, 7}}, [][]int{{0, 1, 3, 4, 5, 7, 8}}},
		{"...X/..X./.X.O/X.../", [][]int{{1, 2, 3, 6, 7, 11}, {4, 8, 9, 12, 13, 14}}, [][]int{{0, 1, 2, 3, 4, 5, 6, 8, 9, 10, 11, 12, 13, 14, 15}}},
		{columnBoard("OX.X.X.", "OX.X.X."), [][]int{column(0), column(2), column(4), column(6)}, [][]int{modelColorRegions(readText(t, columnBoard("OX.X.X.", "OX.X.X.")), 2)[0]}},
	} {
		b := readText(t, x.text)
		black, white := impl.RegionsOf(b, impl.Black), impl.RegionsOf(b, impl.White)
		if !sameLists(black, x.black) || !sameLists(white, x.white) {
			t.Errorf("RegionsOf(%q) = %v and %v, not %v and %v", x.text, black, white, x.black, x.white)
		}
	}
}

// TestAliveGroups checks groups with none, one and two vital regions, and boards without stones of the color.
func TestAliveGroups(t *testing.T) {
	forSizes(func(size int) {
		checkAlive(t, strings.Repeat(strings.Repeat(".", size)+"/", size), nil, nil)
		checkAlive(t, strings.Repeat(strings.Repeat("X", size)+"/", size), nil, nil)
		checkAlive(t, strings.Repeat(strings.Repeat("O", size)+"/", size), nil, nil)
	})
	for _, x := range []struct {
		text            string
		groups, regions [][]int
	}{
		{"XX/.X/", nil, nil}, {"X./.O/", nil, nil}, {"XO/.X/", nil, nil}, {"X./.X/", [][]int{{1}, {2}}, [][]int{{0}, {3}}},
		{"XXX/X.X/XXX/", nil, nil}, {"XXX/.../XXX/", nil, nil}, {".O./O.O/.O./", nil, nil},
		{".X./XXX/XXX/", [][]int{{0, 1, 2, 3, 4, 5, 7}}, [][]int{{6}, {8}}},
		{"XXXX/XO.X/XXXX/XX.X/", [][]int{{0, 1, 3, 4, 5, 6, 7, 8, 11, 12, 13, 14, 15}}, [][]int{{2}, {9, 10}}},
		{"XXXX/X..X/XXXX/XX.X/", [][]int{{0, 1, 3, 4, 5, 6, 7, 8, 11, 12, 13, 14, 15}}, [][]int{{2}, {9, 10}}},
		{"..X./XXXX/XXXX/XXXX/", [][]int{{0, 1, 2, 3, 4, 5, 6, 7, 8, 9, 10, 11, 14}}, [][]int{{12, 13}, {15}}},
		{"..X./.XXX/XXXX/XXXX/", nil, nil}, {"O.X./.XXX/XXXX/XXXX/", [][]int{{0, 1, 2, 3, 4, 5, 6, 7, 9, 10, 11, 14}}, [][]int{{8, 12, 13}, {15}}},
		// The region that is not vital stays, because its only group does.
		{".X../XXXX/..../..../", [][]int{{8, 9, 10, 11, 13}}, [][]int{{0, 1, 2, 3, 4, 5, 6, 7}, {12}, {14, 15}}},
		{"XXXXX/X...X/X...X/X...X/XXXX./", nil, nil}, {"XXXXX/X...X/X.O.X/X...X/XXXXX/", nil, nil},
		{"XXXXXX/XXXXX./X...XX/X.O.XX/X...XX/XXXXXX/", [][]int{{0, 1, 2, 3, 4, 5, 6, 10, 11, 12, 16, 17, 18, 22, 23, 24, 25, 26, 27, 28, 30, 31, 32, 33, 34, 35}}, [][]int{{7, 8, 9, 13, 14, 15, 19, 20, 21}, {29}}},
		{"XXXXXX/XXXXX./X...XX/X...XX/X...XX/XXXXXX/", nil, nil},
	} {
		checkAlive(t, x.text, x.groups, x.regions)
	}
}

// TestRegionsWithoutEmptyPoints checks that they are vital for nobody, but stay if their groups do.
func TestRegionsWithoutEmptyPoints(t *testing.T) {
	checkAlive(t, "OX./XXX/XXX/", nil, nil)
	checkAlive(t, "OXO/XXX/OXO/", nil, nil)
	checkAlive(t, "OX./XXX/XX./", [][]int{{0, 1, 3, 4, 5, 7}}, [][]int{{2}, {6}, {8}})
	checkAlive(t, "OXO/XXX/.X./", [][]int{{1, 3, 4, 5, 7}}, [][]int{{0}, {2}, {6}, {8}})
	checkAlive(t, ".X./X.X/.XO/", [][]int{{1}, {3}, {5}, {7}}, [][]int{{0}, {2}, {4}, {6}, {8}})
	checkAlive(t, "OX./X.X/.XO/", [][]int{{1}, {3}, {5}, {7}}, [][]int{{0}, {2}, {4}, {6}, {8}})
	checkAlive(t, "OX./X.X/OXO/", nil, nil)
}

// TestSharedRegions checks regions that are vital for several groups, for some of them only, and for none because one is removed.
func TestSharedRegions(t *testing.T) {
	checkAlive(t, "X.X/.X./X.X/", [][]int{{0}, {2}, {4}, {6}, {8}}, [][]int{{1}, {3}, {5}, {7}})
	checkAlive(t, ".X./X.X/.X./", [][]int{{1}, {3}, {5}, {7}}, [][]int{{0}, {2}, {4}, {6}, {8}})
	// The lower stone is lost, and with it the lower region; the upper group has two others.
	checkAlive(t, ".X../XXXX/..../X.../", [][]int{{8, 9, 10, 11, 13}}, [][]int{{12}, {14, 15}})
	// The stone in the upper corner has one vital region, which the large group loses with it.
	checkAlive(t, ".X.X/XXXO/..../..../", nil, nil)
	checkAlive(t, ".X.X/XXXX/..../..../", [][]int{{8, 9, 10, 11, 13, 15}}, [][]int{{0, 1, 2, 3, 4, 5, 6, 7}, {12}, {14}})
	// The region in the middle has a point that only the lower group is next to: it is vital for that one, and the upper group needs two others.
	upper := []int{24, 25, 26, 27, 28, 29, 31, 33, 34, 35}
	lower := []int{0, 1, 2, 4, 5, 6, 7, 8, 9, 10, 11, 12, 13, 14, 15, 16}
	middle := []int{17, 18, 19, 20, 21, 22, 23}
	checkAlive(t, ".X.XXX/XXXXXX/.OOOOO/XXXXX./XXXXXX/XXX.XX/", [][]int{lower, upper}, [][]int{{3}, middle, {30}, {32}})
	checkAlive(t, ".XXXXX/XXXXXX/.OOOOO/XXXXX./XXXXXX/XXX.XX/", nil, nil)
	// Here it is vital for both.
	upper = []int{24, 25, 26, 27, 28, 29, 31, 32, 33, 34, 35}
	checkAlive(t, ".XXXXX/XXXXXX/.OOOOO/XXXXXO/XXXXXX/XXX.XX/", [][]int{lower, upper}, [][]int{{3}, middle, {30}})
}

// TestChainsOfRemovals checks that one group after the other is removed, up to one that lives without the others.
func TestChainsOfRemovals(t *testing.T) {
	all, regions := [][]int{column(1), column(3), column(5)}, [][]int{column(0), column(2), column(4), column(6)}
	checkAlive(t, columnBoard(".X.X.X.", ".X.X.X."), all, regions)
	checkAlive(t, columnBoard(".X.X.X.", "OX.X.X."), all, regions)
	checkAlive(t, columnBoard("OX.X.X.", "OX.X.X."), nil, nil)
	checkAlive(t, columnBoard("OX.X.XO", "OX.X.XO"), nil, nil)
	checkAlive(t, columnBoard("..X.X.X", "..X.X.X"), nil, nil)
	if rounds := modelAlive(readText(t, columnBoard("OX.X.X.", "OX.X.X.")), impl.Black).rounds; rounds != 3 {
		t.Errorf("removed %d times", rounds)
	}
	// The group at the right has two eyes of its own, and keeps them alone.
	last := slices.Concat(column(5), column(6))
	slices.Sort(last)
	last = slices.DeleteFunc(last, func(p int) bool { return p == 13 || p == 48 })
	checkAlive(t, "OX.X.X./OX.X.XX/OX.X.XX/OX.X.XX/OX.X.XX/OX.X.X./OX.X.XX/", [][]int{last}, [][]int{{13}, {48}})
	checkAlive(t, ".X.X.X./OX.X.XX/OX.X.XX/OX.X.XX/OX.X.XX/OX.X.X./OX.X.XX/", [][]int{column(1), column(3), last}, [][]int{column(0), column(2), column(4), {13}, {48}})
}

// TestAliveModel checks boards on which many groups live, and all boards of size 3.
func TestAliveModel(t *testing.T) {
	alone, partly, chains := 0, 0, 0
	for _, b := range append(smallBoards(t), livingBoards()...) {
		for color := impl.Black; color <= impl.White; color++ {
			want := modelAlive(b, color)
			groups, regions := impl.AliveGroups(b, color)
			if !sameLists(groups, want.groups) || !sameLists(regions, want.regions) {
				t.Fatalf("AliveGroups(%v, %d) = %v, %v, not %v, %v", b, color, groups, regions, want.groups, want.regions)
			}
			switch all := len(modelGroups(b, color)); {
			case len(groups) == 0:
			case len(groups) == all:
				alone++
			default:
				partly++
			}
			if want.rounds > 2 {
				chains++
			}
		}
	}
	if alone < 1000 || partly < 200 || chains < 40 {
		t.Errorf("%d boards where all live, %d where some do, %d with chains", alone, partly, chains)
	}
}

// TestInvalidLife checks the results for arguments that are not valid.
func TestInvalidLife(t *testing.T) {
	check := func(b impl.Board, color int) {
		t.Helper()
		if got := impl.RegionsOf(b, color); len(got) > 0 {
			t.Errorf("RegionsOf(size %d, %v, %d) = %v", b.Size, b.Cells, color, got)
		}
		if groups, regions := impl.AliveGroups(b, color); len(groups) > 0 || len(regions) > 0 {
			t.Errorf("AliveGroups(size %d, %v, %d) = %v, %v", b.Size, b.Cells, color, groups, regions)
		}
	}
	for _, b := range badLifeBoards() {
		for color := -1; color <= 3; color++ {
			check(b, color)
		}
	}
	for _, b := range lifeBoards(t) {
		for _, color := range append(badColors, impl.Empty) {
			check(b, color)
		}
	}
}

// TestP47RegionsAreWhatAColorLeaves checks promise 47.
func TestP47RegionsAreWhatAColorLeaves(t *testing.T) {
	for _, b := range append(smallBoards(t), livingBoards()...) {
		for color := impl.Black; color <= impl.White; color++ {
			regions := impl.RegionsOf(b, color)
			if want := modelColorRegions(b, color); !sameLists(regions, want) {
				t.Fatalf("RegionsOf(%v, %d) = %v, not %v", b, color, regions, want)
			}
			number := map[int]int{}
			for i, region := range regions {
				for _, p := range region {
					number[p] = i
				}
			}
			if len(number) != len(slices.Concat(regions...)) || len(number) != len(b.Cells)-impl.CountStones(b, color) {
				t.Fatalf("RegionsOf(%v, %d) = %v", b, color, regions)
			}
			for p, i := range number {
				for _, q := range impl.Neighbors(b.Size, p) {
					j, found := number[q]
					if found == (b.Cells[q] == color) || found && i != j {
						t.Fatalf("RegionsOf(%v, %d) = %v, and %d is next to %d", b, color, regions, p, q)
					}
				}
			}
		}
	}
}

// isOneOf reports whether a list is one of several lists.
func isOneOf(list []int, lists [][]int) bool {
	return slices.ContainsFunc(lists, func(other []int) bool { return slices.Equal(other, list) })
}

// TestP48LivingGroupsAreNotInAtari checks promise 48.
func TestP48LivingGroupsAreNotInAtari(t *testing.T) {
	for _, b := range append(smallBoards(t), livingBoards()...) {
		for color := impl.Black; color <= impl.White; color++ {
			groups, regions := impl.AliveGroups(b, color)
			all := impl.GroupsOf(b, color)
			for _, group := range groups {
				if !isOneOf(group, all) || len(impl.LibertiesOf(b, group[0])) < 2 {
					t.Fatalf("AliveGroups(%v, %d) has %v with the liberties %v", b, color, group, impl.LibertiesOf(b, group[0]))
				}
			}
			places := impl.RegionsOf(b, color)
			for _, region := range regions {
				if !isOneOf(region, places) {
					t.Fatalf("AliveGroups(%v, %d) has the region %v", b, color, region)
				}
			}
			if (len(groups) == 0) != (len(regions) == 0) {
				t.Fatalf("AliveGroups(%v, %d) = %v, %v", b, color, groups, regions)
			}
		}
	}
}

// checkStay checks that the stones of living groups are there after a stone of the other color, and live again.
func checkStay(t *testing.T, b impl.Board, color int, p int) {
	t.Helper()
	after, _, ok := impl.PlayStone(b, 3-color, p, false)
	if !ok {
		t.Fatalf("PlayStone(%v, %d, %d, false) is not possible", b, 3-color, p)
	}
	groups, _ := impl.AliveGroups(b, color)
	again, _ := impl.AliveGroups(after, color)
	alive := slices.Concat(again...)
	for _, q := range slices.Concat(groups...) {
		if after.Cells[q] != color || !slices.Contains(alive, q) {
			t.Fatalf("AliveGroups(%v, %d) = %v, and after a stone at %d %v", b, color, groups, p, again)
		}
	}
}

// TestP49LivingGroupsCannotBeCaptured checks promise 49.
func TestP49LivingGroupsCannotBeCaptured(t *testing.T) {
	for _, b := range lifeBoards(t) {
		for color := impl.Black; color <= impl.White; color++ {
			for _, p := range impl.PossiblePoints(b, 3-color, false) {
				checkStay(t, b, color, p)
			}
		}
	}
	for _, b := range livingBoards() {
		for color := impl.Black; color <= impl.White; color++ {
			now := b
			for i := range 20 {
				points := impl.PossiblePoints(now, 3-color, false)
				if len(points) == 0 {
					break
				}
				p := points[i*i%len(points)]
				checkStay(t, now, color, p)
				now, _, _ = impl.PlayStone(now, 3-color, p, false)
			}
		}
	}
}

// TestSuicideBesideLivingGroups checks that a suicide captures nothing, although the region that it empties need not be vital any more.
func TestSuicideBesideLivingGroups(t *testing.T) {
	before := readText(t, "XXXXXX/XXXXX./XO.OXX/XOOOXX/XOOOXX/XXXXXX/")
	after := readText(t, "XXXXXX/XXXXX./X...XX/X...XX/X...XX/XXXXXX/")
	if got, _, ok := impl.PlayStone(before, impl.White, 20, true); !ok || !sameBoard(got, after) {
		t.Fatalf("PlayStone = %v, %v", got, ok)
	}
	groups, regions := impl.AliveGroups(before, impl.Black)
	if len(groups) != 1 || len(regions) != 2 {
		t.Errorf("AliveGroups = %v, %v", groups, regions)
	}
	if groups, regions := impl.AliveGroups(after, impl.Black); len(groups) > 0 || len(regions) > 0 {
		t.Errorf("AliveGroups = %v, %v after the suicide", groups, regions)
	}
	for _, b := range lifeBoards(t) {
		for color := impl.Black; color <= impl.White; color++ {
			groups, _ := impl.AliveGroups(b, color)
			for _, p := range impl.PossiblePoints(b, 3-color, true) {
				after, _, _ := impl.PlayStone(b, 3-color, p, true)
				for _, q := range slices.Concat(groups...) {
					if after.Cells[q] != color {
						t.Fatalf("PlayStone(%v, %d, %d, true) captures %d", b, 3-color, p, q)
					}
				}
			}
		}
	}
}

// capturable returns the black stones that White can remove, one stone after the other, while Black passes.
func capturable(b impl.Board, known map[string]map[int]bool) map[int]bool {
	text := impl.FormatBoard(b)
	if found, ok := known[text]; ok {
		return found
	}
	lost := map[int]bool{}
	known[text] = lost
	for p := range b.Cells {
		after, removed, ok := modelPlay(b, impl.White, p, false)
		if !ok {
			continue
		}
		for _, q := range removed {
			lost[q] = true
		}
		for q := range capturable(after, known) {
			lost[q] = true
		}
	}
	return lost
}

// TestAliveGroupsAreAllThatCannotBeCaptured checks all boards of the sizes 1 to 3 on which every group has a liberty.
func TestAliveGroupsAreAllThatCannotBeCaptured(t *testing.T) {
	known := map[string]map[int]bool{}
	for i, most := range []int{3, 81, 19683} {
		for n := range most {
			b := numberedBoard(i+1, n)
			if len(modelChoked(b, impl.Black))+len(modelChoked(b, impl.White)) > 0 {
				continue
			}
			lost := capturable(b, known)
			var want [][]int
			for _, group := range modelGroups(b, impl.Black) {
				if !lost[group[0]] {
					want = append(want, group)
				}
			}
			if groups, _ := impl.AliveGroups(b, impl.Black); !sameLists(groups, want) {
				t.Fatalf("AliveGroups(%v) = %v, but %v cannot be captured", b, groups, want)
			}
		}
	}
}

// TestP50SymmetriesKeepLife checks promise 50.
func TestP50SymmetriesKeepLife(t *testing.T) {
	for _, b := range lifeBoards(t) {
		for color := impl.Black; color <= impl.White; color++ {
			groups, regions := impl.AliveGroups(b, color)
			for k := range symmetries {
				var want, places [][]int
				for _, group := range groups {
					want = append(want, imagesOfPoints(b.Size, k, group))
				}
				for _, region := range regions {
					places = append(places, imagesOfPoints(b.Size, k, region))
				}
				slices.SortFunc(want, slices.Compare[[]int])
				slices.SortFunc(places, slices.Compare[[]int])
				if got, proof := impl.AliveGroups(impl.TransformBoard(b, k), color); !sameLists(got, want) || !sameLists(proof, places) {
					t.Fatalf("AliveGroups of image %d of %v = %v, %v, not %v, %v", k, b, got, proof, want, places)
				}
			}
			if got, proof := impl.AliveGroups(impl.InvertBoard(b), 3-color); !sameLists(got, groups) || !sameLists(proof, regions) {
				t.Fatalf("AliveGroups of InvertBoard(%v) = %v, %v, not %v, %v", b, got, proof, groups, regions)
			}
		}
	}
}

// TestP144RegionsWithColorsExchanged checks promise 144.
func TestP144RegionsWithColorsExchanged(t *testing.T) {
	for _, b := range append(smallBoards(t), livingBoards()...) {
		for color := impl.Black; color <= impl.White; color++ {
			regions, other := impl.RegionsOf(b, color), impl.RegionsOf(impl.InvertBoard(b), 3-color)
			if !sameLists(regions, other) {
				t.Fatalf("RegionsOf(%v, %d) = %v, and with colors exchanged %v", b, color, regions, other)
			}
		}
	}
}

// TestP145LivingGroupsOwnTheirLiberties checks promise 145.
func TestP145LivingGroupsOwnTheirLiberties(t *testing.T) {
	count := 0
	for _, b := range append(smallBoards(t), livingBoards()...) {
		for color := impl.Black; color <= impl.White; color++ {
			_, regions := impl.AliveGroups(b, color)
			own, foreign := impl.TerritoryOf(b, color), impl.TerritoryOf(b, 3-color)
			for _, region := range regions {
				if slices.ContainsFunc(region, func(p int) bool { return b.Cells[p] == 3-color }) {
					continue
				}
				count++
				for _, p := range region {
					if slices.Contains(foreign, p) || !slices.Contains(own, p) {
						t.Fatalf("AliveGroups(%v, %d) has the region %v, and the territories are %v and %v", b, color, region, own, foreign)
					}
				}
			}
		}
	}
	if count < 1000 {
		t.Errorf("only %d regions", count)
	}
}

// TestLifeIsFresh checks that results share no memory with the board and with each other.
func TestLifeIsFresh(t *testing.T) {
	for _, b := range lifeBoards(t) {
		for color := impl.Black; color <= impl.White; color++ {
			checkFresh(t, "RegionsOf", b, func(b impl.Board) [][]int { return impl.RegionsOf(b, color) })
			checkFresh(t, "AliveGroups", b, func(b impl.Board) [][]int {
				groups, regions := impl.AliveGroups(b, color)
				// Appending to one list must not reach the other one.
				_ = append(groups, []int{-7})
				return slices.Concat(groups, regions)
			})
		}
	}
}
