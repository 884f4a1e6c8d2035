package tests

import (
	"slices"
	"testing"

	"loop.example/goboard/impl"
)

// TestDiagonals checks points in corners, at edges and inside.
func TestDiagonals(t *testing.T) {
	for _, x := range []struct {
		size, p int
		want    []int
	}{
		{1, 0, nil},
		{2, 0, []int{3}}, {2, 1, []int{2}}, {2, 2, []int{1}}, {2, 3, []int{0}},
		{3, 0, []int{4}}, {3, 1, []int{3, 5}}, {3, 2, []int{4}}, {3, 3, []int{1, 7}}, {3, 4, []int{0, 2, 6, 8}},
		{3, 5, []int{1, 7}}, {3, 6, []int{4}}, {3, 7, []int{3, 5}}, {3, 8, []int{4}},
		{4, 5, []int{0, 2, 8, 10}}, {4, 7, []int{2, 10}}, {4, 8, []int{5, 13}}, {6, 29, []int{22, 34}}, {6, 30, []int{25}},
		{7, 0, []int{8}}, {7, 6, []int{12}}, {7, 7, []int{1, 15}}, {7, 13, []int{5, 19}}, {7, 24, []int{16, 18, 30, 32}},
		{7, 40, []int{32, 34, 46, 48}}, {7, 42, []int{36}}, {7, 45, []int{37, 39}}, {7, 48, []int{40}},
	} {
		if got := impl.Diagonals(x.size, x.p); !slices.Equal(got, x.want) {
			t.Errorf("Diagonals(%d, %d) = %v, not %v", x.size, x.p, got, x.want)
		}
	}
	forSizes(func(size int) {
		for p := range pointsOf(size) {
			got := impl.Diagonals(size, p)
			if want := modelDiagonals(size, p); !slices.Equal(got, want) {
				t.Errorf("Diagonals(%d, %d) = %v, not %v", size, p, got, want)
			}
			spoil(got)
			if again := impl.Diagonals(size, p); !slices.Equal(again, modelDiagonals(size, p)) {
				t.Errorf("Diagonals(%d, %d) = %v after its result was overwritten", size, p, again)
			}
		}
	})
}

// TestInvalidDiagonals checks numbers that are no points.
func TestInvalidDiagonals(t *testing.T) {
	for _, size := range badSizes {
		for _, p := range []int{-1, 0, 1, 4, 9, 40, size, size * size} {
			if got := impl.Diagonals(size, p); len(got) > 0 {
				t.Errorf("Diagonals(%d, %d) = %v", size, p, got)
			}
		}
	}
	forSizes(func(size int) {
		for _, p := range append(badPoints(size), -size-1, pointsOf(size)+size+1) {
			if got := impl.Diagonals(size, p); len(got) > 0 {
				t.Errorf("Diagonals(%d, %d) = %v", size, p, got)
			}
		}
	})
}

// TestP43DiagonalsAreMutual checks promise 43.
func TestP43DiagonalsAreMutual(t *testing.T) {
	forSizes(func(size int) {
		for p := range pointsOf(size) {
			for _, q := range impl.Diagonals(size, p) {
				if !slices.Contains(impl.Diagonals(size, q), p) || slices.Contains(impl.Neighbors(size, p), q) || p == q {
					t.Errorf("size %d: Diagonals(%d) has %d, Diagonals(%d) = %v, Neighbors = %v", size, p, q, q, impl.Diagonals(size, q), impl.Neighbors(size, p))
				}
			}
		}
	})
}

// TestP143CornersHaveOneDiagonal checks promise 143.
func TestP143CornersHaveOneDiagonal(t *testing.T) {
	forSizes(func(size int) {
		count := map[int]int{}
		for p := range pointsOf(size) {
			got := len(impl.Diagonals(size, p))
			count[got]++
			r, c := p/size, p%size
			want := 4
			if r == 0 || r == size-1 {
				want /= 2
			}
			if c == 0 || c == size-1 {
				want /= 2
			}
			if size > 1 && got != want {
				t.Errorf("size %d: point %d has %d diagonals", size, p, got)
			}
		}
		if size > 1 && (count[1] != 4 || count[2] != 4*(size-2) || count[4] != (size-2)*(size-2)) || size == 1 && count[0] != 1 {
			t.Errorf("size %d: %v", size, count)
		}
	})
}

// TestEyesOf checks eyes and false eyes in corners, at edges and inside, and boards of size 1 and 2.
func TestEyesOf(t *testing.T) {
	for _, x := range []struct {
		text       string
		eyes, sham []int
	}{
		{"./", nil, nil}, {"X/", nil, nil}, {"O/", nil, nil},
		{"../../", nil, nil}, {"XX/XX/", nil, nil}, {"X./.X/", []int{0, 3}, nil}, {".X/X./", []int{1, 2}, nil},
		{"XO/.X/", nil, []int{0}}, {"OX/X./", nil, []int{1}}, {"XX/.X/", []int{0}, nil}, {"X./.O/", nil, nil}, {"XX/../", nil, nil},
		{".X./X.X/.X./", []int{0, 2, 4, 6, 8}, nil}, {".X./XOX/.X./", nil, []int{0, 2, 6, 8}}, {"XXX/X.X/XXX/", []int{4}, nil},
		{"OXX/X.X/XXX/", []int{4}, nil}, {"XXX/X.X/XXO/", []int{4}, nil}, {"OXO/X.X/XXX/", nil, []int{4}}, {"OXX/X.X/XXO/", nil, []int{4}},
		{"OXO/X.X/XXO/", nil, []int{4}}, {"OXO/X.X/OXO/", nil, []int{4}}, {"XXX/X.O/XXX/", nil, nil}, {"XXX/X../XXX/", nil, nil}, {"XXX/XXX/XXX/", nil, nil},
		{".../.X./X.X/", []int{1}, nil}, {"OOO/OX./X.X/", nil, []int{1}}, {"OOO/OXO/X.X/", nil, []int{1}}, {"OOO/.XX/X.X/", []int{1}, nil},
		{"X.X/.XO/.../", nil, []int{7}}, {".X./X.X/OX./", []int{2, 4, 6, 8}, nil}, {"X../.X./X../", []int{3}, nil}, {"XO./.XX/X../", nil, []int{3}},
		{"..X./.X.X/O.X./..../", []int{10, 15}, nil}, {".OX./.X.X/O.XO/..../", []int{15}, []int{10}},
		{"......./......./......X/.....X./.....OX/......./......./", nil, []int{27}},
		{"......./......./......X/.....X./......X/......./......./", []int{27}, nil},
	} {
		b := readText(t, x.text)
		for color := impl.Black; color <= impl.White; color++ {
			if eyes, sham := impl.EyesOf(b, color); !slices.Equal(eyes, x.eyes) || !slices.Equal(sham, x.sham) {
				t.Errorf("EyesOf(%v, %d) = %v, %v, not %v, %v", b, color, eyes, sham, x.eyes, x.sham)
			}
			for p := range b.Cells {
				if got := impl.IsEye(b, p, color); got != slices.Contains(x.eyes, p) {
					t.Errorf("IsEye(%v, %d, %d) = %v", b, p, color, got)
				}
			}
			b = modelInverse(b)
		}
	}
}

// forPlaces sets some points of a board to the digits of numbers to the base 3, and calls a function for all such numbers.
func forPlaces(b impl.Board, places []int, f func()) {
	most := 1
	for range places {
		most *= 3
	}
	for n := range most {
		for _, p := range places {
			b.Cells[p] = n % 3
			n /= 3
		}
		f()
	}
}

// checkEye checks what is told of one point.
func checkEye(t *testing.T, b impl.Board, p int, color int, eye bool, sham bool) {
	t.Helper()
	if got := impl.IsEye(b, p, color); got != eye {
		t.Fatalf("IsEye(%v, %d, %d) = %v", b, p, color, got)
	}
	eyes, others := impl.EyesOf(b, color)
	if slices.Contains(eyes, p) != eye || slices.Contains(others, p) != sham {
		t.Fatalf("EyesOf(%v, %d) = %v, %v, and %d is an eye: %v, a false eye: %v", b, color, eyes, others, p, eye, sham)
	}
}

// TestDiagonalsOfEyes checks each point with all colors of its diagonals.
func TestDiagonalsOfEyes(t *testing.T) {
	forSizes(func(size int) {
		for p := range pointsOf(size) {
			for rest := impl.Empty; rest <= impl.White; rest++ {
				b := boardOf(size, slices.Repeat([]int{rest}, pointsOf(size))...)
				b.Cells[p] = impl.Empty
				for _, q := range modelNeighbors(size, p) {
					b.Cells[q] = impl.Black
				}
				corners := modelDiagonals(size, p)
				forPlaces(b, corners, func() {
					lost := 0
					for _, q := range corners {
						lost += b.Cells[q] / impl.White
					}
					eye := size > 1 && lost <= len(corners)/4
					checkEye(t, b, p, impl.Black, eye, size > 1 && !eye)
					checkEye(t, modelInverse(b), p, impl.White, eye, size > 1 && !eye)
				})
			}
		}
	})
}

// TestNeighborsOfEyes checks each point with all colors of its neighbours and of itself.
func TestNeighborsOfEyes(t *testing.T) {
	forSizes(func(size int) {
		for p := range pointsOf(size) {
			next := modelNeighbors(size, p)
			for rest := impl.Empty; rest <= impl.White; rest++ {
				b := boardOf(size, slices.Repeat([]int{rest}, pointsOf(size))...)
				forPlaces(b, append([]int{p}, next...), func() {
					for color := impl.Black; color <= impl.White; color++ {
						closed := size > 1 && b.Cells[p] == impl.Empty && !slices.ContainsFunc(next, func(q int) bool { return b.Cells[q] != color })
						checkEye(t, b, p, color, closed && rest != 3-color, closed && rest == 3-color)
					}
				})
			}
		}
	})
}

// TestInvalidEyes checks the results for arguments that are not valid.
func TestInvalidEyes(t *testing.T) {
	for _, b := range badLifeBoards() {
		for color := -1; color <= 3; color++ {
			for _, p := range []int{-1, 0, 1, 3, 4, 8, len(b.Cells) - 1} {
				if impl.IsEye(b, p, color) {
					t.Errorf("IsEye(size %d, %v, %d, %d)", b.Size, b.Cells, p, color)
				}
			}
			if eyes, sham := impl.EyesOf(b, color); len(eyes) > 0 || len(sham) > 0 {
				t.Errorf("EyesOf(size %d, %v, %d) = %v, %v", b.Size, b.Cells, color, eyes, sham)
			}
		}
	}
	for _, b := range append(sampleBoards(t), livingBoards()...) {
		for _, p := range badPoints(b.Size) {
			if impl.IsEye(b, p, impl.Black) || impl.IsEye(b, p, impl.White) {
				t.Errorf("IsEye(%v, %d)", b, p)
			}
		}
		for _, color := range append(badColors, impl.Empty) {
			for p := range b.Cells {
				if impl.IsEye(b, p, color) {
					t.Errorf("IsEye(%v, %d, %d)", b, p, color)
				}
			}
			if eyes, sham := impl.EyesOf(b, color); len(eyes) > 0 || len(sham) > 0 {
				t.Errorf("EyesOf(%v, %d) = %v, %v", b, color, eyes, sham)
			}
		}
	}
}

// TestP44EyesHaveOneColor checks promise 44.
func TestP44EyesHaveOneColor(t *testing.T) {
	count := 0
	for _, b := range append(smallBoards(t), livingBoards()...) {
		for color := impl.Black; color <= impl.White; color++ {
			eyes, _ := impl.EyesOf(b, color)
			for _, p := range eyes {
				count++
				next := impl.Neighbors(b.Size, p)
				if b.Cells[p] != impl.Empty || len(next) == 0 || impl.IsEye(b, p, 3-color) {
					t.Fatalf("IsEye(%v, %d, %d)", b, p, color)
				}
				for _, q := range next {
					if b.Cells[q] != color {
						t.Fatalf("IsEye(%v, %d, %d) in spite of %d", b, p, color, q)
					}
				}
				if _, removed, ok := impl.PlayStone(b, 3-color, p, false); ok && len(removed) == 0 {
					t.Fatalf("IsEye(%v, %d, %d), but the other color can play there", b, p, color)
				}
			}
		}
	}
	if count < 1000 {
		t.Errorf("only %d eyes", count)
	}
}

// TestP45EyesAndFalseEyes checks promise 45.
func TestP45EyesAndFalseEyes(t *testing.T) {
	for _, b := range append(smallBoards(t), livingBoards()...) {
		for color := impl.Black; color <= impl.White; color++ {
			var told, eyes, sham []int
			for p := range b.Cells {
				if impl.IsEye(b, p, color) {
					told = append(told, p)
				}
				if modelEye(b, p, color) {
					eyes = append(eyes, p)
				} else if modelEnclosed(b, p, color) {
					sham = append(sham, p)
				}
			}
			got, others := impl.EyesOf(b, color)
			if !slices.Equal(got, told) || !slices.Equal(got, eyes) || !slices.Equal(others, sham) {
				t.Fatalf("EyesOf(%v, %d) = %v, %v, not %v, %v; IsEye: %v", b, color, got, others, eyes, sham, told)
			}
		}
	}
}

// TestP46SymmetriesKeepEyes checks promise 46.
func TestP46SymmetriesKeepEyes(t *testing.T) {
	for _, b := range lifeBoards(t) {
		for color := impl.Black; color <= impl.White; color++ {
			eyes, sham := impl.EyesOf(b, color)
			for k := range symmetries {
				got, others := impl.EyesOf(impl.TransformBoard(b, k), color)
				if !slices.Equal(got, imagesOfPoints(b.Size, k, eyes)) || !slices.Equal(others, imagesOfPoints(b.Size, k, sham)) {
					t.Fatalf("EyesOf image %d of %v = %v, %v, and of the board %v, %v", k, b, got, others, eyes, sham)
				}
			}
			got, others := impl.EyesOf(impl.InvertBoard(b), 3-color)
			if !slices.Equal(got, eyes) || !slices.Equal(others, sham) {
				t.Fatalf("EyesOf InvertBoard(%v) = %v, %v, not %v, %v", b, got, others, eyes, sham)
			}
		}
	}
}

// TestEyesAreFresh checks that results share no memory with the board and with each other.
func TestEyesAreFresh(t *testing.T) {
	for _, b := range lifeBoards(t) {
		for color := impl.Black; color <= impl.White; color++ {
			checkFresh(t, "EyesOf", b, func(b impl.Board) [][]int {
				impl.IsEye(b, 0, color)
				eyes, sham := impl.EyesOf(b, color)
				return [][]int{eyes, sham}
			})
		}
	}
}
