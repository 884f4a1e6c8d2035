package tests

import (
	"slices"
	"strings"
	"testing"

	"loop.example/goboard/impl"
)

func TestConstantsOfPoints(t *testing.T) {
	if impl.MaxSize != 7 {
		t.Errorf("MaxSize = %d", impl.MaxSize)
	}
}

func TestValidPoint(t *testing.T) {
	forSizes(func(size int) {
		for p := range pointsOf(size) {
			if !impl.ValidPoint(size, p) {
				t.Errorf("ValidPoint(%d, %d) is false", size, p)
			}
		}
		for _, p := range badPoints(size) {
			if impl.ValidPoint(size, p) {
				t.Errorf("ValidPoint(%d, %d) is true", size, p)
			}
		}
	})
	for _, size := range badSizes {
		for _, p := range []int{-1, 0, 1, 3, 63, 99} {
			if impl.ValidPoint(size, p) {
				t.Errorf("ValidPoint(%d, %d) is true", size, p)
			}
		}
	}
}

// TestP1PointsHaveNames checks promise 1.
func TestP1PointsHaveNames(t *testing.T) {
	for size := -9; size <= 12; size++ {
		for p := -20; p <= 150; p++ {
			if impl.ValidPoint(size, p) != (impl.PointName(size, p) != "") {
				t.Errorf("ValidPoint(%d, %d) is %v, PointName %q", size, p, impl.ValidPoint(size, p), impl.PointName(size, p))
			}
		}
	}
}

func TestPointName(t *testing.T) {
	for _, x := range []struct {
		size, p int
		name    string
	}{
		{1, 0, "A1"}, {2, 0, "A1"}, {2, 1, "B1"}, {2, 2, "A2"}, {2, 3, "B2"}, {3, 5, "C2"}, {3, 7, "B3"}, {5, 14, "E3"},
		{7, 0, "A1"}, {7, 6, "G1"}, {7, 42, "A7"}, {7, 48, "G7"}, {7, 10, "D2"}, {7, 22, "B4"},
	} {
		if impl.PointName(x.size, x.p) != x.name || impl.ParsePoint(x.size, x.name) != x.p {
			t.Errorf("PointName(%d, %d) = %q, ParsePoint of %q = %d", x.size, x.p, impl.PointName(x.size, x.p), x.name, impl.ParsePoint(x.size, x.name))
		}
	}
	forSizes(func(size int) {
		for p := range pointsOf(size) {
			name := "ABCDEFG"[p%size:p%size+1] + "1234567"[p/size:p/size+1]
			if impl.PointName(size, p) != name {
				t.Errorf("PointName(%d, %d) = %q", size, p, impl.PointName(size, p))
			}
		}
		for _, p := range badPoints(size) {
			if impl.PointName(size, p) != "" {
				t.Errorf("PointName(%d, %d) = %q", size, p, impl.PointName(size, p))
			}
		}
	})
	for _, size := range badSizes {
		if impl.PointName(size, 0) != "" {
			t.Errorf("PointName(%d, 0) = %q", size, impl.PointName(size, 0))
		}
	}
}

// TestP4NamesTellPoints checks promise 4.
func TestP4NamesTellPoints(t *testing.T) {
	forSizes(func(size int) {
		for p := range pointsOf(size) {
			if got := impl.ParsePoint(size, impl.PointName(size, p)); got != p {
				t.Errorf("ParsePoint(%d, PointName of %d) = %d", size, p, got)
			}
		}
	})
}

// TestP5EveryPointHasOneName checks promise 5 for all short texts, and for names that are almost right.
func TestP5EveryPointHasOneName(t *testing.T) {
	check := func(size int, s string) {
		want := -1
		if len(s) == 2 {
			column, row := strings.Index("ABCDEFG"[:size], s[:1]), strings.Index("1234567"[:size], s[1:])
			if column >= 0 && row >= 0 {
				want = row*size + column
			}
		}
		got := impl.ParsePoint(size, s)
		if got != want {
			t.Errorf("ParsePoint(%d, %q) = %d, not %d", size, s, got, want)
		}
		if got >= 0 && impl.PointName(size, got) != s {
			t.Errorf("PointName of ParsePoint(%d, %q) = %q", size, s, impl.PointName(size, got))
		}
	}
	forSizes(func(size int) {
		check(size, "")
		for i := range 256 {
			check(size, string([]byte{byte(i)}))
			for j := range 256 {
				check(size, string([]byte{byte(i), byte(j)}))
			}
		}
		for _, s := range []string{"A01", "A1 ", " A1", "A 1", "AA1", "A11", "A1\n", "A1\x00", "A+1", "A-1", "A10", "1A", "a1", "A\u0661", "\uff211", "pass", "A1A1", "A\xc0\xb1"} {
			check(size, s)
		}
	})
	for _, size := range badSizes {
		for _, s := range []string{"", "A1", "B2", "G7", "H8", "A0"} {
			if got := impl.ParsePoint(size, s); got != -1 {
				t.Errorf("ParsePoint(%d, %q) = %d", size, s, got)
			}
		}
	}
}

func TestNeighbors(t *testing.T) {
	for _, x := range []struct {
		size, p int
		want    []int
	}{
		{1, 0, nil}, {2, 0, []int{1, 2}}, {2, 1, []int{0, 3}}, {2, 2, []int{0, 3}}, {2, 3, []int{1, 2}},
		{3, 4, []int{1, 3, 5, 7}}, {3, 2, []int{1, 5}}, {3, 3, []int{0, 4, 6}}, {3, 7, []int{4, 6, 8}},
		{7, 0, []int{1, 7}}, {7, 6, []int{5, 13}}, {7, 7, []int{0, 8, 14}}, {7, 13, []int{6, 12, 20}}, {7, 24, []int{17, 23, 25, 31}},
		{7, 42, []int{35, 43}}, {7, 48, []int{41, 47}}, {7, 45, []int{38, 44, 46}}, {7, 3, []int{2, 4, 10}},
	} {
		if got := impl.Neighbors(x.size, x.p); !slices.Equal(got, x.want) {
			t.Errorf("Neighbors(%d, %d) = %v", x.size, x.p, got)
		}
	}
	forSizes(func(size int) {
		for p := range pointsOf(size) {
			if got := impl.Neighbors(size, p); !slices.Equal(got, modelNeighbors(size, p)) {
				t.Errorf("Neighbors(%d, %d) = %v", size, p, got)
			}
		}
		for _, p := range badPoints(size) {
			if got := impl.Neighbors(size, p); len(got) > 0 {
				t.Errorf("Neighbors(%d, %d) = %v", size, p, got)
			}
		}
	})
	for _, size := range badSizes {
		for _, p := range []int{-1, 0, 1, 9} {
			if got := impl.Neighbors(size, p); len(got) > 0 {
				t.Errorf("Neighbors(%d, %d) = %v", size, p, got)
			}
		}
	}
}

// TestP2NeighborsAreMutual checks promise 2.
func TestP2NeighborsAreMutual(t *testing.T) {
	forSizes(func(size int) {
		for p := range pointsOf(size) {
			list := impl.Neighbors(size, p)
			for _, q := range list {
				if !slices.Contains(impl.Neighbors(size, q), p) {
					t.Errorf("size %d: %d is no neighbour of %d", size, p, q)
				}
			}
			count := 0
			for _, x := range []int{p / size, p % size} {
				if x > 0 {
					count++
				}
				if x < size-1 {
					count++
				}
			}
			if len(list) != count || !slices.IsSorted(list) {
				t.Errorf("Neighbors(%d, %d) = %v", size, p, list)
			}
		}
	})
}

// TestNeighborsAreFresh checks that results do not share memory.
func TestNeighborsAreFresh(t *testing.T) {
	forSizes(func(size int) {
		for p := range pointsOf(size) {
			spoil(impl.Neighbors(size, p))
			if got := impl.Neighbors(size, p); !slices.Equal(got, modelNeighbors(size, p)) {
				t.Errorf("Neighbors(%d, %d) = %v after the result was overwritten", size, p, got)
			}
		}
	})
}

// TestP3SymmetriesKeepNeighbors checks promise 3.
func TestP3SymmetriesKeepNeighbors(t *testing.T) {
	forSizes(func(size int) {
		for k := range symmetries {
			for p := range pointsOf(size) {
				var images []int
				for _, q := range impl.Neighbors(size, p) {
					images = append(images, impl.TransformPoint(size, k, q))
				}
				slices.Sort(images)
				if got := impl.Neighbors(size, impl.TransformPoint(size, k, p)); !slices.Equal(got, images) {
					t.Errorf("size %d, symmetry %d: neighbours of the image of %d are %v, not %v", size, k, p, got, images)
				}
			}
		}
	})
}

func TestTransformPoint(t *testing.T) {
	for k, want := range [symmetries][]int{
		{0, 1, 2, 3, 4, 5, 6, 7, 8}, {2, 5, 8, 1, 4, 7, 0, 3, 6}, {8, 7, 6, 5, 4, 3, 2, 1, 0}, {6, 3, 0, 7, 4, 1, 8, 5, 2},
		{2, 1, 0, 5, 4, 3, 8, 7, 6}, {8, 5, 2, 7, 4, 1, 6, 3, 0}, {6, 7, 8, 3, 4, 5, 0, 1, 2}, {0, 3, 6, 1, 4, 7, 2, 5, 8},
	} {
		for p := range want {
			if got := impl.TransformPoint(3, k, p); got != want[p] {
				t.Errorf("TransformPoint(3, %d, %d) = %d, not %d", k, p, got, want[p])
			}
		}
	}
	forSizes(func(size int) {
		for k := range symmetries {
			for p := range pointsOf(size) {
				if got := impl.TransformPoint(size, k, p); got != modelTransform(size, k, p) {
					t.Errorf("TransformPoint(%d, %d, %d) = %d, not %d", size, k, p, got, modelTransform(size, k, p))
				}
			}
			for _, p := range badPoints(size) {
				if got := impl.TransformPoint(size, k, p); got != -1 {
					t.Errorf("TransformPoint(%d, %d, %d) = %d", size, k, p, got)
				}
			}
		}
		for _, k := range badSymmetries {
			if got := impl.TransformPoint(size, k, 0); got != -1 {
				t.Errorf("TransformPoint(%d, %d, 0) = %d", size, k, got)
			}
		}
	})
	for _, size := range badSizes {
		for k := range symmetries {
			if got := impl.TransformPoint(size, k, 0); got != -1 {
				t.Errorf("TransformPoint(%d, %d, 0) = %d", size, k, got)
			}
		}
	}
}

// TestP6SymmetriesCanBeUndone checks promise 6.
func TestP6SymmetriesCanBeUndone(t *testing.T) {
	forSizes(func(size int) {
		for k := range symmetries {
			seen := map[int]bool{}
			for p := range pointsOf(size) {
				image := impl.TransformPoint(size, k, p)
				if seen[image] || image < 0 || image >= pointsOf(size) {
					t.Errorf("TransformPoint(%d, %d, %d) = %d, which is no point or another image", size, k, p, image)
				}
				seen[image] = true
				times := 4
				if k >= 4 {
					times = 2
				}
				back := p
				for range times {
					back = impl.TransformPoint(size, k, back)
				}
				if back != p {
					t.Errorf("size %d: symmetry %d leads %d times from %d to %d", size, k, times, p, back)
				}
			}
		}
		for p := range pointsOf(size) {
			if impl.TransformPoint(size, 0, p) != p {
				t.Errorf("size %d: symmetry 0 moves %d", size, p)
			}
		}
	})
}

// composed has the symmetry that does what two others do, the first one by row.
var composed = [symmetries][symmetries]int{
	{0, 1, 2, 3, 4, 5, 6, 7},
	{1, 2, 3, 0, 7, 4, 5, 6},
	{2, 3, 0, 1, 6, 7, 4, 5},
	{3, 0, 1, 2, 5, 6, 7, 4},
	{4, 5, 6, 7, 0, 1, 2, 3},
	{5, 6, 7, 4, 3, 0, 1, 2},
	{6, 7, 4, 5, 2, 3, 0, 1},
	{7, 4, 5, 6, 1, 2, 3, 0},
}

func TestComposeOf(t *testing.T) {
	for a := range symmetries {
		for b := range symmetries {
			if got := impl.ComposeOf(a, b); got != composed[a][b] {
				t.Errorf("ComposeOf(%d, %d) = %d, not %d", a, b, got, composed[a][b])
			}
		}
		for _, bad := range badSymmetries {
			if impl.ComposeOf(a, bad) != -1 || impl.ComposeOf(bad, a) != -1 {
				t.Errorf("ComposeOf of %d and %d = %d, %d", a, bad, impl.ComposeOf(a, bad), impl.ComposeOf(bad, a))
			}
		}
	}
	for _, a := range badSymmetries {
		for _, b := range badSymmetries {
			if impl.ComposeOf(a, b) != -1 {
				t.Errorf("ComposeOf(%d, %d) = %d", a, b, impl.ComposeOf(a, b))
			}
		}
	}
}

// TestP7TwoSymmetriesAreOne checks promise 7.
func TestP7TwoSymmetriesAreOne(t *testing.T) {
	forSizes(func(size int) {
		for a := range symmetries {
			for b := range symmetries {
				for p := range pointsOf(size) {
					once := impl.TransformPoint(size, impl.ComposeOf(a, b), p)
					twice := impl.TransformPoint(size, b, impl.TransformPoint(size, a, p))
					if once != twice {
						t.Errorf("size %d: symmetries %d and %d lead from %d to %d, and ComposeOf to %d", size, a, b, p, twice, once)
					}
				}
			}
		}
	})
}

// TestP8ComposingIsAssociative checks promise 8, and that every symmetry has an opposite one.
func TestP8ComposingIsAssociative(t *testing.T) {
	for a := range symmetries {
		opposites := 0
		for b := range symmetries {
			if impl.ComposeOf(a, b) == 0 && impl.ComposeOf(b, a) == 0 {
				opposites++
			}
			for c := range symmetries {
				left := impl.ComposeOf(impl.ComposeOf(a, b), c)
				right := impl.ComposeOf(a, impl.ComposeOf(b, c))
				if left != right || left < 0 || left >= symmetries {
					t.Errorf("symmetries %d, %d and %d are %d or %d", a, b, c, left, right)
				}
			}
		}
		if opposites != 1 || impl.ComposeOf(a, 0) != a || impl.ComposeOf(0, a) != a {
			t.Errorf("symmetry %d has %d opposite ones, or is changed by symmetry 0", a, opposites)
		}
	}
}
