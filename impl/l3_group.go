package impl

// unions is a union-find forest of points: each point leads to a point of its set that is not greater, and the first point of a set to itself.
type unions []int

// newUnions returns a forest in which each of n points is a set.
func newUnions(n int) unions {
	u := make(unions, n)
	for p := range u {
		u[p] = p
	}
	return u
}

// firstOf returns the first point of the set of a point.
func (u unions) firstOf(p int) int {
	for u[p] != p {
		// Skipping every other point keeps the ways short.
		u[p] = u[u[p]]
		p = u[p]
	}
	return p
}

// join makes one set of the sets of two points.
func (u unions) join(p int, q int) {
	a, b := u.firstOf(p), u.firstOf(q)
	u[max(a, b)] = min(a, b)
}

// setOf returns all points of the set of a point, in ascending order.
func (u unions) setOf(p int) []int {
	first := u.firstOf(p)
	var set []int
	for q := range u {
		if u.firstOf(q) == first {
			set = append(set, q)
		}
	}
	return set
}

// joinEqual returns the sets of connected points of one color on a valid board.
func joinEqual(b Board) unions {
	u := newUnions(len(b.Cells))
	for p, color := range b.Cells {
		for _, q := range Neighbors(b.Size, p) {
			if b.Cells[q] == color {
				u.join(p, q)
			}
		}
	}
	return u
}

// hasStone reports whether a board is valid and has a stone at a point.
func hasStone(b Board, p int) bool {
	return ValidBoard(b) && ValidPoint(b.Size, p) && b.Cells[p] != Empty
}

// GroupOf returns the group of a stone.
func GroupOf(b Board, p int) []int {
	if !hasStone(b, p) {
		return nil
	}
	return joinEqual(b).setOf(p)
}

// LibertiesOf returns the liberties of the group of a stone.
func LibertiesOf(b Board, p int) []int {
	return emptyNextTo(b, GroupOf(b, p))
}

// emptyNextTo returns the empty neighbours of some points of a board, in ascending order.
func emptyNextTo(b Board, points []int) []int {
	next := make([]bool, len(b.Cells))
	for _, p := range points {
		for _, q := range Neighbors(b.Size, p) {
			next[q] = b.Cells[q] == Empty
		}
	}
	var found []int
	for q, isNext := range next {
		if isNext {
			found = append(found, q)
		}
	}
	return found
}

// GroupsOf returns all groups of a color.
func GroupsOf(b Board, color int) [][]int {
	if !ValidBoard(b) || !isStone(color) {
		return nil
	}
	u := joinEqual(b)
	var groups [][]int
	for p := range u {
		if b.Cells[p] == color && u.firstOf(p) == p {
			groups = append(groups, u.setOf(p))
		}
	}
	return groups
}

// AtariGroups returns the groups with one liberty.
func AtariGroups(b Board, color int) [][]int {
	var found [][]int
	for _, group := range GroupsOf(b, color) {
		if len(emptyNextTo(b, group)) == 1 {
			found = append(found, group)
		}
	}
	return found
}
