package tests

import (
	"math"
	"math/rand"
	"regexp"
	"slices"
	"strings"
	"testing"

	"loop.example/goboard/impl"
)

// props returns properties from names and texts in turn.
func props(words ...string) []impl.Prop {
	var list []impl.Prop
	for i := 0; i+1 < len(words); i += 2 {
		list = append(list, impl.Prop{Name: words[i], Text: words[i+1]})
	}
	return list
}

// node returns a node with one property.
func node(name string, text string, next ...impl.Record) impl.Record {
	return impl.Record{Props: props(name, text), Next: next}
}

// bare returns a node without properties.
func bare(next ...impl.Record) impl.Record {
	return impl.Record{Next: next}
}

// zeroRecord reports whether a record is the zero value.
func zeroRecord(r impl.Record) bool {
	return len(r.Props) == 0 && len(r.Next) == 0
}

// sameRecord reports whether two records are equal.
func sameRecord(a impl.Record, b impl.Record) bool {
	return slices.Equal(a.Props, b.Props) && slices.EqualFunc(a.Next, b.Next, sameRecord)
}

// samePropLists reports whether two lists of properties are equal.
func samePropLists(a [][]impl.Prop, b [][]impl.Prop) bool {
	return slices.EqualFunc(a, b, slices.Equal)
}

// line returns a record of n nodes without properties, one behind the other.
func line(n int) impl.Record {
	r := bare()
	for range n - 1 {
		r = bare(r)
	}
	return r
}

// star returns a record of n nodes without properties, all but one of them behind the first one.
func star(n int) impl.Record {
	return bare(make([]impl.Record, n-1)...)
}

// loopRecord returns a record that contains itself, as often as told.
func loopRecord(times int) impl.Record {
	r := bare(make([]impl.Record, times)...)
	for i := range r.Next {
		r.Next[i] = r
	}
	return r
}

// badProps are lists of properties that no node has.
func badProps() [][]impl.Prop {
	list := [][]impl.Prop{
		make([]impl.Prop, 1), make([]impl.Prop, impl.MaxProps+1), make([]impl.Prop, 100000),
		props("A", "", "A", "", "A", "", "A", "", "A", ""), props("A", "1", "B", "2", "C", "3", "D", "4", "EF", "5"),
		props("A", "", "", ""), props("", "", "A", ""), props("A", "", "A", "", "A", "", "a", ""),
	}
	for _, name := range []string{"", "ABC", "AAAA", "a", "z", "aB", "Ba", "A1", "1", " ", "A ", " A", "@", "[", "A[", "`", "Ä", "\xc4", "A\x00", "\x00", "A;", "(A", strings.Repeat("A", 1<<20)} {
		list = append(list, props(name, "A1"))
	}
	for _, text := range []string{"[", "]", "A[", "]A", "[]", "A1]B[A2", "\n", "\t", "\x00", "\x1f", "\x7f", "A1\x7f", "\x80", "\xff", "é", "A1\n", strings.Repeat("A", 21), strings.Repeat(" ", 22), strings.Repeat("~", 1<<20), strings.Repeat("A", 19) + "é"} {
		list = append(list, props("B", text), props("B", "A1", "W", text))
	}
	return list
}

// badRecords returns records that are not valid.
func badRecords() []impl.Record {
	full := line(impl.MaxRecord)
	full.Next = append(full.Next, bare())
	list := []impl.Record{
		line(31), line(32), line(1000), star(31), star(32), star(100000), full, loopRecord(1), loopRecord(2), loopRecord(3), bare(bare(), loopRecord(1)),
		bare(line(15), line(15)), bare(star(15), line(15)), bare(bare(), line(14), star(15)),
	}
	for _, bad := range badProps() {
		one := impl.Record{Props: bad}
		list = append(list, one, impl.Record{Props: bad, Next: []impl.Record{bare()}}, bare(one), bare(bare(), one), node("B", "A1", bare(), bare(bare(one))))
	}
	return list
}

// nameForm is what names look like.
var nameForm = regexp.MustCompile(`^[A-Z][A-Z]?$`)

// textForm is what texts look like.
var textForm = regexp.MustCompile(`^[ -Z\\^-~]{0,20}$`)

// modelNodes returns the number of nodes of a record.
func modelNodes(r impl.Record) int {
	n := 1
	for _, next := range r.Next {
		n += modelNodes(next)
	}
	return n
}

// modelValidRecord reports whether a record that does not contain itself is valid.
func modelValidRecord(r impl.Record) bool {
	if modelNodes(r) > 30 || len(r.Props) > 4 {
		return false
	}
	for _, p := range r.Props {
		if !nameForm.MatchString(p.Name) || !textForm.MatchString(p.Text) {
			return false
		}
	}
	return !slices.ContainsFunc(r.Next, func(next impl.Record) bool { return !modelValidRecord(next) })
}

// modelFormat returns the text of a record, without the parentheses around it.
func modelFormat(r impl.Record) string {
	text := ";"
	for _, p := range r.Props {
		text += p.Name + "[" + p.Text + "]"
	}
	var parts []string
	for _, next := range r.Next {
		parts = append(parts, modelFormat(next))
	}
	switch len(parts) {
	case 0:
		return text
	case 1:
		return text + parts[0]
	}
	return text + "(" + strings.Join(parts, ")(") + ")"
}

// recordPart is a part of the text of a record: a parenthesis, a semicolon, or a property.
var recordPart = regexp.MustCompile(`^(?:[();]|([A-Z]+)\[([^\[\]]*)\])`)

// modelTree is a node whose nodes can still become more.
type modelTree struct {
	props []impl.Prop
	next  []*modelTree
}

// record returns a tree as a record.
func (m *modelTree) record() impl.Record {
	r := impl.Record{Props: m.props}
	for _, next := range m.next {
		r.Next = append(r.Next, next.record())
	}
	return r
}

// modelRead returns the record with a text in which there may be too many or too few parentheses, and whether there is one.
func modelRead(text string) (impl.Record, bool) {
	root := &modelTree{}
	last := root
	var opened []*modelTree
	for text != "" {
		part := recordPart.FindStringSubmatch(text)
		switch {
		case part == nil || part[0] == ")" && len(opened) == 0 || part[1] != "" && last == root:
			return impl.Record{}, false
		case part[0] == "(":
			opened = append(opened, last)
		case part[0] == ")":
			last, opened = opened[len(opened)-1], opened[:len(opened)-1]
		case part[0] == ";":
			added := &modelTree{}
			last.next = append(last.next, added)
			last = added
		default:
			last.props = append(last.props, impl.Prop{Name: part[1], Text: part[2]})
		}
		text = text[len(part[0]):]
	}
	if len(root.next) != 1 {
		return impl.Record{}, false
	}
	return root.next[0].record(), true
}

// modelParse returns the valid record with exactly a text, and whether there is one.
func modelParse(text string) (impl.Record, bool) {
	r, ok := modelRead(text)
	if !ok || !modelValidRecord(r) || "("+modelFormat(r)+")" != text {
		return impl.Record{}, false
	}
	return r, true
}

// modelPaths returns the properties of all nodes behind a record and of those that lead to each of them, nodes that come first in the text first.
func modelPaths(r impl.Record) [][][]impl.Prop {
	var list [][][]impl.Prop
	for _, next := range r.Next {
		list = append(list, [][]impl.Prop{next.Props})
		for _, path := range modelPaths(next) {
			list = append(list, append([][]impl.Prop{next.Props}, path...))
		}
	}
	return list
}

// modelMerge returns two records together, path by path.
func modelMerge(a impl.Record, b impl.Record) (impl.Record, bool) {
	merged := modelCopy(a)
	for _, path := range modelPaths(b) {
		at := merged
		for _, properties := range path {
			i := slices.IndexFunc(at.next, func(m *modelTree) bool { return slices.Equal(m.props, properties) })
			if i < 0 {
				i = len(at.next)
				at.next = append(at.next, &modelTree{props: properties})
			}
			at = at.next[i]
		}
	}
	r := merged.record()
	if !slices.Equal(a.Props, b.Props) || !modelValidRecord(r) {
		return impl.Record{}, false
	}
	return r, true
}

// modelCopy returns a record as a tree.
func modelCopy(r impl.Record) *modelTree {
	m := &modelTree{props: r.Props}
	for _, next := range r.Next {
		m.next = append(m.next, modelCopy(next))
	}
	return m
}

// mixedRecord returns a record of at most n nodes, with few different properties if they are plain.
func mixedRecord(mixed *rand.Rand, n int, plain bool) impl.Record {
	var r impl.Record
	switch {
	case plain && mixed.Intn(3) > 0:
		r.Props = props([]string{"B", "W"}[mixed.Intn(2)], []string{"A1", "B2", ""}[mixed.Intn(3)])
	case !plain:
		for range mixed.Intn(5) {
			r.Props = append(r.Props, mixedProp(mixed))
		}
	}
	n--
	for n > 0 && mixed.Intn(6) > 0 {
		size := 1 + mixed.Intn(n)
		r.Next = append(r.Next, mixedRecord(mixed, size, plain))
		n -= size
	}
	return r
}

// mixedProp returns any valid property.
func mixedProp(mixed *rand.Rand) impl.Prop {
	const letters = " !\"#$%&'()*+,-./0123456789:;<=>?@ABCXYZ\\^_`abcxyz{|}~"
	var p impl.Prop
	for range 1 + mixed.Intn(2) {
		p.Name += string(rune('A' + mixed.Intn(26)))
	}
	for range mixed.Intn(21) {
		i := mixed.Intn(len(letters))
		p.Text += letters[i : i+1]
	}
	return p
}

// fullRecord returns the record with the longest text: as many nodes, properties and bytes as there may be.
func fullRecord() impl.Record {
	long := impl.Record{}
	for range impl.MaxProps {
		long.Props = append(long.Props, impl.Prop{Name: "ZZ", Text: strings.Repeat("~", impl.MaxText)})
	}
	r := long
	for range impl.MaxRecord - 1 {
		r.Next = append(r.Next, long)
	}
	return r
}

// sampleRecords returns valid records: of one node, of lines, of several nodes behind one, of as many nodes as there may be, and mixed ones.
func sampleRecords() []impl.Record {
	list := []impl.Record{
		bare(), bare(bare()), bare(bare(), bare()), line(3), line(29), line(30), star(3), star(29), star(30), bare(line(15), line(14)), bare(line(10), star(10), line(9)), fullRecord(),
		node("B", "A1"), node("B", ""), node("AZ", " ~"), {Props: props("A", "1", "A", "1", "A", "1", "A", "1")}, {Props: props("GM", "1", "SZ", "7", "KM", "6.5", "C", "a;b(c)\\{d}")},
		node("B", "A1", node("W", "B2"), node("W", "C3")), node("B", "A1", node("W", "C3", node("B", "D4")), node("W", "E5")), node("B", "A1", node("W", "B2"), node("W", "B2", node("B", "C3"))),
		node("B", "A1", bare(node("W", "A1"), node("W", "A1")), bare()), node("B", "A1", node("W", "B2", node("B", "C3", node("W", "D4")))), {Props: props("B", "A1"), Next: []impl.Record{{Props: []impl.Prop{}, Next: []impl.Record{}}}},
	}
	mixed := rand.New(rand.NewSource(60))
	for i := range 400 {
		list = append(list, mixedRecord(mixed, 1+i%30, i%4 > 0))
	}
	return list
}

// forRecordPairs calls a function for pairs of valid records with equal properties.
func forRecordPairs(f func(a impl.Record, b impl.Record)) {
	list := sampleRecords()
	for i, a := range list {
		for j := i % 3; j < len(list); j += 3 {
			b := list[j]
			b.Props = a.Props
			f(a, b)
		}
	}
}

// badPatterns are numbers that are no patterns.
var badPatterns = []int{-1, 65536, 65537, 1 << 16, 1 << 20, -65535, math.MaxInt, math.MinInt}

// ringOrder has the digits of a pattern in the order in which they are around the point, from the lower left one on.
var ringOrder = [8]int{0, 1, 2, 4, 7, 6, 5, 3}

// modelRing returns the digits of a pattern around the point.
func modelRing(n int) [8]int {
	var ring [8]int
	for i, digit := range ringOrder {
		ring[i] = n >> (2 * digit) & 3
	}
	return ring
}

// ringPattern returns the pattern with digits around the point.
func ringPattern(ring [8]int) int {
	n := 0
	for i, digit := range ringOrder {
		n |= ring[i] << (2 * digit)
	}
	return n
}

// modelPatterns returns all images of a pattern, found by going around the point from each corner in both directions.
func modelPatterns(n int) []int {
	ring := modelRing(n)
	var list []int
	for corner := 0; corner < 8; corner += 2 {
		for _, step := range []int{1, 7} {
			var image [8]int
			for i := range image {
				image[i] = ring[(corner+step*i)%8]
			}
			list = append(list, ringPattern(image))
		}
	}
	return list
}

// modelPattern returns the pattern around a point.
func modelPattern(b impl.Board, p int) int {
	n, unit := 0, 1
	for dr := -1; dr <= 1; dr++ {
		for dc := -1; dc <= 1; dc++ {
			if dr == 0 && dc == 0 {
				continue
			}
			r, c := p/b.Size+dr, p%b.Size+dc
			digit := 3
			if r >= 0 && r < b.Size && c >= 0 && c < b.Size {
				digit = b.Cells[r*b.Size+c]
			}
			n += digit * unit
			unit *= 4
		}
	}
	return n
}

// modelFind returns the empty points whose patterns are images of a pattern.
func modelFind(b impl.Board, n int) []int {
	images := modelPatterns(n)
	var list []int
	for p, color := range b.Cells {
		if color == impl.Empty && slices.Contains(images, modelPattern(b, p)) {
			list = append(list, p)
		}
	}
	return list
}

// modelKey returns the key of a stone, where the remainder is what the last 20 bits are.
func modelKey(p int, color int) int {
	key := 2*p + color
	for range 4 {
		key = (48271*key + 11) & (1<<20 - 1)
	}
	return key
}

// modelHash returns the hash of a board.
func modelHash(b impl.Board) int {
	hash := 0
	for p, color := range b.Cells {
		if color != impl.Empty {
			hash ^= modelKey(p, color)
		}
	}
	return hash
}

// TestRecordModel checks that the models take what they should.
func TestRecordModel(t *testing.T) {
	for _, r := range sampleRecords() {
		if !modelValidRecord(r) {
			t.Errorf("%s is not valid", modelFormat(r))
		}
	}
	if got := len("(" + modelFormat(fullRecord()) + ")"); got != 2970 {
		t.Errorf("the longest text has %d bytes", got)
	}
	if got := modelPatterns(1); !slices.Equal(slices.Sorted(slices.Values(got)), []int{1, 1, 16, 16, 1 << 10, 1 << 10, 1 << 14, 1 << 14}) {
		t.Errorf("the images of 1 are %v", got)
	}
}
