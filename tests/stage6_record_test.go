package tests

import (
	"math/rand"
	"slices"
	"strings"
	"testing"

	"loop.example/goboard/impl"
)

// recordText returns the text of a record for messages, also if it is not valid.
func recordText(r impl.Record) string {
	return "(" + modelFormat(r) + ")"
}

// checkNoRecord checks the result of a call that fails.
func checkNoRecord(t *testing.T, name string, r impl.Record, ok bool) {
	t.Helper()
	if ok || !zeroRecord(r) {
		t.Errorf("%s = %s, %v", name, recordText(r), ok)
	}
}

// TestConstantsOfRecords checks limits.
func TestConstantsOfRecords(t *testing.T) {
	if impl.MaxRecord != 30 || impl.MaxProps != 4 || impl.MaxText != 20 || impl.MaxLength != 3200 {
		t.Error("limits")
	}
}

// TestValidRecord checks records with as many nodes and properties as are allowed, and with one more, and other invalid ones.
func TestValidRecord(t *testing.T) {
	for _, r := range sampleRecords() {
		if !impl.ValidRecord(r) {
			t.Errorf("ValidRecord of %s is false", recordText(r))
		}
	}
	for i, r := range badRecords() {
		if impl.ValidRecord(r) {
			t.Errorf("ValidRecord of record %d is true", i)
		}
	}
	many := node("B", "A1", line(14), star(15))
	if !impl.ValidRecord(many) {
		t.Error("ValidRecord of a record of 30 nodes is false")
	}
	many.Next[1].Next[13] = bare(bare())
	if impl.ValidRecord(many) {
		t.Error("ValidRecord of a record of 31 nodes is true")
	}
}

// TestBytesOfProps checks every byte in names and in texts.
func TestBytesOfProps(t *testing.T) {
	for n := range 256 {
		letter := string([]byte{byte(n)})
		capital := n >= 'A' && n <= 'Z'
		for _, name := range []string{letter, "A" + letter, letter + "Z"} {
			if got := impl.ValidRecord(node(name, "")); got != capital {
				t.Errorf("ValidRecord with the name %q is %v", name, got)
			}
		}
		plain := n >= 32 && n <= 126 && n != '[' && n != ']'
		for _, text := range []string{letter, "A" + letter, letter + "z", strings.Repeat("x", 19) + letter} {
			if got := impl.ValidRecord(node("C", text)); got != plain {
				t.Errorf("ValidRecord with the text %q is %v", text, got)
			}
			r, ok := impl.ParseRecord("(;C[" + text + "])")
			if ok != plain || ok && !sameRecord(r, node("C", text)) || !ok && !zeroRecord(r) {
				t.Errorf("ParseRecord with the text %q is %s, %v", text, recordText(r), ok)
			}
		}
	}
}

// TestFormatRecord checks nodes without properties, with several, in lines, and behind one node.
func TestFormatRecord(t *testing.T) {
	for _, x := range []struct {
		r    impl.Record
		want string
	}{
		{bare(), "(;)"}, {impl.Record{Props: []impl.Prop{}, Next: []impl.Record{}}, "(;)"}, {node("B", "A1"), "(;B[A1])"}, {node("AB", ""), "(;AB[])"}, {node("C", " a ~ "), "(;C[ a ~ ])"}, {node("C", ";B(x)"), "(;C[;B(x)])"},
		{impl.Record{Props: props("B", "A1", "B", "A1", "C", "", "GM", "1")}, "(;B[A1]B[A1]C[]GM[1])"},
		{bare(bare()), "(;;)"}, {line(4), "(;;;;)"}, {node("B", "A1", node("W", "")), "(;B[A1];W[])"}, {bare(bare(), bare()), "(;(;)(;))"}, {star(4), "(;(;)(;)(;))"},
		{node("B", "A1", node("W", "B2"), node("W", "C3")), "(;B[A1](;W[B2])(;W[C3]))"},
		{bare(bare(bare(), bare())), "(;;(;)(;))"}, {bare(bare(bare()), bare()), "(;(;;)(;))"}, {bare(bare(), bare(bare(), bare())), "(;(;)(;(;)(;)))"},
		{node("B", "A1", node("W", "C3", node("B", "D4", node("W", "E5"), bare())), node("W", "B2", node("B", "E5"))), "(;B[A1](;W[C3];B[D4](;W[E5])(;))(;W[B2];B[E5]))"},
		{line(30), "(" + strings.Repeat(";", 30) + ")"}, {star(30), "(;" + strings.Repeat("(;)", 29) + ")"},
	} {
		if got := impl.FormatRecord(x.r); got != x.want {
			t.Errorf("FormatRecord = %q, not %q", got, x.want)
		}
		if got, ok := impl.ParseRecord(x.want); !ok || !sameRecord(got, x.r) {
			t.Errorf("ParseRecord(%q) = %s, %v", x.want, recordText(got), ok)
		}
	}
	for _, r := range sampleRecords() {
		if got := impl.FormatRecord(r); got != recordText(r) {
			t.Errorf("FormatRecord = %q, not %q", got, recordText(r))
		}
	}
	for i, r := range badRecords() {
		if got := impl.FormatRecord(r); got != "" {
			t.Errorf("FormatRecord of record %d = %q", i, got)
		}
	}
}

// almostRecords are texts that are almost those of records.
var almostRecords = []string{
	"", "(", ")", ";", "()", "(;", ";)", ")(", ");(", "(;))", "((;))", "(;)(;)", "(;) ", " (;)", "(;)\n", "( ;)", "(; )", "(;)x", "x(;)", "(;);", ";(;)", "(())", "(();)", "{;}", "[;]",
	";B[A1]", "(;B[A1]", ";B[A1])", "(B[A1])", "((;B[A1]))", "(;B[A1])x", "(;B[A1]))", "(;B[A1])(;B[A1])", "(;B[A1])(", "(;B[A1]x)", "(;xB[A1])", "(;B[A1] )", "(; B[A1])", "(;B [A1])", "(;B[A1] W[B2])",
	"(;b[A1])", "(;Bb[A1])", "(;ABC[A1])", "(;[A1])", "(;B1[A1])", "(;B)", "(;B[)", "(;B])", "(;B[A1)", "(;BA1])", "(;B[A[1]])", "(;B[A]1])", "(;B[[A1]])", "(;B[A1]])", "(;B[A1[])", "(;B[A1][B2])", "(;B[A1]W)", "(;B[A1]W[)", "(;B;W[A1])", "(;B(;W[A1]))", "(;\xc4[A1])", "(;B[\xe9])", "(;B[\x7f])", "(;B[A\n])", "(;B[\x00])",
	"(;B[A1](;W[B2]))", "(;(;))", "(;;(;))", "(;(;;))", "(;(;)(;)", "(;(;)(;)))", "(;(;)(;);)", "(;(;);(;))", "(;(;)x(;))", "(;(;) (;))", "(;(;)())", "(;()(;))", "(;((;)(;)))", "(;((;))(;))", "(;(;(;))(;))", "(;(;)(;(;)))", "(;(;)(;)B[A1])", "(;(;B[A1])(W[B2]))", "(;(;)(;)(;)x)", "(;;(;)(;)", "(;(;)(;))(;)",
	"(;A[]B[]C[]D[]E[])", "(;;A[1]A[1]A[1]A[1]A[1])", "(;B[" + "123456789012345678901" + "])",
}

// TestParseRecord checks texts that are almost right, too long, or deep.
func TestParseRecord(t *testing.T) {
	list := slices.Concat(almostRecords, []string{
		"(" + strings.Repeat(";", 31) + ")", "(;" + strings.Repeat("(;)", 30) + ")", "(;" + strings.Repeat(";", 14) + "(;" + strings.Repeat(";", 7) + ")(;" + strings.Repeat(";", 7) + "))",
		strings.Repeat("(", 3200), strings.Repeat(";", 3200), "(" + strings.Repeat(";", 3198) + ")", "(" + strings.Repeat(";", 3199) + ")", strings.Repeat("(;", 1600), strings.Repeat("(;", 1066) + strings.Repeat(")", 1066),
		strings.Repeat("(;", 1<<20), strings.Repeat("(", 1<<20), strings.Repeat(";", 1<<22), "(" + strings.Repeat(";", 1<<22) + ")", strings.Repeat("(;", 1<<20) + strings.Repeat(")", 1<<20), "(;B[" + strings.Repeat("A", 1<<22) + "])", "(;" + strings.Repeat("B", 1<<22), "(;B[A1])" + strings.Repeat(" ", 1<<22),
	})
	for _, text := range list {
		r, ok := impl.ParseRecord(text)
		checkNoRecord(t, "ParseRecord of "+text[:min(len(text), 60)], r, ok)
	}
	long := "12345678901234567890"
	for _, x := range []struct {
		text string
		want impl.Record
	}{
		{"(;B[" + long + "])", node("B", long)}, {"(;A[]B[]C[]D[])", impl.Record{Props: props("A", "", "B", "", "C", "", "D", "")}}, {"(;B[A1];(;)(;))", node("B", "A1", bare(bare(), bare()))}, {"(;C[(;)];W[;B])", node("C", "(;)", node("W", ";B"))},
	} {
		if r, ok := impl.ParseRecord(x.text); !ok || !sameRecord(r, x.want) {
			t.Errorf("ParseRecord(%q) = %s, %v", x.text, recordText(r), ok)
		}
	}
}

// checkParse checks ParseRecord against the model, and promise 93.
func checkParse(t *testing.T, text string) bool {
	t.Helper()
	r, ok := impl.ParseRecord(text)
	want, found := modelParse(text)
	if ok != found || !sameRecord(r, want) {
		t.Fatalf("ParseRecord(%q) = %s, %v, not %v", text, recordText(r), ok, found)
	}
	if ok && impl.FormatRecord(r) != text {
		t.Fatalf("ParseRecord accepts %q, but FormatRecord is %q", text, impl.FormatRecord(r))
	}
	return ok
}

// TestAllShortTexts checks all short texts of the letters that texts of records have.
func TestAllShortTexts(t *testing.T) {
	const letters = "(;)B[]"
	texts := []string{""}
	accepted := 0
	for range 7 {
		var longer []string
		for _, text := range texts {
			for i := range letters {
				longer = append(longer, text+letters[i:i+1])
			}
		}
		for _, text := range longer {
			if checkParse(t, text) {
				accepted++
			}
		}
		texts = longer
	}
	// One to five nodes without properties; and a node with one, also with a node before it or behind it, with a name of two letters, or with a text of one of four.
	if accepted != 13 {
		t.Errorf("%d texts are accepted", accepted)
	}
}

// TestP93EveryRecordHasOneText checks promise 93 for texts of records in which a byte is changed, removed, doubled, or new.
func TestP93EveryRecordHasOneText(t *testing.T) {
	accepted, refused := 0, 0
	for i, r := range sampleRecords() {
		text := impl.FormatRecord(r)
		step := 1 + len(text)/60
		for at := i % step; at < len(text); at += step {
			changed := []string{text[:at] + text[at+1:], text[:at] + text[at:at+1] + text[at:]}
			for _, letter := range []string{"(", ")", ";", "[", "]", "B", "b", " "} {
				changed = append(changed, text[:at]+letter+text[at:], text[:at]+letter+text[at+1:])
			}
			for _, one := range changed {
				if checkParse(t, one) {
					accepted++
				} else {
					refused++
				}
			}
		}
	}
	if accepted < 1000 || refused < 1000 {
		t.Errorf("only %d texts are accepted, and %d are not", accepted, refused)
	}
}

// TestP92TextsOfRecordsLoseNothing checks promise 92.
func TestP92TextsOfRecordsLoseNothing(t *testing.T) {
	for _, r := range sampleRecords() {
		if got, ok := impl.ParseRecord(impl.FormatRecord(r)); !ok || !sameRecord(got, r) {
			t.Errorf("ParseRecord of FormatRecord = %s, %v, not %s", recordText(got), ok, recordText(r))
		}
	}
}

// TestP91RecordsAreMadeOfRecords checks promise 91.
func TestP91RecordsAreMadeOfRecords(t *testing.T) {
	list := sampleRecords()
	for _, r := range slices.Clone(list) {
		list = append(list, bare(bare(), r), node("ABC", "", r))
	}
	for _, r := range list {
		if got := impl.ValidRecord(r); got != modelValidRecord(r) {
			t.Fatalf("ValidRecord(%s) = %v", recordText(r), got)
		}
		for _, next := range r.Next {
			if impl.ValidRecord(r) && !impl.ValidRecord(next) {
				t.Fatalf("ValidRecord(%s) is true, but not of %s", recordText(r), recordText(next))
			}
		}
	}
}

// TestMainLine checks records of one node and of several, nodes without properties, and invalid records.
func TestMainLine(t *testing.T) {
	for _, x := range []struct {
		r    impl.Record
		want [][]impl.Prop
	}{
		{bare(), [][]impl.Prop{nil}}, {line(3), [][]impl.Prop{nil, nil, nil}}, {star(30), [][]impl.Prop{nil, nil}}, {node("B", "A1"), [][]impl.Prop{props("B", "A1")}},
		{node("B", "A1", bare(node("W", "B2")), node("W", "C3")), [][]impl.Prop{props("B", "A1"), nil, props("W", "B2")}},
		{node("B", "A1", node("W", "B2"), node("W", "C3", node("B", "D4"))), [][]impl.Prop{props("B", "A1"), props("W", "B2")}},
		{node("B", "A1", node("W", "C3", node("B", "D4"), node("B", "E5")), node("W", "B2")), [][]impl.Prop{props("B", "A1"), props("W", "C3"), props("B", "D4")}},
		{impl.Record{Props: props("B", "A1", "C", ""), Next: []impl.Record{{Props: props("C", "", "W", "B2")}}}, [][]impl.Prop{props("B", "A1", "C", ""), props("C", "", "W", "B2")}},
	} {
		if got := impl.MainLine(x.r); !samePropLists(got, x.want) {
			t.Errorf("MainLine(%s) = %v, not %v", recordText(x.r), got, x.want)
		}
	}
	for i, r := range badRecords() {
		if got := impl.MainLine(r); len(got) > 0 {
			t.Errorf("MainLine of record %d = %v", i, got)
		}
	}
}

// TestP94TheMainLineGoesOn checks promise 94.
func TestP94TheMainLineGoesOn(t *testing.T) {
	for _, r := range sampleRecords() {
		want := [][]impl.Prop{r.Props}
		if len(r.Next) > 0 {
			want = append(want, impl.MainLine(r.Next[0])...)
		}
		if got := impl.MainLine(r); !samePropLists(got, want) {
			t.Errorf("MainLine(%s) = %v, not %v", recordText(r), got, want)
		}
	}
}

// TestP150LinesEnd checks promise 150.
func TestP150LinesEnd(t *testing.T) {
	longest := 0
	for _, r := range sampleRecords() {
		got := impl.MainLine(r)
		longest = max(longest, len(got))
		if len(got) > impl.MaxRecord {
			t.Errorf("MainLine(%s) has %d parts", recordText(r), len(got))
		}
		ahead := node("C", "ahead", r)
		if modelNodes(r) < impl.MaxRecord && !samePropLists(impl.MainLine(ahead), append([][]impl.Prop{props("C", "ahead")}, got...)) {
			t.Errorf("MainLine(%s) = %v", recordText(ahead), impl.MainLine(ahead))
		}
	}
	if longest != impl.MaxRecord {
		t.Errorf("the longest line has %d parts", longest)
	}
}

// TestMergeRecords checks nodes that follow one or both, nodes with equal properties, and new nodes.
func TestMergeRecords(t *testing.T) {
	for _, x := range []struct{ a, b, want string }{
		{"(;)", "(;)", "(;)"}, {"(;B[A1])", "(;B[A1])", "(;B[A1])"}, {"(;;)", "(;)", "(;;)"}, {"(;)", "(;;)", "(;;)"}, {"(;;)", "(;;)", "(;;)"}, {"(;B[])", "(;B[](;W[A1])(;W[B2]))", "(;B[](;W[A1])(;W[B2]))"},
		{"(;B[A1];W[B2])", "(;B[A1];W[C3])", "(;B[A1](;W[B2])(;W[C3]))"}, {"(;B[A1];W[B2];B[C3])", "(;B[A1];W[B2];B[D4])", "(;B[A1];W[B2](;B[C3])(;B[D4]))"}, {"(;;W[B2])", "(;(;W[C3])(;W[B2];B[D4]))", "(;(;W[B2];B[D4])(;W[C3]))"},
		{"(;B[A1](;W[B2])(;W[C3]))", "(;B[A1](;W[C3];B[D4])(;W[E5]))", "(;B[A1](;W[B2])(;W[C3];B[D4])(;W[E5]))"},
		// Nodes with other names, other texts, and properties in another order are different ones.
		{"(;;B[A1]W[B2])", "(;;W[B2]B[A1])", "(;(;B[A1]W[B2])(;W[B2]B[A1]))"}, {"(;;B[A1])", "(;;B[A1]B[A1])", "(;(;B[A1])(;B[A1]B[A1]))"}, {"(;;B[A1])", "(;;W[A1])", "(;(;B[A1])(;W[A1]))"}, {"(;;B[])", "(;;)", "(;(;B[])(;))"}, {"(;;C[a])", "(;;C[A])", "(;(;C[a])(;C[A]))"},
		// Of several nodes with equal properties the first one is taken, and the first record keeps all of its own.
		{"(;(;B[A1])(;B[A1]))", "(;;B[A1];W[B2])", "(;(;B[A1];W[B2])(;B[A1]))"}, {"(;(;C[x])(;B[A1];W[C3])(;B[A1];W[B2]))", "(;;B[A1];W[B2])", "(;(;C[x])(;B[A1](;W[C3])(;W[B2]))(;B[A1];W[B2]))"}, {"(;(;)(;)(;;))", "(;)", "(;(;)(;)(;;))"},
		// Of the second record they become one, also if the node is new.
		{"(;)", "(;(;B[A1])(;B[A1]))", "(;;B[A1])"}, {"(;)", "(;(;B[A1];W[B2])(;C[x])(;B[A1];W[C3]))", "(;(;B[A1](;W[B2])(;W[C3]))(;C[x]))"}, {"(;C[x])", "(;C[x];(;;W[A1])(;;W[A1];B[B2]))", "(;C[x];;;W[A1];B[B2])"}, {"(;;;B[A1])", "(;(;;B[A1];W[B2])(;;B[A1];W[C3])(;(;B[A1];W[C3])(;B[D4])))", "(;;(;B[A1](;W[B2])(;W[C3]))(;B[D4]))"},
	} {
		a, okA := impl.ParseRecord(x.a)
		b, okB := impl.ParseRecord(x.b)
		got, ok := impl.MergeRecords(a, b)
		if !okA || !okB || !ok || recordText(got) != x.want {
			t.Errorf("MergeRecords(%q, %q) = %q, %v, not %q", x.a, x.b, recordText(got), ok, x.want)
		}
	}
}

// TestMergeFails checks records with different properties, results that are too great, and invalid records.
func TestMergeFails(t *testing.T) {
	for _, x := range []struct{ a, b []impl.Prop }{
		{nil, props("B", "A1")}, {props("B", "A1"), props("W", "A1")}, {props("B", "A1"), props("B", "A2")}, {props("B", "A1"), props("B", "A1", "C", "")}, {props("B", "A1", "W", "A1"), props("W", "A1", "B", "A1")}, {props("B", ""), props("BB", "")}, {props("B", "a"), props("B", "A")},
	} {
		for _, next := range [][]impl.Record{nil, {bare()}, {bare(), bare()}} {
			a, b := impl.Record{Props: x.a, Next: next}, impl.Record{Props: x.b, Next: next}
			got, ok := impl.MergeRecords(a, b)
			checkNoRecord(t, "MergeRecords", got, ok)
			got, ok = impl.MergeRecords(b, a)
			checkNoRecord(t, "MergeRecords", got, ok)
		}
	}
	great := bare(line(14), node("B", "A1"))
	for _, x := range []struct {
		a, b impl.Record
		ok   bool
	}{
		{great, bare(node("W", "A1", line(13))), true}, {great, bare(node("W", "A1", line(14))), false}, {bare(node("W", "A1", line(14))), great, false}, {star(30), star(30), true}, {star(30), bare(node("B", "A1")), false}, {line(30), bare(node("B", "A1")), false}, {line(30), line(30), true}, {bare(), line(30), true}, {bare(), star(30), true}, {star(30), bare(bare(bare())), false},
	} {
		got, ok := impl.MergeRecords(x.a, x.b)
		if ok != x.ok || ok && modelNodes(got) > 30 || !ok && !zeroRecord(got) {
			t.Errorf("MergeRecords(%s, %s) = %s, %v", recordText(x.a), recordText(x.b), recordText(got), ok)
		}
	}
	for _, bad := range badRecords() {
		for _, other := range []impl.Record{bare(), {Props: bad.Props}, bad} {
			got, ok := impl.MergeRecords(bad, other)
			checkNoRecord(t, "MergeRecords of a bad record", got, ok)
			got, ok = impl.MergeRecords(other, bad)
			checkNoRecord(t, "MergeRecords with a bad record", got, ok)
		}
	}
}

// TestMergeModel checks MergeRecords against merging path by path.
func TestMergeModel(t *testing.T) {
	merged, great := 0, 0
	forRecordPairs(func(a impl.Record, b impl.Record) {
		want, found := modelMerge(a, b)
		got, ok := impl.MergeRecords(a, b)
		if ok != found || !sameRecord(got, want) {
			t.Fatalf("MergeRecords(%s, %s) = %s, %v, not %s, %v", recordText(a), recordText(b), recordText(got), ok, recordText(want), found)
		}
		if ok {
			merged++
		} else {
			great++
		}
	})
	if merged < 1000 || great < 1000 {
		t.Errorf("only %d records are merged, and %d are too great", merged, great)
	}
}

// TestP95MergingKeepsTheFirstRecord checks promise 95, where the main line may go on behind its end.
func TestP95MergingKeepsTheFirstRecord(t *testing.T) {
	forRecordPairs(func(a impl.Record, b impl.Record) {
		merged, ok := impl.MergeRecords(a, b)
		if !ok {
			return
		}
		first, long := impl.MainLine(a), impl.MainLine(merged)
		if len(long) < len(first) || !samePropLists(long[:len(first)], first) {
			t.Fatalf("MainLine of MergeRecords(%s, %s) = %v", recordText(a), recordText(b), long)
		}
		if again, ok := impl.MergeRecords(merged, b); !ok || !sameRecord(again, merged) {
			t.Fatalf("merging %s again into %s makes %s, %v", recordText(b), recordText(merged), recordText(again), ok)
		}
	})
}

// spareRecord returns a copy of a record in which behind all lists there is spare capacity with marks.
func spareRecord(r impl.Record) impl.Record {
	spare := impl.Record{Props: append(slices.Clone(r.Props), props("MA", "spare", "MB", "spare")...)[:len(r.Props)]}
	var next []impl.Record
	for _, one := range r.Next {
		next = append(next, spareRecord(one))
	}
	spare.Next = append(next, node("MC", "spare"), node("MD", "spare"))[:len(r.Next)]
	return spare
}

// wholeRecord returns a text of a record with all that is in the spare capacity of its lists.
func wholeRecord(r impl.Record) string {
	text := "{"
	for _, p := range r.Props[:cap(r.Props)] {
		text += p.Name + "[" + p.Text + "]"
	}
	for _, next := range r.Next[:cap(r.Next)] {
		text += wholeRecord(next)
	}
	return text + "}"
}

// recordMemory is the places of properties and nodes that have been seen.
type recordMemory struct {
	props map[*impl.Prop]bool
	nodes map[*impl.Record]bool
}

// newRecordMemory returns a memory without places.
func newRecordMemory() recordMemory {
	return recordMemory{props: map[*impl.Prop]bool{}, nodes: map[*impl.Record]bool{}}
}

// addProps adds the places of properties, spare capacity included, and reports whether all are new.
func (m recordMemory) addProps(list []impl.Prop) bool {
	whole := list[:cap(list)]
	for i := range whole {
		if m.props[&whole[i]] {
			return false
		}
		m.props[&whole[i]] = true
	}
	return true
}

// add adds the places of a record, spare capacity included, and reports whether all are new.
func (m recordMemory) add(r impl.Record) bool {
	if !m.addProps(r.Props) {
		return false
	}
	whole := r.Next[:cap(r.Next)]
	for i := range whole {
		if m.nodes[&whole[i]] {
			return false
		}
		m.nodes[&whole[i]] = true
		if i < len(r.Next) && !m.add(r.Next[i]) {
			return false
		}
	}
	return true
}

// addLists adds the places of lists of properties, and reports whether all are new.
func (m recordMemory) addLists(lists [][]impl.Prop) bool {
	for _, list := range lists {
		if !m.addProps(list) {
			return false
		}
	}
	return true
}

// TestFreshRecords checks that results share no memory, and that arguments are not changed.
func TestFreshRecords(t *testing.T) {
	count := 0
	forRecordPairs(func(a impl.Record, b impl.Record) {
		if count++; count%7 > 0 {
			return
		}
		first, second := spareRecord(a), spareRecord(b)
		before := wholeRecord(first) + wholeRecord(second)
		m := newRecordMemory()
		fresh := m.add(first) && m.add(second)
		text := impl.FormatRecord(first)
		parsed, _ := impl.ParseRecord(text)
		fresh = fresh && m.add(parsed) && m.addLists(impl.MainLine(first)) && m.addLists(impl.MainLine(first))
		for range 2 {
			merged, _ := impl.MergeRecords(first, second)
			fresh = fresh && m.add(merged)
		}
		if !impl.ValidRecord(first) || !fresh {
			t.Fatalf("a result of %s and %s shares memory", recordText(a), recordText(b))
		}
		if wholeRecord(first)+wholeRecord(second) != before {
			t.Fatalf("%s or %s is changed", recordText(a), recordText(b))
		}
	})
}

// TestSharedRecords checks records whose parts share memory, and records merged with themselves.
func TestSharedRecords(t *testing.T) {
	shared := node("B", "A1")
	for range 3 {
		shared = impl.Record{Props: shared.Props, Next: []impl.Record{shared, {Props: props("C", "x"), Next: shared.Next}}}
	}
	m := newRecordMemory()
	merged, ok := impl.MergeRecords(shared, shared)
	if !ok || !sameRecord(merged, shared) || !m.add(merged) {
		t.Errorf("MergeRecords of a record that shares memory and itself = %s, %v", recordText(merged), ok)
	}
	if got := impl.MainLine(shared); len(got) != 4 || !m.addLists(got) {
		t.Errorf("MainLine of a record that shares memory = %v", got)
	}
	mixed := rand.New(rand.NewSource(61))
	for range 200 {
		r := mixedRecord(mixed, 20, true)
		want, _ := modelMerge(r, r)
		if got, ok := impl.MergeRecords(r, r); !ok || !sameRecord(got, want) {
			t.Errorf("MergeRecords of %s and itself = %s, %v", recordText(r), recordText(got), ok)
		}
	}
}
