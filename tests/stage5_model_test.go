package tests

import (
	"math"
	"math/big"
	"math/rand"
	"strings"
	"testing"

	"loop.example/goboard/impl"
)

// number returns a number with a numerator and an exponent.
func number(num int, exp int) impl.Dyadic {
	return impl.Dyadic{Num: num, Exp: exp}
}

// zeroNumber is the zero value of numbers.
var zeroNumber = impl.Dyadic{}

// badNumbers are numbers that are not valid.
var badNumbers = []impl.Dyadic{
	{Num: 0, Exp: 1}, {Num: 2, Exp: 1}, {Num: -2, Exp: 1}, {Num: 4, Exp: 3}, {Num: -6, Exp: 2}, {Num: 9998, Exp: 8}, {Num: 0, Exp: 8}, {Num: -256, Exp: 8},
	{Num: 10000, Exp: 0}, {Num: -10000, Exp: 0}, {Num: 10001, Exp: 1}, {Num: -10001, Exp: 8}, {Num: 1, Exp: 9}, {Num: -1, Exp: 9}, {Num: 1, Exp: -1}, {Num: 0, Exp: -1}, {Num: 0, Exp: 9},
	{Num: math.MaxInt}, {Num: math.MinInt}, {Num: math.MaxInt, Exp: 3}, {Num: math.MinInt, Exp: 3}, {Num: 1, Exp: math.MaxInt}, {Num: 1, Exp: math.MinInt}, {Num: 0, Exp: math.MaxInt}, {Num: math.MinInt, Exp: math.MinInt}, {Num: 1, Exp: 64},
}

// modelValid reports whether a number is valid, by the words of the specification.
func modelValid(d impl.Dyadic) bool {
	return d.Exp >= 0 && d.Exp <= 8 && d.Num >= -9999 && d.Num <= 9999 && (d.Exp == 0 || d.Num&1 == 1)
}

// ratOf returns a number as a fraction.
func ratOf(d impl.Dyadic) *big.Rat {
	return big.NewRat(int64(d.Num), 1<<d.Exp)
}

// modelDyadic returns the valid number that is equal to a fraction, and whether there is one.
func modelDyadic(r *big.Rat) (impl.Dyadic, bool) {
	for exp := range 9 {
		if r.Denom().Int64() == 1<<exp && r.Num().IsInt64() {
			d := number(int(r.Num().Int64()), exp)
			return d, modelValid(d)
		}
	}
	return zeroNumber, false
}

// inverse returns a number times -1.
func inverse(d impl.Dyadic) impl.Dyadic {
	return number(-d.Num, d.Exp)
}

// units returns how many times the smallest positive number a valid number is.
func units(d impl.Dyadic) int {
	return d.Num * (1 << (8 - d.Exp))
}

// allNumbers returns all valid numbers, the simplest ones first.
func allNumbers() []impl.Dyadic {
	var list []impl.Dyadic
	for exp := range 9 {
		for num := range 10000 {
			for _, d := range []impl.Dyadic{number(num, exp), number(-num, exp)} {
				if modelValid(d) {
					list = append(list, d)
				}
			}
		}
	}
	return list
}

// modelBetween returns the first one of all numbers that is between two others.
func modelBetween(all []impl.Dyadic, a impl.Dyadic, b impl.Dyadic) (impl.Dyadic, bool) {
	for _, d := range all {
		if units(a) < units(d) && units(d) < units(b) {
			return d, true
		}
	}
	return zeroNumber, false
}

// sampleNumbers returns valid numbers: small ones, those at the limits, and mixed ones.
func sampleNumbers() []impl.Dyadic {
	var list []impl.Dyadic
	add := func(num int, exp int) {
		for _, d := range []impl.Dyadic{number(num, exp), number(-num, exp)} {
			if modelValid(d) {
				list = append(list, d)
			}
		}
	}
	for exp := range 9 {
		for num := range 10 {
			add(num, exp)
		}
		for _, num := range []int{1<<exp - 1, 1<<exp + 1, 4999, 5000, 5001, 9997, 9998, 9999} {
			add(num, exp)
		}
	}
	mixed := rand.New(rand.NewSource(21))
	for range 120 {
		add(mixed.Intn(10000), mixed.Intn(9))
	}
	return list
}

// game returns the form with options.
func game(left []impl.Form, right []impl.Form) impl.Form {
	return impl.Form{Left: left, Right: right}
}

// copiesOf returns a list with one form again and again.
func copiesOf(g impl.Form, n int) []impl.Form {
	list := make([]impl.Form, n)
	for i := range list {
		list[i] = g
	}
	return list
}

// chain returns the form of an integer.
func chain(n int) impl.Form {
	var g impl.Form
	for range n {
		g = game([]impl.Form{g}, nil)
	}
	for range -n {
		g = game(nil, []impl.Form{g})
	}
	return g
}

// formReader is what is left of the text of a form.
type formReader struct {
	rest string
}

// skip reads a letter if it is the next one, and reports whether it is.
func (r *formReader) skip(letter string) bool {
	rest, found := strings.CutPrefix(r.rest, letter)
	r.rest = rest
	return found
}

// form reads a form: an integer, a star, or the options of both players in braces.
func (r *formReader) form() impl.Form {
	if r.skip("{") {
		left := r.options("|")
		return game(left, r.options("}"))
	}
	if r.skip("*") {
		return game([]impl.Form{{}}, []impl.Form{{}})
	}
	sign := 1
	if r.skip("-") {
		sign = -1
	}
	n := int(r.rest[0] - '0')
	r.rest = r.rest[1:]
	return chain(sign * n)
}

// options reads forms with commas between them, and what is behind them.
func (r *formReader) options(end string) []impl.Form {
	var list []impl.Form
	for !r.skip(end) {
		if len(list) > 0 {
			r.skip(",")
		}
		list = append(list, r.form())
	}
	return list
}

// readGame returns the form with a text like "{0,*|{1|-1}}".
func readGame(t *testing.T, text string) impl.Form {
	t.Helper()
	r := formReader{rest: text}
	g := r.form()
	if r.rest != "" {
		t.Fatalf("%q is not the text of a form", text)
	}
	return g
}

// gameText returns a text of a form, in which options are in order.
func gameText(g impl.Form) string {
	var text strings.Builder
	for i, list := range [][]impl.Form{g.Left, g.Right} {
		text.WriteString([]string{"{", "|"}[i])
		for _, option := range list {
			text.WriteString(gameText(option))
		}
	}
	return text.String() + "}"
}

// sameGame reports whether two forms have the same options in the same order.
func sameGame(g impl.Form, h impl.Form) bool {
	return gameText(g) == gameText(h)
}

// optionsOf returns the options of both players.
func optionsOf(g impl.Form) []impl.Form {
	return append(append([]impl.Form(nil), g.Left...), g.Right...)
}

// modelPositions returns the number of positions of a form.
func modelPositions(g impl.Form) int {
	n := 1
	for _, option := range optionsOf(g) {
		n += modelPositions(option)
	}
	return n
}

// modelMoves returns the greatest number of moves of a form.
func modelMoves(g impl.Form) int {
	n := 0
	for _, option := range optionsOf(g) {
		n = max(n, 1+modelMoves(option))
	}
	return n
}

// modelFits reports whether a form is valid.
func modelFits(g impl.Form) bool {
	return modelMoves(g) <= impl.MaxLevel && modelPositions(g) <= impl.MaxForm
}

// modelNegate returns a form with both players exchanged.
func modelNegate(g impl.Form) impl.Form {
	var n impl.Form
	for _, option := range g.Right {
		n.Left = append(n.Left, modelNegate(option))
	}
	for _, option := range g.Left {
		n.Right = append(n.Right, modelNegate(option))
	}
	return n
}

// modelSum returns the sum of two forms, valid or not.
func modelSum(g impl.Form, h impl.Form) impl.Form {
	var s impl.Form
	for side, list := range []*[]impl.Form{&s.Left, &s.Right} {
		for _, option := range [][]impl.Form{g.Left, g.Right}[side] {
			*list = append(*list, modelSum(option, h))
		}
		for _, option := range [][]impl.Form{h.Left, h.Right}[side] {
			*list = append(*list, modelSum(g, option))
		}
	}
	return s
}

// modelLevels returns how many positions of a form there are after each number of moves.
func modelLevels(g impl.Form) []int {
	levels := []int{1}
	for _, option := range optionsOf(g) {
		for i, n := range modelLevels(option) {
			if i+1 == len(levels) {
				levels = append(levels, 0)
			}
			levels[i+1] += n
		}
	}
	return levels
}

// modelSumPositions returns the number of positions of the sum of two forms: each pair of positions is reached in as many ways as the moves before them can be mixed.
func modelSumPositions(g impl.Form, h impl.Form) int {
	sum := 0
	for i, n := range modelLevels(g) {
		for j, m := range modelLevels(h) {
			ways := new(big.Int).Binomial(int64(i+j), int64(i))
			sum += n * m * int(ways.Int64())
		}
	}
	return sum
}

// modelSumFits reports whether the sum of two forms is valid.
func modelSumFits(g impl.Form, h impl.Form) bool {
	return modelMoves(g)+modelMoves(h) <= impl.MaxLevel && modelSumPositions(g, h) <= impl.MaxForm
}

// modelDuel plays differences of forms, in which a move in the second form is one of the other player; it keeps who wins.
type modelDuel map[string]bool

// winsFirst reports whether a player wins the difference of two forms who moves first.
func (m modelDuel) winsFirst(g impl.Form, h impl.Form, left bool) bool {
	key := gameText(g) + " " + gameText(h)
	own, others := g.Right, h.Left
	if left {
		key += " left"
		own, others = g.Left, h.Right
	}
	if result, found := m[key]; found {
		return result
	}
	result := false
	for _, option := range own {
		result = result || !m.winsFirst(option, h, !left)
	}
	for _, option := range others {
		result = result || !m.winsFirst(g, option, !left)
	}
	m[key] = result
	return result
}

// compare returns how two forms compare, found by playing their difference.
func (m modelDuel) compare(g impl.Form, h impl.Form) int {
	left, right := m.winsFirst(g, h, true), m.winsFirst(g, h, false)
	switch {
	case left && right:
		return impl.FormConfused
	case left:
		return impl.FormGreater
	case right:
		return impl.FormLess
	}
	return impl.FormEqual
}

// winner returns who wins a form, found by playing it.
func (m modelDuel) winner(g impl.Form) int {
	left, right := m.winsFirst(g, impl.Form{}, true), m.winsFirst(g, impl.Form{}, false)
	switch {
	case left && right:
		return impl.WinsFirst
	case left:
		return impl.WinsLeft
	case right:
		return impl.WinsRight
	}
	return impl.WinsSecond
}

// quarters returns the form of a number of quarters.
func quarters(n int) impl.Form {
	switch {
	case n%4 == 0:
		return chain(n / 4)
	case n%2 == 0:
		return game([]impl.Form{quarters(n - 2)}, []impl.Form{quarters(n + 2)})
	}
	return game([]impl.Form{quarters(n - 1)}, []impl.Form{quarters(n + 1)})
}

// quarterNumber returns a number of quarters in lowest terms.
func quarterNumber(n int) impl.Dyadic {
	d, _ := modelDyadic(big.NewRat(int64(n), 4))
	return d
}

// value returns the number of quarters that a form is equal to, found by trying all small ones.
func (m modelDuel) value(g impl.Form) (int, bool) {
	for n := -12; n <= 12; n++ {
		if m.compare(g, quarters(n)) == impl.FormEqual {
			return n, true
		}
	}
	return 0, false
}

// stop returns the number of quarters at which a form stops.
func (m modelDuel) stop(g impl.Form, left bool) (int, bool) {
	if n, ok := m.value(g); ok {
		return n, true
	}
	best, options := math.MaxInt, g.Right
	if left {
		best, options = math.MinInt, g.Left
	}
	for _, option := range options {
		n, ok := m.stop(option, !left)
		if !ok {
			return 0, false
		}
		if left {
			best = max(best, n)
		} else {
			best = min(best, n)
		}
	}
	if len(options) == 0 {
		return 0, false
	}
	return best, true
}

// smallForms returns the four forms with at most one move.
func smallForms() []impl.Form {
	zero := impl.Form{}
	return []impl.Form{zero, chain(1), chain(-1), game([]impl.Form{zero}, []impl.Form{zero})}
}

// chosen returns those of some forms whose bits are in a number.
func chosen(list []impl.Form, bits int) []impl.Form {
	var part []impl.Form
	for i, g := range list {
		if bits>>i&1 == 1 {
			part = append(part, g)
		}
	}
	return part
}

// twoMoveForms returns all forms with at most two moves and without equal options.
func twoMoveForms() []impl.Form {
	var list []impl.Form
	for n := range 256 {
		list = append(list, game(chosen(smallForms(), n&15), chosen(smallForms(), n>>4)))
	}
	return list
}

// mixedForm returns a form with at most some moves; each player has up to some options.
func mixedForm(mixed *rand.Rand, moves int, options int) impl.Form {
	var g impl.Form
	if moves == 0 {
		return g
	}
	for range mixed.Intn(options + 1) {
		g.Left = append(g.Left, mixedForm(mixed, moves-1, options))
	}
	for range mixed.Intn(options + 1) {
		g.Right = append(g.Right, mixedForm(mixed, moves-1, options))
	}
	return g
}

// numberOptions returns a form whose options are games of small numbers.
func numberOptions(mixed *rand.Rand) impl.Form {
	var g impl.Form
	for range mixed.Intn(3) {
		g.Left = append(g.Left, quarters(mixed.Intn(17)-8))
	}
	for range mixed.Intn(3) {
		g.Right = append(g.Right, quarters(mixed.Intn(17)-8))
	}
	return g
}

// sampleForms returns valid forms: small ones, hot ones, numbers, and mixed ones with up to MaxForm positions.
func sampleForms(step int) []impl.Form {
	var list []impl.Form
	for i, g := range twoMoveForms() {
		if i%step == 0 {
			list = append(list, g)
		}
	}
	for n := -12; n <= 12; n++ {
		list = append(list, quarters(n))
	}
	mixed := rand.New(rand.NewSource(31))
	for i := 0; i < 1200; i++ {
		g := mixedForm(mixed, 1+i%impl.MaxLevel, 1+i%3)
		if i%4 == 0 {
			g = numberOptions(mixed)
		}
		if i%step == 0 && modelFits(g) {
			list = append(list, g)
		}
	}
	return list
}

// loopForm returns a form that is its own option.
func loopForm() impl.Form {
	g := game(make([]impl.Form, 1), make([]impl.Form, 1))
	g.Left[0], g.Right[0] = g, g
	return g
}

// sharedForm returns a form with two equal options again and again, all in the same memory.
func sharedForm(moves int) impl.Form {
	var g impl.Form
	for range moves {
		g = game([]impl.Form{g, g}, nil)
	}
	return g
}

// badForms returns forms that are not valid.
func badForms() []impl.Form {
	zero := impl.Form{}
	return []impl.Form{
		chain(7), chain(-7), chain(100), game(copiesOf(zero, 100), nil), game(nil, copiesOf(zero, 100)), game(copiesOf(zero, 50), copiesOf(zero, 50)),
		game([]impl.Form{zero, chain(6)}, nil), game(nil, []impl.Form{chain(-6), zero}), game([]impl.Form{game(nil, []impl.Form{chain(5)})}, nil),
		sharedForm(6), sharedForm(60), loopForm(), game(nil, []impl.Form{loopForm()}), game(make([]impl.Form, 1000000), nil), game([]impl.Form{game(nil, copiesOf(zero, 99))}, nil),
	}
}

// modelHeats returns twice the score of switches that are taken in turn, the hottest ones first: twice their means, and their heats in turn.
func modelHeats(list []impl.Switch, left bool) int {
	var heats [199]int
	sum := 0
	for _, s := range list {
		sum += s.Left + s.Right
		heats[s.Left-s.Right]++
	}
	sign := -1
	if left {
		sign = 1
	}
	for heat := len(heats) - 1; heat >= 0; heat-- {
		for range heats[heat] {
			sum += sign * heat
			sign = -sign
		}
	}
	return sum
}

// modelBest returns the score of switches of which those in a set are taken in the best way, for all sets from small to large ones.
func modelBest(list []impl.Switch, left bool) int {
	best := make([]int, 1<<len(list))
	for set := 1; set < len(best); set++ {
		free := 0
		for i := range list {
			free += set >> i & 1
		}
		// The player to move is known from how many switches are taken already.
		mover := left == ((len(list)-free)%2 == 0)
		first := true
		for i, s := range list {
			if set>>i&1 == 0 {
				continue
			}
			score := best[set&^(1<<i)]
			if mover {
				score += s.Left
			} else {
				score += s.Right
			}
			if first || mover == (score > best[set]) {
				best[set] = score
			}
			first = false
		}
	}
	return best[len(best)-1]
}

// badSwitches are switches that are not valid.
var badSwitches = []impl.Switch{
	{Left: 0, Right: 1}, {Left: -1, Right: 0}, {Left: -99, Right: 99}, {Left: 100, Right: 0}, {Left: 100, Right: 100}, {Left: 0, Right: -100}, {Left: -100, Right: -100}, {Left: 5, Right: 6},
	{Left: math.MaxInt, Right: 0}, {Left: 0, Right: math.MinInt}, {Left: math.MaxInt, Right: math.MinInt}, {Left: math.MinInt, Right: math.MaxInt}, {Left: math.MinInt, Right: math.MinInt}, {Left: 0, Right: math.MaxInt},
}

// sampleSwitches returns lists of switches: all short ones of few kinds, and mixed ones of all lengths, many with equal heats.
func sampleSwitches() [][]impl.Switch {
	var kinds []impl.Switch
	for left := -1; left <= 1; left++ {
		for right := -1; right <= left; right++ {
			kinds = append(kinds, impl.Switch{Left: left, Right: right})
		}
	}
	lists := [][]impl.Switch{nil}
	for start, length := 0, 1; length <= 4; length++ {
		end := len(lists)
		for _, shorter := range lists[start:end] {
			for _, s := range kinds {
				lists = append(lists, append(append([]impl.Switch(nil), shorter...), s))
			}
		}
		start = end
	}
	mixed := rand.New(rand.NewSource(41))
	for i := range 3000 {
		reach := []int{1, 3, 10, impl.MaxStop}[i%4]
		var list []impl.Switch
		for range i % (impl.MaxSwitches + 1) {
			a, b := mixed.Intn(2*reach+1)-reach, mixed.Intn(2*reach+1)-reach
			list = append(list, impl.Switch{Left: max(a, b), Right: min(a, b)})
		}
		lists = append(lists, list)
	}
	return lists
}

// badSwitchLists returns lists that are too long, and lists with one switch that is not valid.
func badSwitchLists() [][]impl.Switch {
	good := make([]impl.Switch, impl.MaxSwitches)
	for i := range good {
		good[i] = impl.Switch{Left: i, Right: -i}
	}
	lists := [][]impl.Switch{append(append([]impl.Switch(nil), good...), impl.Switch{}), make([]impl.Switch, 1000)}
	for i := range good {
		for _, bad := range badSwitches {
			list := append([]impl.Switch(nil), good...)
			list[i] = bad
			lists = append(lists, list, list[:i+1], list[i:])
		}
	}
	return lists
}
