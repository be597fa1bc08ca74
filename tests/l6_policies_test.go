package tests

import (
	"fmt"
	"math"
	"reflect"
	"slices"
	"strconv"
	"testing"

	"loop.example/g01111/impl"
)

// farLevels are numbers on both sides of the levels.
var farLevels = []int{-11, 11, -12, 12, -21, 21, 31, 1 << 32, 1<<32 + 1, math.MinInt, math.MinInt + 1, math.MaxInt, math.MaxInt - 10}

// weightLists are lists of weights of all lengths, with weights of 0 at each place.
var weightLists = [][]int{
	{1}, {4}, {1, 1}, {0, 1}, {1, 0}, {3, 1}, {4, 4}, {1, 2, 1}, {0, 0, 1}, {1, 0, 2}, {0, 3, 0}, {2, 0, 0}, {1, 2, 3, 4}, {0, 1, 0, 1},
	{4, 4, 4, 4, 4}, {0, 0, 0, 0, 1}, {1, 0, 0, 0, 0}, {0, 0, 4, 0, 0}, {0, 1, 0, 2, 0}, {3, 0, 0, 0, 1}, {1, 1, 1, 1, 1}, {4, 3, 0, 1, 2},
}

// smallProcesses gives all Processes of at most 2 turns with some weights, Setups and rates.
func smallProcesses() []impl.Process {
	var found []impl.Process
	for _, w := range weightLists {
		for _, x := range [][3]int{{0, 0, 0}, {1, 0, 0}, {0, 1, 0}, {0, 0, 1}, {0, 1, 1}, {0, 1, 3}, {2, 1, 9}, {9, 9, 9}, {9, 0, 9}, {0, 9, 9}} {
			for _, setup := range []int{0, 1, 7, 99} {
				for turns := range 3 {
					found = append(found, impl.Process{Turns: turns, Weights: w, Setup: setup, Unit: x[0], Hold: x[1], Back: x[2]})
				}
			}
		}
	}
	return found
}

// thrownProcess gives a Process of some turns. A third of the weights are 0.
func (d *dice) thrownProcess(turns, setup, rate int) impl.Process {
	w := d.thrownDistribution(1+d.throw(4), 4)
	return impl.Process{Turns: turns, Weights: w, Setup: d.throw(setup), Unit: d.throw(rate), Hold: d.throw(rate), Back: d.throw(rate)}
}

// fullProcesses gives Processes of all numbers of turns, up to the limits of all numbers.
func fullProcesses() []impl.Process {
	var found []impl.Process
	for turns := range 6 {
		for _, w := range weightLists {
			found = append(found, impl.Process{Turns: turns, Weights: w, Setup: 3, Unit: 1, Hold: 1, Back: 4})
		}
		for _, w := range [][]int{{4, 4, 4, 4, 4}, {0, 0, 0, 0, 4}} {
			found = append(found, impl.Process{Turns: turns, Weights: w, Setup: 99, Unit: 9, Hold: 9, Back: 9}, impl.Process{Turns: turns, Weights: w, Setup: 99, Back: 9}, impl.Process{Turns: turns, Weights: w, Hold: 9, Back: 1})
		}
	}
	var d dice = 211
	for i := range 120 {
		found = append(found, d.thrownProcess(i%6, 99, 9), d.thrownProcess(i%6, 9, 9), d.thrownProcess(i%6, 0, 9), d.thrownProcess(i%6, 20, 2))
	}
	return found
}

// noProcesses gives Processes of which one part is not valid.
func noProcesses() []impl.Process {
	bad := []impl.Process{{}, {Turns: 1}, {Turns: 6}}
	good := impl.Process{Turns: 2, Weights: []int{1, 2, 1}, Setup: 3, Unit: 1, Hold: 1, Back: 4}
	add := func(p impl.Process) { bad = append(bad, p) }
	for _, w := range [][]int{
		nil, {}, {0}, {0, 0}, {0, 0, 0, 0, 0}, {0, 0, 0, 0, 0, 0}, {1, 1, 1, 1, 1, 1}, {4, 4, 4, 4, 4, 4}, {1, 0, 0, 0, 0, 0}, {0, 0, 0, 0, 0, 1}, make([]int, 5000), slices.Repeat([]int{1}, 5000),
		{-1}, {5}, {1, -1}, {-1, 1}, {-1, 2}, {5, 0}, {0, 5}, {4, 4, 4, 4, 5}, {4, 4, 4, 4, -1}, {1, 1, -1, 1, 1}, {math.MaxInt}, {math.MinInt}, {math.MaxInt, 2}, {math.MinInt, math.MinInt, 1}, {1 << 62, 1 << 62, 1 << 62, 1 << 62, 1}, {1<<32 + 1}, {1, 1 << 32},
	} {
		for _, turns := range []int{0, 2, 5} {
			p := good
			p.Turns, p.Weights = turns, w
			add(p)
		}
	}
	for _, x := range beyond(5) {
		p := good
		p.Turns = x
		add(p)
	}
	for _, x := range beyond(99) {
		p := good
		p.Setup = x
		add(p)
	}
	for _, x := range beyond(9) {
		unit, hold, back := good, good, good
		unit.Unit, hold.Hold, back.Back = x, x, x
		add(unit)
		add(hold)
		add(back)
	}
	return bad
}

// wholeBySteps gives the whole, and its power by a number of turns.
func wholeBySteps(p impl.Process, n int) (int, int) {
	whole, power := 0, 1
	for _, weight := range p.Weights {
		whole += weight
	}
	for range n {
		power *= whole
	}
	return whole, power
}

func leastUp(p impl.Process) int { return len(p.Weights) - 11 }

// endCost tells what a level at the end of a turn costs.
func endCost(p impl.Process, level int) int {
	if level > 0 {
		return p.Hold * level
	}
	return p.Back * -level
}

// turnCost tells what a turn costs with a level x, an order up to y and d pieces asked for.
func turnCost(p impl.Process, x, y, d int) int {
	cost := endCost(p, y-d) + p.Unit*(y-x)
	if y != x {
		cost += p.Setup
	}
	return cost
}

// costsAhead tells what is expected of an order from x up to y with n turns from there on, if the
// levels behind are worth so much. What the order costs is paid whatever is asked for.
func costsAhead(p impl.Process, n, x, y int, next []int) int {
	_, power := wholeBySteps(p, n-1)
	sum := 0
	for d, weight := range p.Weights {
		sum += weight * (turnCost(p, x, y, d)*power + next[y-d+10])
	}
	return sum
}

// ups gives all levels up to which one may order from a level.
func ups(p impl.Process, x int) []int {
	var all []int
	for y := -10; y <= 10; y++ {
		if y >= x && y >= leastUp(p) {
			all = append(all, y)
		}
	}
	return all
}

// worthsBefore gives the greatest table that keeps the rules of a proof and ends in a list.
func worthsBefore(p impl.Process, last []int) [][]int {
	table := [][]int{slices.Clone(last)}
	for n := 1; n <= p.Turns; n++ {
		var row []int
		for x := -10; x <= 10; x++ {
			var costs []int
			for _, y := range ups(p, x) {
				costs = append(costs, costsAhead(p, n, x, y, table[0]))
			}
			row = append(row, slices.Min(costs))
		}
		table = append([][]int{row}, table...)
	}
	return table
}

func worthsBySteps(p impl.Process) [][]int { return worthsBefore(p, make([]int, 21)) }

// orderBySteps gives the least level up to which it is best to order.
func orderBySteps(p impl.Process, n, x int, next []int) int {
	best := ups(p, x)[0]
	for _, y := range ups(p, x) {
		if costsAhead(p, n, x, y, next) < costsAhead(p, n, x, best, next) {
			best = y
		}
	}
	return best
}

// billsBySteps gives the bills with n turns from a turn on.
func billsBySteps(p impl.Process, n int, next []int) []int {
	whole, before := wholeBySteps(p, n-1)
	var bills []int
	for y := leastUp(p); y <= 10; y++ {
		bill := p.Unit * y * before * whole
		for d, weight := range p.Weights {
			bill += weight * (max(p.Hold*(y-d), p.Back*(d-y))*before + next[y-d+10])
		}
		bills = append(bills, bill)
	}
	return bills
}

// pairBySteps gives the lower and the upper level of a turn, from the greatest level down.
func pairBySteps(p impl.Process, n int, next []int) [2]int {
	_, power := wholeBySteps(p, n)
	bills := billsBySteps(p, n, next)
	lower, upper := 0, 0
	for i := len(bills) - 1; i >= 0; i-- {
		if bills[i] == slices.Min(bills) {
			upper = i
		}
	}
	for i := len(bills) - 1; i >= 0; i-- {
		if bills[i]-power*p.Setup <= bills[upper] {
			lower = i
		}
	}
	return [2]int{lower + leastUp(p), upper + leastUp(p)}
}

// upBySteps gives the level up to which a pair of a policy orders.
func upBySteps(p impl.Process, pair [2]int, x int) int {
	if x >= pair[0] && x >= leastUp(p) {
		return x
	}
	return pair[1]
}

// expectedBySteps adds up the costs of a policy over all that may be asked for in all turns.
func expectedBySteps(p impl.Process, levels [][2]int, x int) int {
	sum := 0
	var ahead func(turn, x, cost, times int)
	ahead = func(turn, x, cost, times int) {
		if turn == p.Turns {
			sum += cost * times
			return
		}
		y := upBySteps(p, levels[turn], x)
		for d, weight := range p.Weights {
			if weight > 0 {
				ahead(turn+1, y-d, cost+turnCost(p, x, y, d), times*weight)
			}
		}
	}
	ahead(0, x, 0, 1)
	return sum
}

// policyBySteps reports whether a list of pairs is a policy, by the document's words.
func policyBySteps(p impl.Process, levels [][2]int) bool {
	good := len(levels) == p.Turns
	for _, pair := range levels {
		for _, level := range pair {
			good = good && level >= -10 && level <= 10
		}
		good = good && pair[0] <= pair[1] && pair[1] >= leastUp(p)
	}
	return good
}

// convexBySteps looks at all three places, the first one i, the last one j.
func convexBySteps(list []int, k int) bool {
	for i := range list {
		for a := i + 1; a < len(list); a++ {
			for j := a + 1; j < len(list); j++ {
				u, v := j-a, a-i
				if v*k+v*list[j]-v*list[a]-u*list[a]+u*list[i] < 0 {
					return false
				}
			}
		}
	}
	return true
}

// proofBySteps reports whether a table is a proof, by the document's words.
func proofBySteps(p impl.Process, table [][]int) bool {
	if len(table) != p.Turns+1 {
		return false
	}
	for i, row := range table {
		if len(row) != 21 {
			return false
		}
		for _, x := range row {
			if x > 1000000000000 || x < -1000000000000 || i == p.Turns && x > 0 {
				return false
			}
		}
	}
	for turn := range p.Turns {
		for x := -10; x <= 10; x++ {
			for _, y := range ups(p, x) {
				if table[turn][x+10] > costsAhead(p, p.Turns-turn, x, y, table[turn+1]) {
					return false
				}
			}
		}
	}
	return true
}

// textBySteps writes a policy.
func textBySteps(levels [][2]int) string {
	if len(levels) == 0 {
		return "none"
	}
	text := ""
	for i, pair := range levels {
		if i > 0 {
			text += " "
		}
		text += strconv.Itoa(pair[0]) + "/" + strconv.Itoa(pair[1])
	}
	return text
}

func checkTable(t *testing.T, what string, got [][]int, ok bool, want [][]int, wantOK bool) {
	t.Helper()
	if !slices.EqualFunc(got, want, slices.Equal[[]int]) || ok != wantOK {
		t.Errorf("%s = %v, %t, want %v, %t", what, got, ok, want, wantOK)
	}
}

func checkPairs(t *testing.T, what string, got [][2]int, ok bool, want [][2]int, wantOK bool) {
	t.Helper()
	if !slices.Equal(got, want) || ok != wantOK {
		t.Errorf("%s = %v, %t, want %v, %t", what, got, ok, want, wantOK)
	}
}

// checkProcess compares all that is told of a Process alone.
func checkProcess(t *testing.T, p impl.Process) {
	t.Helper()
	what := fmt.Sprint(" ", p)
	if !impl.IsProcess(p) {
		t.Error("no Process", p)
	}
	whole, power, ok := impl.WholeOf(p)
	wantWhole, wantPower := wholeBySteps(p, p.Turns)
	checkNumber(t, "WholeOf"+what, whole, ok, wantWhole, true)
	checkNumber(t, "the power of WholeOf"+what, power, ok, wantPower, true)
	want := worthsBySteps(p)
	table, ok := impl.WorthTable(p)
	checkTable(t, "WorthTable"+what, table, ok, want, true)
	var pairs [][2]int
	for turn := range p.Turns {
		n, next := p.Turns-turn, want[turn+1]
		bills, ok := impl.BillsOf(p, turn)
		checkList(t, fmt.Sprint("BillsOf", what, turn), bills, ok, billsBySteps(p, n, next), true)
		pairs = append(pairs, pairBySteps(p, n, next))
		for x := -10; x <= 10; x++ {
			up, ok := impl.BestOrder(p, turn, x)
			checkNumber(t, fmt.Sprint("BestOrder", what, turn, " ", x), up, ok, orderBySteps(p, n, x, next), true)
		}
	}
	levels, ok := impl.BestLevels(p)
	checkPairs(t, "BestLevels"+what, levels, ok, pairs, true)
}

// checkPolicy compares all that is told of a policy, but for its steps.
func checkPolicy(t *testing.T, p impl.Process, levels [][2]int) {
	t.Helper()
	what := fmt.Sprint(" ", p, levels)
	is, ok := impl.IsPolicy(p, levels)
	checkAnswer(t, "IsPolicy"+what, is, ok, true, true)
	var want []int
	for x := -10; x <= 10; x++ {
		want = append(want, expectedBySteps(p, levels, x))
	}
	worth, ok := impl.PolicyWorth(p, levels)
	checkList(t, "PolicyWorth"+what, worth, ok, want, true)
	text, ok := impl.TextOfPolicy(p, levels)
	checkText(t, "TextOfPolicy"+what, text, ok, textBySteps(levels), true)
}

// thrownPolicy gives a policy of a Process.
func (d *dice) thrownPolicy(p impl.Process) [][2]int {
	var levels [][2]int
	for range p.Turns {
		second := leastUp(p) + d.throw(10-leastUp(p))
		levels = append(levels, [2]int{-10 + d.throw(second+10), second})
	}
	return levels
}

// allPairs gives all pairs that a turn of a policy may have.
func allPairs(p impl.Process) [][2]int {
	var pairs [][2]int
	for second := leastUp(p); second <= 10; second++ {
		for first := -10; first <= second; first++ {
			pairs = append(pairs, [2]int{first, second})
		}
	}
	return pairs
}

// outside gives numbers on both sides of 0..n-1, n at most 5.
func outside(n int) []int {
	return []int{-1, -2, -n - 1, n, n + 1, n + 5, 5, 6, 1 << 32, 1<<32 + 1, math.MinInt, math.MinInt + 1, math.MaxInt}
}

// rise gives a list of some numbers, each one greater by so much than the one before.
func rise(from, by, count int) []int {
	var list []int
	for i := range count {
		list = append(list, from+i*by)
	}
	return list
}

func TestPolicyBounds(t *testing.T) {
	if impl.MaxLevel != 10 || impl.MaxTurns != 5 || impl.MaxWeight != 4 || impl.MaxValue != 1000000000000 {
		t.Error("bounds", impl.MaxLevel, impl.MaxTurns, impl.MaxWeight, impl.MaxValue)
	}
}

func TestP6IsProcess(t *testing.T) {
	for _, p := range append(smallProcesses(), fullProcesses()...) {
		if !impl.IsProcess(p) {
			t.Error("no Process", p)
		}
	}
	for _, p := range []impl.Process{{Weights: []int{1}}, {Turns: 5, Weights: []int{4, 4, 4, 4, 4}, Setup: 99, Unit: 9, Hold: 9, Back: 9}, {Weights: []int{0, 0, 0, 0, 1}}, {Turns: 5, Weights: []int{4}}} {
		if !impl.IsProcess(p) {
			t.Error("no Process", p)
		}
	}
	for _, p := range noProcesses() {
		if impl.IsProcess(p) {
			t.Error("a Process", p)
		}
	}
}

func TestP6WholeExamples(t *testing.T) {
	for _, x := range []struct {
		turns        int
		w            []int
		whole, power int
	}{
		{0, []int{1}, 1, 1}, {5, []int{1}, 1, 1}, {0, []int{4, 4, 4, 4, 4}, 20, 1}, {1, []int{4, 4, 4, 4, 4}, 20, 20}, {5, []int{4, 4, 4, 4, 4}, 20, 3200000},
		{2, []int{1, 2}, 3, 9}, {3, []int{0, 0, 2}, 2, 8}, {4, []int{3, 0, 0}, 3, 81}, {5, []int{1, 1}, 2, 32}, {2, []int{1, 0, 4}, 5, 25},
	} {
		whole, power, ok := impl.WholeOf(impl.Process{Turns: x.turns, Weights: x.w, Setup: 1, Unit: 2, Hold: 3, Back: 4})
		checkNumber(t, fmt.Sprint("the whole ", x), whole, ok, x.whole, true)
		checkNumber(t, fmt.Sprint("the power ", x), power, ok, x.power, true)
	}
}

// told is what is told of a Process: the worths, and for each turn the bills and the two levels.
type told struct {
	p      impl.Process
	worths [][]int
	bills  [][]int
	levels [][2]int
}

// toldExamples are worked out by hand.
func toldExamples() []told {
	none := make([]int, 21)
	return []told{
		{impl.Process{Weights: []int{2, 1}, Setup: 9, Unit: 9, Hold: 9, Back: 9}, [][]int{none}, nil, nil},
		{ // nothing costs anything: nothing is ordered but up to the floor
			impl.Process{Turns: 2, Weights: []int{1, 1, 1}},
			[][]int{none, none, none}, [][]int{make([]int, 19), make([]int, 19)}, [][2]int{{-8, -8}, {-8, -8}},
		},
		{ // the example of the given tests
			impl.Process{Turns: 1, Weights: []int{1, 1}, Setup: 1, Hold: 1, Back: 3},
			[][]int{append(rise(3, 0, 11), rise(1, 2, 10)...), none}, [][]int{append(rise(57, -6, 10), rise(1, 2, 10)...)}, [][2]int{{0, 1}},
		},
		{ // two levels have the least bill: the lower one is both levels
			impl.Process{Turns: 1, Weights: []int{1, 1}, Hold: 1, Back: 1},
			[][]int{append(rise(1, 0, 12), rise(3, 2, 9)...), none}, [][]int{append(rise(19, -2, 10), append([]int{1}, rise(3, 2, 9)...)...)}, [][2]int{{0, 0}},
		},
		{ // nothing is ever asked for: what is owed in the last turn alone is owed once
			impl.Process{Turns: 2, Weights: []int{1}, Setup: 5, Unit: 1, Hold: 1, Back: 2},
			[][]int{append(append(rise(15, -1, 9), 4), rise(0, 2, 11)...), append(append(rise(15, -1, 5), rise(10, -2, 5)...), rise(0, 1, 11)...), none},
			[][]int{append(append(rise(25, -2, 5), rise(15, -3, 5)...), rise(0, 3, 11)...), append(rise(10, -1, 10), rise(0, 2, 11)...)},
			[][2]int{{-1, 0}, {-5, 0}},
		},
		{ // 4 are always asked for, and kept for nothing
			impl.Process{Turns: 1, Weights: []int{0, 0, 0, 0, 4}, Unit: 1, Back: 9},
			[][]int{append(rise(56, -4, 14), rise(0, 0, 7)...), none}, [][]int{append(rise(336, -32, 10), rise(16, 4, 7)...)}, [][2]int{{4, 4}},
		},
		{ // an order is dearer than what is owed: the lower level is the floor, and only from below one must order
			impl.Process{Turns: 1, Weights: []int{1, 1}, Setup: 99, Hold: 1, Back: 9},
			[][]int{append(append([]int{199}, rise(171, -18, 10)...), rise(1, 2, 10)...), none}, [][]int{append(rise(171, -18, 10), rise(1, 2, 10)...)}, [][2]int{{-9, 1}},
		},
		{ // a weight of 0 behind the others counts for the floor
			impl.Process{Turns: 1, Weights: []int{3, 0, 0}, Setup: 2, Unit: 1},
			[][]int{append([]int{12, 9}, rise(0, 0, 19)...), none}, [][]int{rise(-24, 3, 19)}, [][2]int{{-8, -8}},
		},
	}
}

func TestP6ToldExamples(t *testing.T) {
	for _, x := range toldExamples() {
		what := fmt.Sprint(" ", x.p)
		table, ok := impl.WorthTable(x.p)
		checkTable(t, "WorthTable"+what, table, ok, x.worths, true)
		levels, ok := impl.BestLevels(x.p)
		checkPairs(t, "BestLevels"+what, levels, ok, x.levels, true)
		worth, ok := impl.PolicyWorth(x.p, x.levels)
		checkList(t, "PolicyWorth"+what, worth, ok, x.worths[0], true)
		proof, ok := impl.IsWorthProof(x.p, x.worths)
		checkAnswer(t, "IsWorthProof"+what, proof, ok, true, true)
		for turn := range x.p.Turns {
			bills, ok := impl.BillsOf(x.p, turn)
			checkList(t, fmt.Sprint("BillsOf", what, turn), bills, ok, x.bills[turn], true)
		}
		checkProcess(t, x.p)
		checkPolicy(t, x.p, x.levels)
	}
}

func TestP6BestOrderExamples(t *testing.T) {
	free := impl.Process{Turns: 2, Weights: []int{1, 1, 1}}
	given := impl.Process{Turns: 1, Weights: []int{1, 1}, Setup: 1, Hold: 1, Back: 3}
	even := impl.Process{Turns: 1, Weights: []int{1, 1}, Hold: 1, Back: 1}
	calm := impl.Process{Turns: 2, Weights: []int{1}, Setup: 5, Unit: 1, Hold: 1, Back: 2}
	dear := impl.Process{Turns: 1, Weights: []int{1, 1}, Setup: 99, Hold: 1, Back: 9}
	for _, x := range []struct {
		p                 impl.Process
		turn, level, want int
	}{
		{free, 0, -10, -8}, {free, 1, -9, -8}, {free, 0, -8, -8}, {free, 1, -7, -7}, {free, 1, 10, 10},
		{given, 0, -10, 1}, {given, 0, -9, 1}, {given, 0, -1, 1}, {given, 0, 0, 0}, {given, 0, 1, 1}, {given, 0, 2, 2}, {given, 0, 10, 10},
		{even, 0, -10, 0}, {even, 0, -1, 0}, {even, 0, 0, 0}, {even, 0, 1, 1},
		{calm, 0, -10, 0}, {calm, 0, -2, 0}, {calm, 0, -1, -1}, {calm, 0, 0, 0}, {calm, 1, -6, 0}, {calm, 1, -5, -5}, {calm, 1, -1, -1}, {calm, 1, 10, 10},
		{dear, 0, -10, 1}, {dear, 0, -9, -9}, {dear, 0, -8, -8}, {dear, 0, 0, 0}, {dear, 0, 10, 10},
	} {
		up, ok := impl.BestOrder(x.p, x.turn, x.level)
		checkNumber(t, fmt.Sprint("BestOrder ", x), up, ok, x.want, true)
	}
}

func TestP6ManyProcesses(t *testing.T) {
	for _, p := range append(smallProcesses(), fullProcesses()...) {
		checkProcess(t, p)
		if t.Failed() {
			return
		}
	}
}

func TestP6PoliciesOfManyProcesses(t *testing.T) {
	var d dice = 223
	for i, p := range append(smallProcesses(), fullProcesses()...) {
		checkPolicy(t, p, d.thrownPolicy(p))
		if best, _ := impl.BestLevels(p); i%3 == 0 {
			checkPolicy(t, p, best)
		}
		if t.Failed() {
			return
		}
	}
}

func TestP6TheBestLevelsAreWorthTheTable(t *testing.T) {
	for _, p := range append(smallProcesses(), fullProcesses()...) {
		table, one := impl.WorthTable(p)
		levels, two := impl.BestLevels(p)
		worth, three := impl.PolicyWorth(p, levels)
		if !one || !two || !three || len(table) != p.Turns+1 || !slices.Equal(worth, table[0]) {
			t.Fatal("not the worths", p, levels, worth, table)
		}
	}
}

// checkNoLess compares a policy with the worth of all levels, and tells whether it is as good.
func checkNoLess(t *testing.T, p impl.Process, levels [][2]int, worths []int) bool {
	t.Helper()
	worth, ok := impl.PolicyWorth(p, levels)
	if !ok || len(worth) != 21 || len(worths) != 21 {
		t.Fatal("no worth", p, levels, worth)
	}
	for i := range worth {
		if worth[i] < worths[i] {
			t.Fatal("a better policy", p, levels, worth, worths)
		}
	}
	return slices.Equal(worth, worths)
}

func TestP6NoPolicyOfOneTurnIsWorthLess(t *testing.T) {
	good := 0
	for _, p := range append(smallProcesses(), fullProcesses()...) {
		if p.Turns != 1 {
			continue
		}
		table, _ := impl.WorthTable(p)
		for _, pair := range allPairs(p) {
			if checkNoLess(t, p, [][2]int{pair}, table[0]) {
				good++
			}
		}
	}
	if good < 1000 {
		t.Error("too few good policies", good)
	}
}

func TestP6NoPolicyOfTwoTurnsIsWorthLess(t *testing.T) {
	p := impl.Process{Turns: 2, Weights: []int{0, 1, 0, 0, 2}, Setup: 4, Unit: 1, Hold: 1, Back: 3}
	table, _ := impl.WorthTable(p)
	for _, one := range allPairs(p) {
		for _, two := range allPairs(p) {
			checkNoLess(t, p, [][2]int{one, two}, table[0])
		}
	}
}

// nearPolicies gives the policies that differ from one in one level, by 1.
func nearPolicies(p impl.Process, levels [][2]int) [][][2]int {
	var near [][][2]int
	for turn := range levels {
		for at := range 2 {
			for _, by := range []int{-1, 1} {
				other := slices.Clone(levels)
				other[turn][at] += by
				if policyBySteps(p, other) {
					near = append(near, other)
				}
			}
		}
	}
	return near
}

func TestP6NoOtherPolicyIsWorthLess(t *testing.T) {
	var d dice = 227
	for _, p := range fullProcesses() {
		table, _ := impl.WorthTable(p)
		best, _ := impl.BestLevels(p)
		for _, levels := range nearPolicies(p, best) {
			checkNoLess(t, p, levels, table[0])
		}
		for range 12 {
			levels := d.thrownPolicy(p)
			checkNoLess(t, p, levels, table[0])
			if p.Turns > 0 {
				turn := d.throw(p.Turns - 1)
				other := slices.Clone(best)
				other[turn] = levels[turn]
				checkNoLess(t, p, other, table[0])
			}
		}
	}
}

func TestP6WorthsAreConvexForTheSetup(t *testing.T) {
	tight := 0
	for _, p := range append(smallProcesses(), fullProcesses()...) {
		table, _ := impl.WorthTable(p)
		for i, worths := range table {
			_, power := wholeBySteps(p, p.Turns-i)
			is, ok := impl.IsConvexFor(worths, p.Setup*power)
			if !is || !ok || !convexBySteps(worths, p.Setup*power) {
				t.Fatal("not convex", p, i, worths)
			}
			if p.Setup == 0 || i == p.Turns {
				continue
			}
			less, ok := impl.IsConvexFor(worths, p.Setup*power-1)
			if !ok || less != convexBySteps(worths, p.Setup*power-1) {
				t.Fatal("convex for less", p, i, worths, less)
			}
			if !less {
				tight++
			}
		}
	}
	if tight < 100 {
		t.Error("too few worths that need the whole Setup", tight)
	}
}

func TestP6BestOrderFollowsTheTwoLevels(t *testing.T) {
	floors := 0
	for _, p := range append(smallProcesses(), fullProcesses()...) {
		levels, ok := impl.BestLevels(p)
		if is, _ := impl.IsPolicy(p, levels); !is || !ok || len(levels) != p.Turns {
			t.Fatal("no policy", p, levels)
		}
		for turn, pair := range levels {
			if pair[0] < leastUp(p) {
				t.Fatal("below the floor", p, levels)
			}
			if pair[0] == leastUp(p) {
				floors++
			}
			for x := -10; x <= 10; x++ {
				want := x
				if x < pair[0] {
					want = pair[1]
				}
				up, ok := impl.BestOrder(p, turn, x)
				checkNumber(t, fmt.Sprint("BestOrder ", p, turn, x), up, ok, want, true)
			}
		}
		if t.Failed() {
			return
		}
	}
	if floors < 100 {
		t.Error("too few lower levels that are the floor", floors)
	}
}

func TestP6WithoutSetupBothLevelsAreTheSame(t *testing.T) {
	apart := 0
	for _, p := range append(smallProcesses(), fullProcesses()...) {
		levels, _ := impl.BestLevels(p)
		for _, pair := range levels {
			if pair[0] != pair[1] {
				apart++
			}
		}
		p.Setup = 0
		levels, ok := impl.BestLevels(p)
		for _, pair := range levels {
			if !ok || pair[0] != pair[1] {
				t.Fatal("two levels", p, levels)
			}
		}
	}
	if apart < 100 {
		t.Error("too few levels that are not the same", apart)
	}
}

func TestP6TurnsThatAreNone(t *testing.T) {
	for turns := range 6 {
		p := impl.Process{Turns: turns, Weights: []int{1, 2}, Setup: 1, Unit: 1, Hold: 1, Back: 3}
		levels, _ := impl.BestLevels(p)
		for _, turn := range outside(turns) {
			what := fmt.Sprint(" ", p, turn)
			bills, ok := impl.BillsOf(p, turn)
			checkList(t, "BillsOf"+what, bills, ok, nil, false)
			for _, level := range []int{-10, 0, 10} {
				up, ok := impl.BestOrder(p, turn, level)
				checkNumber(t, "BestOrder"+what, up, ok, 0, false)
				checkStep(t, p, levels, turn, level, 0, [3]int{}, false)
			}
		}
	}
}

func TestP6LevelsThatAreNone(t *testing.T) {
	for _, w := range weightLists {
		p := impl.Process{Turns: 2, Weights: w, Setup: 1, Unit: 1, Hold: 1, Back: 3}
		levels, _ := impl.BestLevels(p)
		asked := slices.IndexFunc(w, func(weight int) bool { return weight > 0 })
		for _, level := range farLevels {
			for turn := range 2 {
				up, ok := impl.BestOrder(p, turn, level)
				checkNumber(t, fmt.Sprint("BestOrder ", p, turn, level), up, ok, 0, false)
				checkStep(t, p, levels, turn, level, asked, [3]int{}, false)
			}
			checkTrace(t, p, levels, level, nil, nil, 0, false)
			checkTrace(t, p, levels, level, []int{asked}, nil, 0, false)
		}
	}
}

func checkStep(t *testing.T, p impl.Process, levels [][2]int, turn, level, asked int, want [3]int, wantOK bool) {
	t.Helper()
	up, next, cost, ok := impl.StepLevel(p, levels, turn, level, asked)
	if got := [3]int{up, next, cost}; got != want || ok != wantOK {
		t.Errorf("StepLevel %v %v %d %d %d = %v, %t, want %v, %t", p, levels, turn, level, asked, got, ok, want, wantOK)
	}
}

func checkTrace(t *testing.T, p impl.Process, levels [][2]int, level int, asked, want []int, wantSum int, wantOK bool) {
	t.Helper()
	trace, sum, ok := impl.TraceLevels(p, levels, level, asked)
	if !slices.Equal(trace, want) || sum != wantSum || ok != wantOK {
		t.Errorf("TraceLevels %v %v %d %v = %v, %d, %t, want %v, %d, %t", p, levels, level, asked, trace, sum, ok, want, wantSum, wantOK)
	}
}

func checkConvex(t *testing.T, list []int, k int, want, wantOK bool) {
	t.Helper()
	is, ok := impl.IsConvexFor(list, k)
	checkAnswer(t, fmt.Sprint("IsConvexFor ", list, k), is, ok, want, wantOK)
}

func TestP6ConvexExamples(t *testing.T) {
	const most = 1000000000000
	long := rise(-20, 1, 41)
	bent := slices.Clone(long)
	bent[20]++
	for _, x := range []struct {
		list []int
		k    int
		want bool
	}{
		{nil, 0, true}, {[]int{}, most, true}, {[]int{7}, 0, true}, {[]int{-most}, 0, true}, {[]int{most}, most, true}, {[]int{0, 9}, 0, true}, {[]int{9, 0}, 0, true}, {[]int{most, -most}, 0, true}, {[]int{-most, most}, 0, true},
		{[]int{1, 2, 3}, 0, true}, {[]int{3, 2, 1}, 0, true}, {[]int{5, 5, 5}, 0, true}, {[]int{2, 1, 2}, 0, true}, {[]int{1, 2, 1}, 0, false}, {[]int{1, 2, 1}, 1, false}, {[]int{1, 2, 1}, 2, true}, {[]int{0, 0, -1}, 0, false}, {[]int{0, 0, -1}, 1, true},
		{[]int{0, 5, 3}, 2, false}, {[]int{0, 5, 3}, 6, false}, {[]int{0, 5, 3}, 7, true}, {[]int{5, 0, 3}, 0, true}, {[]int{3, 5, 0}, 6, false}, {[]int{3, 5, 0}, 7, true},
		{[]int{0, 1, 1, 1}, 1, false}, {[]int{0, 1, 1, 1}, 2, true}, {[]int{0, 0, 0, -1}, 0, false}, {[]int{0, 0, 0, -1}, 1, true}, {[]int{0, 3, 3, 3, 3}, 8, false}, {[]int{0, 3, 3, 3, 3}, 9, true}, {[]int{0, 0, 0, 3, 3}, 2, false}, {[]int{0, 0, 0, 3, 3}, 3, true},
		{[]int{0, 2, 4, 3}, 2, false}, {[]int{0, 2, 4, 3}, 3, true},
		{long, 0, true}, {bent, 0, false}, {bent, 20, false}, {bent, 21, true}, {slices.Repeat([]int{most}, 41), 0, true}, {slices.Repeat([]int{-most}, 41), most, true},
		{[]int{-most, most, -most}, most, false}, {[]int{most, -most, most}, 0, true}, {[]int{-most, 0, 0}, most, true}, {[]int{-most, 0, 0}, most - 1, false}, {[]int{0, 0, -most}, most, true}, {[]int{0, 0, -most}, most - 1, false},
		{append([]int{-most}, slices.Repeat([]int{most}, 40)...), most, false}, {append(slices.Repeat([]int{most}, 40), -most), most, false}, {append(slices.Repeat([]int{most}, 40), 0), most, true}, {append(slices.Repeat([]int{most}, 40), -1), most, false},
	} {
		checkConvex(t, x.list, x.k, x.want, true)
		if convexBySteps(x.list, x.k) != x.want {
			t.Error("convex by steps", x)
		}
	}
}

func TestP6ConvexBounds(t *testing.T) {
	const most = 1000000000000
	for _, k := range []int{-1, -2, -most, -most - 1, most + 1, most + 2, 2*most + 1, math.MinInt, math.MinInt + 1, math.MaxInt} {
		for _, list := range [][]int{nil, {0}, {1, 2}, {3, 2, 3}, make([]int, 41)} {
			checkConvex(t, list, k, false, false)
		}
	}
	for _, list := range [][]int{make([]int, 42), rise(0, 1, 42), make([]int, 43), make([]int, 5000)} {
		checkConvex(t, list, 0, false, false)
		checkConvex(t, list, most, false, false)
	}
	for _, x := range []int{most + 1, -most - 1, 2 * most, -2 * most, math.MaxInt, math.MinInt, math.MinInt + 1, 1 << 62} {
		for n := 1; n <= 41; n += 4 {
			for at := range n {
				list := make([]int, n)
				list[at] = x
				checkConvex(t, list, 0, false, false)
				checkConvex(t, list, most, false, false)
			}
		}
	}
}

func TestP6ConvexOfAllShortLists(t *testing.T) {
	lists := [][]int{{}}
	for i := 0; i < len(lists); i++ {
		for k := range 9 {
			checkConvex(t, lists[i], k, convexBySteps(lists[i], k), true)
		}
		for x := -2; x <= 2 && len(lists[i]) < 5; x++ {
			lists = append(lists, append(slices.Clone(lists[i]), x))
		}
	}
}

func TestP6ConvexOfThrownLists(t *testing.T) {
	var d dice = 229
	convex := 0
	for i := range 3000 {
		list := make([]int, d.throw(41))
		slope := -d.throw(30)
		for j := range list {
			if j > 0 {
				list[j] = list[j-1] + slope
			}
			slope += d.throw(3)
		}
		if len(list) > 0 && i%2 == 0 {
			list[d.throw(len(list)-1)] += d.throw(30)
		}
		k := d.throw(20)
		want := convexBySteps(list, k)
		checkConvex(t, list, k, want, true)
		if want {
			convex++
		}
	}
	if convex < 500 || convex > 2700 {
		t.Error("too few lists of a kind", convex)
	}
}

func TestP6PolicyExamples(t *testing.T) {
	none := impl.Process{Weights: []int{1, 1}}
	one := impl.Process{Turns: 1, Weights: []int{1, 1, 0}, Setup: 1}
	two := impl.Process{Turns: 2, Weights: []int{1}, Setup: 1}
	five := impl.Process{Turns: 5, Weights: []int{1, 1, 1, 1, 1}}
	for _, x := range []struct {
		p      impl.Process
		levels [][2]int
		want   bool
	}{
		{none, nil, true}, {none, [][2]int{}, true}, {none, [][2]int{{0, 0}}, false},
		{one, nil, false}, {one, [][2]int{{0, 0}}, true}, {one, [][2]int{{0, 1}}, true}, {one, [][2]int{{1, 0}}, false}, {one, [][2]int{{0, 0}, {0, 0}}, false},
		{one, [][2]int{{-8, -8}}, true}, {one, [][2]int{{-9, -8}}, true}, {one, [][2]int{{-10, -8}}, true}, {one, [][2]int{{-11, -8}}, false}, {one, [][2]int{{-10, -9}}, false}, {one, [][2]int{{-9, -9}}, false}, {one, [][2]int{{-10, 10}}, true}, {one, [][2]int{{-11, 10}}, false}, {one, [][2]int{{10, 10}}, true}, {one, [][2]int{{10, 11}}, false}, {one, [][2]int{{11, 11}}, false}, {one, [][2]int{{10, 9}}, false},
		{two, [][2]int{{-10, -10}, {-10, -10}}, true}, {two, [][2]int{{-10, -10}}, false}, {two, [][2]int{{0, 0}, {0, 0}, {0, 0}}, false}, {two, [][2]int{{0, 0}, {1, 0}}, false}, {two, [][2]int{{1, 0}, {0, 0}}, false}, {two, [][2]int{{0, 5}, {-3, 7}}, true}, {two, [][2]int{{0, 5}, {-11, 7}}, false},
		{five, slices.Repeat([][2]int{{-10, -6}}, 5), true}, {five, slices.Repeat([][2]int{{-10, -7}}, 5), false}, {five, slices.Repeat([][2]int{{-6, -6}}, 4), false}, {five, slices.Repeat([][2]int{{-6, -6}}, 6), false}, {five, slices.Repeat([][2]int{{0, 0}}, 5000), false},
		{one, [][2]int{{math.MinInt, 0}}, false}, {one, [][2]int{{0, math.MaxInt}}, false}, {one, [][2]int{{math.MaxInt, math.MaxInt}}, false}, {one, [][2]int{{math.MinInt, math.MinInt}}, false}, {one, [][2]int{{math.MinInt, math.MaxInt}}, false}, {one, [][2]int{{1 << 32, 1<<32 + 1}}, false},
	} {
		is, ok := impl.IsPolicy(x.p, x.levels)
		checkAnswer(t, fmt.Sprint("IsPolicy ", x.p, x.levels), is, ok, x.want, true)
		if policyBySteps(x.p, x.levels) != x.want {
			t.Error("policy by steps", x)
		}
		if !x.want {
			checkAllFail(t, policyUses(x.p, x.levels))
		} else {
			checkPolicy(t, x.p, x.levels)
		}
	}
}

// policyUses calls all functions that fail for lists that are no policies.
func policyUses(p impl.Process, levels [][2]int) []lotCall {
	asked := slices.IndexFunc(p.Weights, func(weight int) bool { return weight > 0 })
	worth, ok1 := impl.PolicyWorth(p, levels)
	up, next, cost, ok2 := impl.StepLevel(p, levels, 0, 0, asked)
	trace, sum, ok3 := impl.TraceLevels(p, levels, 0, nil)
	trace2, sum2, ok4 := impl.TraceLevels(p, levels, 0, []int{asked})
	text, ok5 := impl.TextOfPolicy(p, levels)
	return []lotCall{
		{"PolicyWorth", []any{worth}, ok1}, {"StepLevel", []any{up, next, cost}, ok2}, {"TraceLevels", []any{trace, sum}, ok3},
		{"TraceLevels", []any{trace2, sum2}, ok4}, {"TextOfPolicy", []any{text}, ok5},
	}
}

func TestP6AllPairsAsPolicies(t *testing.T) {
	for _, w := range [][]int{{1}, {1, 0}, {0, 1, 1}, {1, 1, 1, 1}, {0, 0, 0, 0, 1}} {
		one := impl.Process{Turns: 1, Weights: w, Setup: 2, Unit: 1, Hold: 1, Back: 2}
		two := one
		two.Turns = 2
		for first := -12; first <= 12; first++ {
			for second := -12; second <= 12; second++ {
				pair := [2]int{first, second}
				for _, x := range []struct {
					p      impl.Process
					levels [][2]int
				}{{one, [][2]int{pair}}, {two, [][2]int{pair, {0, 1}}}, {two, [][2]int{{0, 1}, pair}}} {
					want := policyBySteps(x.p, x.levels)
					is, ok := impl.IsPolicy(x.p, x.levels)
					checkAnswer(t, fmt.Sprint("IsPolicy ", x.p, x.levels), is, ok, want, true)
					if want {
						checkPolicy(t, x.p, x.levels)
					} else {
						checkAllFail(t, policyUses(x.p, x.levels))
					}
				}
			}
		}
	}
}

func TestP6PolicyWorthExamples(t *testing.T) {
	given := impl.Process{Turns: 1, Weights: []int{1, 1}, Setup: 1, Hold: 1, Back: 3}
	unit := impl.Process{Turns: 2, Weights: []int{0, 1}, Setup: 2, Unit: 1, Hold: 1, Back: 1}
	late := rise(57, -6, 10)
	for _, x := range []struct {
		p      impl.Process
		levels [][2]int
		want   []int
	}{
		{impl.Process{Weights: []int{3}, Setup: 7}, nil, make([]int, 21)},
		{given, [][2]int{{0, 1}}, append(rise(3, 0, 10), append([]int{3}, rise(1, 2, 10)...)...)},
		{given, [][2]int{{1, 1}}, append(rise(3, 0, 11), rise(1, 2, 10)...)},
		{given, [][2]int{{-9, 1}}, append(append([]int{3}, late...), rise(1, 2, 10)...)},
		{given, [][2]int{{-10, 1}}, append(append([]int{3}, late...), rise(1, 2, 10)...)},
		{given, [][2]int{{-10, -9}}, append(append([]int{59}, late...), rise(1, 2, 10)...)},
		{given, [][2]int{{10, 10}}, append(rise(21, 0, 20), 19)},
		{unit, [][2]int{{1, 1}, {1, 1}}, append(append(rise(16, -1, 11), 3), append([]int{1}, rise(3, 2, 8)...)...)},
	} {
		worth, ok := impl.PolicyWorth(x.p, x.levels)
		checkList(t, fmt.Sprint("PolicyWorth ", x.p, x.levels), worth, ok, x.want, true)
		checkPolicy(t, x.p, x.levels)
	}
}

func TestP6AFirstLevelBelowTheFloorIsAsTheFloor(t *testing.T) {
	var d dice = 233
	for _, p := range fullProcesses() {
		levels := d.thrownPolicy(p)
		floors := slices.Clone(levels)
		for turn := range levels {
			if turn%2 == 0 {
				levels[turn][0], floors[turn][0] = -10, leastUp(p)
			}
		}
		one, ok := impl.PolicyWorth(p, levels)
		two, fine := impl.PolicyWorth(p, floors)
		if !ok || !fine || !slices.Equal(one, two) {
			t.Fatal("not the same", p, levels, floors, one, two)
		}
	}
}

func TestP6ProofExamples(t *testing.T) {
	const most = 1000000000000
	none := make([]int, 21)
	all := func(x int) []int { return slices.Repeat([]int{x}, 21) }
	with := func(list []int, at, x int) []int {
		changed := slices.Clone(list)
		changed[at] = x
		return changed
	}
	idle := impl.Process{Weights: []int{1, 3}, Setup: 1}
	one := impl.Process{Turns: 1, Weights: []int{1}}
	given := impl.Process{Turns: 1, Weights: []int{1, 1}, Setup: 1, Hold: 1, Back: 3}
	worths := append(rise(3, 0, 11), rise(1, 2, 10)...)
	two := impl.Process{Turns: 2, Weights: []int{2}}
	for _, x := range []struct {
		p     impl.Process
		table [][]int
		want  bool
	}{
		{idle, nil, false}, {idle, [][]int{none}, true}, {idle, [][]int{all(-5)}, true}, {idle, [][]int{all(1)}, false}, {idle, [][]int{with(none, 0, 1)}, false}, {idle, [][]int{with(none, 20, 1)}, false}, {idle, [][]int{with(none, 20, -1)}, true},
		{idle, [][]int{all(-most)}, true}, {idle, [][]int{all(-most - 1)}, false}, {idle, [][]int{with(none, 0, -most-1)}, false}, {idle, [][]int{with(none, 20, math.MinInt)}, false}, {idle, [][]int{with(none, 10, most)}, false}, {idle, [][]int{with(none, 10, math.MaxInt)}, false},
		{idle, [][]int{none, none}, false}, {idle, [][]int{none[:20]}, false}, {idle, [][]int{make([]int, 22)}, false}, {idle, [][]int{nil}, false}, {idle, [][]int{{0}}, false}, {idle, make([][]int, 5000), false}, {idle, [][]int{make([]int, 5000)}, false},
		{one, [][]int{none, none}, true}, {one, [][]int{all(1), none}, false}, {one, [][]int{with(none, 0, 1), none}, false}, {one, [][]int{with(none, 20, 1), none}, false}, {one, [][]int{all(-1), all(-1)}, true}, {one, [][]int{none, all(-1)}, false}, {one, [][]int{none, with(none, 20, -1)}, false}, {one, [][]int{none, with(none, 0, -1)}, false},
		{one, [][]int{with(none, 0, -1), with(none, 0, -1)}, true}, {one, [][]int{with(none, 0, -1), none}, true}, {one, [][]int{all(-most), all(-most)}, true}, {one, [][]int{all(-most - 1), all(-most)}, false}, {one, [][]int{with(all(-most), 7, -most-1), all(-most)}, false}, {one, [][]int{with(all(-most), 7, math.MinInt), all(-most)}, false}, {one, [][]int{all(-most), with(all(-most), 7, math.MinInt)}, false},
		{one, [][]int{with(none, 3, most), none}, false}, {one, [][]int{with(none, 3, most+1), none}, false}, {one, [][]int{with(none, 3, math.MaxInt), none}, false}, {one, [][]int{none, with(none, 3, math.MaxInt)}, false},
		{one, nil, false}, {one, [][]int{none}, false}, {one, [][]int{none, none, none}, false}, {one, [][]int{none[:20], none}, false}, {one, [][]int{none, none[:20]}, false}, {one, [][]int{none, make([]int, 22)}, false}, {one, [][]int{make([]int, 22), none}, false}, {one, [][]int{nil, none}, false}, {one, [][]int{none, nil}, false}, {one, [][]int{nil, nil}, false},
		{given, [][]int{worths, none}, true}, {given, [][]int{with(worths, 0, 4), none}, false}, {given, [][]int{with(worths, 9, 4), none}, false}, {given, [][]int{with(worths, 11, 2), none}, false}, {given, [][]int{with(worths, 20, 20), none}, false}, {given, [][]int{with(worths, 20, 18), none}, true}, {given, [][]int{none, none}, true}, {given, [][]int{worths, all(1)}, false},
		{given, [][]int{worths, with(none, 0, -1)}, true}, {given, [][]int{worths, with(none, 11, -1)}, false}, {given, [][]int{all(-most), none}, true},
		{two, [][]int{all(-6), all(-3), all(-1)}, true}, {two, [][]int{all(-6), all(-2), all(-1)}, true}, {two, [][]int{all(-4), all(-2), all(-1)}, true}, {two, [][]int{all(-3), all(-2), all(-1)}, false}, {two, [][]int{all(-4), all(-1), all(-1)}, false}, {two, [][]int{all(-4), all(-2)}, false},
	} {
		proof, ok := impl.IsWorthProof(x.p, x.table)
		checkAnswer(t, fmt.Sprint("IsWorthProof ", x.p, x.table), proof, ok, x.want, true)
		if proofBySteps(x.p, x.table) != x.want {
			t.Error("proof by steps", x)
		}
	}
}

// checkProof compares with all moves, and tells whether a table is a proof.
func checkProof(t *testing.T, p impl.Process, table [][]int) bool {
	t.Helper()
	want := proofBySteps(p, table)
	proof, ok := impl.IsWorthProof(p, table)
	if proof != want || !ok {
		t.Fatal("IsWorthProof", p, table, proof, ok, want)
	}
	return want
}

func copyTable(table [][]int) [][]int {
	var copied [][]int
	for _, row := range table {
		copied = append(copied, slices.Clone(row))
	}
	return copied
}

func TestP6TheWorthTableIsAProof(t *testing.T) {
	var d dice = 239
	for _, p := range append(smallProcesses(), fullProcesses()...) {
		table, _ := impl.WorthTable(p)
		if proof, ok := impl.IsWorthProof(p, table); !proof || !ok {
			t.Fatal("no proof", p, table)
		}
		turn, at := d.throw(p.Turns), d.throw(20)
		table[turn][at]++
		if proof, ok := impl.IsWorthProof(p, table); proof || !ok {
			t.Fatal("a proof of more than the worth", p, table)
		}
	}
}

func TestP6NoNumberOfTheWorthTableCanBeGreater(t *testing.T) {
	for _, p := range fullProcesses()[:170] {
		table, _ := impl.WorthTable(p)
		for turn := range table {
			for at := range table[turn] {
				table[turn][at]++
				if proof, ok := impl.IsWorthProof(p, table); proof || !ok {
					t.Fatal("a proof of more than the worth", p, turn, at, table)
				}
				table[turn][at]--
			}
		}
	}
}

func TestP6ThrownTables(t *testing.T) {
	var d dice = 241
	proofs := 0
	for _, p := range fullProcesses() {
		last := make([]int, 21)
		for at := range last {
			last[at] = -d.throw(1 + d.throw(30))
		}
		table := worthsBefore(p, last)
		if !checkProof(t, p, table) {
			t.Fatal("no proof", p, table)
		}
		for range 12 {
			other := copyTable(table)
			for range 1 + d.throw(2) {
				turn, at := d.throw(p.Turns), d.throw(20)
				other[turn][at] += d.throw(4) - 3
			}
			if checkProof(t, p, other) {
				proofs++
			}
		}
	}
	if proofs < 1000 {
		t.Error("too few proofs", proofs)
	}
}

func TestP6WhatIsProvedNoPolicyIsWorthLess(t *testing.T) {
	var d dice = 251
	for _, p := range fullProcesses() {
		last := make([]int, 21)
		last[d.throw(20)] = -d.throw(9)
		table := worthsBefore(p, last)
		worth, ok := impl.PolicyWorth(p, d.thrownPolicy(p))
		if proof, fine := impl.IsWorthProof(p, table); !proof || !fine || !ok {
			t.Fatal("no proof", p, table)
		}
		for at := range worth {
			if worth[at] < table[0][at] {
				t.Fatal("worth less", p, table, worth)
			}
		}
	}
}

func TestP6StepExamples(t *testing.T) {
	given := impl.Process{Turns: 1, Weights: []int{1, 1}, Setup: 1, Hold: 1, Back: 3}
	full := impl.Process{Turns: 3, Weights: []int{0, 2, 0, 0, 1}, Setup: 7, Unit: 2, Hold: 3, Back: 5}
	levels := [][2]int{{0, 4}, {-10, -6}, {10, 10}}
	for _, x := range []struct {
		p                  impl.Process
		levels             [][2]int
		turn, level, asked int
		want               [3]int
	}{
		{given, [][2]int{{0, 1}}, 0, -1, 1, [3]int{1, 0, 1}}, {given, [][2]int{{0, 1}}, 0, -1, 0, [3]int{1, 1, 2}}, {given, [][2]int{{0, 1}}, 0, 0, 0, [3]int{0, 0, 0}}, {given, [][2]int{{0, 1}}, 0, 0, 1, [3]int{0, -1, 3}}, {given, [][2]int{{0, 1}}, 0, 10, 0, [3]int{10, 10, 10}}, {given, [][2]int{{0, 1}}, 0, -10, 1, [3]int{1, 0, 1}},
		{given, [][2]int{{-10, -9}}, 0, -10, 1, [3]int{-9, -10, 31}}, {given, [][2]int{{-10, -9}}, 0, -9, 1, [3]int{-9, -10, 30}}, {given, [][2]int{{-9, 10}}, 0, -10, 0, [3]int{10, 10, 11}}, {given, [][2]int{{-9, 10}}, 0, -9, 0, [3]int{-9, -9, 27}},
		{full, levels, 0, -1, 1, [3]int{4, 3, 7 + 10 + 9}}, {full, levels, 0, -1, 4, [3]int{4, 0, 7 + 10}}, {full, levels, 0, 0, 4, [3]int{0, -4, 20}}, {full, levels, 0, 3, 4, [3]int{3, -1, 5}}, {full, levels, 0, 5, 4, [3]int{5, 1, 3}}, {full, levels, 0, -10, 1, [3]int{4, 3, 7 + 28 + 9}},
		{full, levels, 1, -10, 4, [3]int{-6, -10, 7 + 8 + 50}}, {full, levels, 1, -7, 1, [3]int{-6, -7, 7 + 2 + 35}}, {full, levels, 1, -6, 1, [3]int{-6, -7, 35}}, {full, levels, 1, 10, 1, [3]int{10, 9, 27}},
		{full, levels, 2, 9, 4, [3]int{10, 6, 7 + 2 + 18}}, {full, levels, 2, 10, 4, [3]int{10, 6, 18}}, {full, levels, 2, -10, 1, [3]int{10, 9, 7 + 40 + 27}},
	} {
		checkStep(t, x.p, x.levels, x.turn, x.level, x.asked, x.want, true)
	}
}

func TestP6AllStepsOfManyPolicies(t *testing.T) {
	var d dice = 257
	never := 0
	for _, p := range fullProcesses() {
		levels := d.thrownPolicy(p)
		for turn := range p.Turns {
			for x := -10; x <= 10; x++ {
				y := upBySteps(p, levels[turn], x)
				for asked := -2; asked <= 7; asked++ {
					if asked >= 0 && asked < len(p.Weights) && p.Weights[asked] > 0 {
						checkStep(t, p, levels, turn, x, asked, [3]int{y, y - asked, turnCost(p, x, y, asked)}, true)
					} else {
						checkStep(t, p, levels, turn, x, asked, [3]int{}, false)
						never++
					}
				}
			}
		}
		if t.Failed() {
			return
		}
	}
	if never < 1000 {
		t.Error("too few numbers that are never asked for", never)
	}
}

func TestP6NumbersThatAreNeverAskedFor(t *testing.T) {
	for _, w := range weightLists {
		p := impl.Process{Turns: 2, Weights: w, Setup: 1, Unit: 1, Hold: 1, Back: 3}
		levels, _ := impl.BestLevels(p)
		good := slices.IndexFunc(w, func(weight int) bool { return weight > 0 })
		bad := outside(len(w))
		for d, weight := range w {
			if weight == 0 {
				bad = append(bad, d)
			}
		}
		for _, asked := range bad {
			for turn := range 2 {
				checkStep(t, p, levels, turn, 0, asked, [3]int{}, false)
			}
			for _, list := range [][]int{{asked}, {good, asked}, {asked, good}, {asked, asked}} {
				checkTrace(t, p, levels, 0, list, nil, 0, false)
			}
		}
		checkTrace(t, p, levels, 0, []int{good, good, good}, nil, 0, false)
	}
}

func TestP6TraceExamples(t *testing.T) {
	given := impl.Process{Turns: 1, Weights: []int{1, 1}, Setup: 1, Hold: 1, Back: 3}
	none := impl.Process{Weights: []int{0, 1}, Setup: 1}
	full := impl.Process{Turns: 3, Weights: []int{0, 2, 0, 0, 1}, Setup: 7, Unit: 2, Hold: 3, Back: 5}
	levels := [][2]int{{0, 4}, {-10, -6}, {10, 10}}
	for _, x := range []struct {
		p      impl.Process
		levels [][2]int
		level  int
		asked  []int
		want   []int
		sum    int
		ok     bool
	}{
		{given, [][2]int{{0, 1}}, -1, []int{1}, []int{0}, 1, true}, {given, [][2]int{{0, 1}}, -1, nil, nil, 0, true}, {given, [][2]int{{0, 1}}, -1, []int{1, 1}, nil, 0, false}, {given, [][2]int{{0, 1}}, -1, []int{2}, nil, 0, false}, {given, [][2]int{{0, 1}}, -11, nil, nil, 0, false},
		{none, nil, 0, nil, nil, 0, true}, {none, nil, 10, []int{}, nil, 0, true}, {none, nil, -10, nil, nil, 0, true}, {none, nil, 11, nil, nil, 0, false}, {none, nil, -11, nil, nil, 0, false}, {none, nil, 0, []int{1}, nil, 0, false}, {none, nil, 0, []int{0}, nil, 0, false}, {none, [][2]int{{0, 0}}, 0, nil, nil, 0, false},
		{full, levels, 0, []int{4, 4, 1}, []int{-4, -8, 9}, 20 + 40 + 7 + 36 + 27, true}, {full, levels, 0, []int{4, 4}, []int{-4, -8}, 60, true}, {full, levels, 0, []int{4}, []int{-4}, 20, true}, {full, levels, 0, nil, nil, 0, true}, {full, levels, -10, []int{1, 1, 4}, []int{3, 2, 6}, 44 + 6 + 7 + 16 + 18, true}, {full, levels, 10, []int{1, 1, 1}, []int{9, 8, 9}, 27 + 24 + 7 + 4 + 27, true},
		{full, levels, 0, []int{4, 4, 1, 1}, nil, 0, false}, {full, levels, 0, []int{4, 4, 0}, nil, 0, false}, {full, levels, 0, []int{4, 2, 1}, nil, 0, false}, {full, levels, 0, []int{5}, nil, 0, false}, {full, levels, 0, []int{-1}, nil, 0, false}, {full, levels, 0, slices.Repeat([]int{1}, 5000), nil, 0, false}, {full, levels[:2], 0, []int{1}, nil, 0, false},
	} {
		checkTrace(t, x.p, x.levels, x.level, x.asked, x.want, x.sum, x.ok)
	}
}

// askedLists gives lists of numbers that are asked for, from none to one for each turn and one more.
func (d *dice) askedLists(p impl.Process) [][]int {
	var good []int
	for asked, weight := range p.Weights {
		if weight > 0 {
			good = append(good, asked)
		}
	}
	lists := [][]int{nil}
	for n := 1; n <= p.Turns+1; n++ {
		list := slices.Clone(lists[n-1])
		lists = append(lists, append(list, good[d.throw(len(good)-1)]))
	}
	return lists
}

func TestP6TracesFollowTheSteps(t *testing.T) {
	var d dice = 263
	for _, p := range fullProcesses() {
		levels := d.thrownPolicy(p)
		if best, _ := impl.BestLevels(p); d.throw(1) == 0 {
			levels = best
		}
		for x := -10; x <= 10; x++ {
			for n, asked := range d.askedLists(p) {
				if n > p.Turns {
					checkTrace(t, p, levels, x, asked, nil, 0, false)
					continue
				}
				var trace []int
				sum, level := 0, x
				for turn, pieces := range asked {
					_, next, cost, ok := impl.StepLevel(p, levels, turn, level, pieces)
					if !ok {
						t.Fatal("no step", p, levels, turn, level, pieces)
					}
					level = next
					sum += cost
					trace = append(trace, level)
				}
				checkTrace(t, p, levels, x, asked, trace, sum, true)
			}
		}
		if t.Failed() {
			return
		}
	}
}

func TestP6TextExamples(t *testing.T) {
	none := impl.Process{Weights: []int{1}}
	one := impl.Process{Turns: 1, Weights: []int{1, 1}, Setup: 1, Hold: 1, Back: 3}
	two := impl.Process{Turns: 2, Weights: []int{1}, Setup: 5}
	five := impl.Process{Turns: 5, Weights: []int{1, 0, 0, 0, 0}}
	for _, x := range []struct {
		p      impl.Process
		levels [][2]int
		want   string
		ok     bool
	}{
		{none, nil, "none", true}, {none, [][2]int{}, "none", true}, {none, [][2]int{{0, 0}}, "", false}, {one, nil, "", false},
		{one, [][2]int{{0, 1}}, "0/1", true}, {one, [][2]int{{-10, 10}}, "-10/10", true}, {one, [][2]int{{1, 0}}, "", false}, {one, [][2]int{{-10, -9}}, "-10/-9", true},
		{two, [][2]int{{-1, 0}, {-5, 0}}, "-1/0 -5/0", true}, {two, [][2]int{{-10, -10}, {10, 10}}, "-10/-10 10/10", true}, {two, [][2]int{{0, 0}}, "", false},
		{five, [][2]int{{-10, -6}, {-6, -6}, {0, 0}, {0, 9}, {10, 10}}, "-10/-6 -6/-6 0/0 0/9 10/10", true}, {five, [][2]int{{-10, -6}, {-6, -6}, {0, 0}, {0, 9}, {10, 11}}, "", false},
	} {
		text, ok := impl.TextOfPolicy(x.p, x.levels)
		checkText(t, fmt.Sprint("TextOfPolicy ", x.p, x.levels), text, ok, x.want, x.ok)
	}
}

// policyArgs are arguments of the functions of the chapter; numbers are those of all numbers.
type policyArgs struct {
	p       impl.Process
	levels  [][2]int
	table   [][]int
	list    []int
	asked   []int
	numbers []int
}

// policyCalls calls each function of the chapter.
func policyCalls(x policyArgs) []lotCall {
	var calls []lotCall
	add := func(name string, ok bool, results ...any) { calls = append(calls, lotCall{name, results, ok}) }
	add("IsProcess", true, impl.IsProcess(x.p))
	whole, power, ok := impl.WholeOf(x.p)
	add("WholeOf", ok, whole, power)
	table, ok := impl.WorthTable(x.p)
	add("WorthTable", ok, table)
	levels, ok := impl.BestLevels(x.p)
	add("BestLevels", ok, levels)
	is, ok := impl.IsPolicy(x.p, x.levels)
	add("IsPolicy", ok, is)
	worth, ok := impl.PolicyWorth(x.p, x.levels)
	add("PolicyWorth", ok, worth)
	proof, ok := impl.IsWorthProof(x.p, x.table)
	add("IsWorthProof", ok, proof)
	text, ok := impl.TextOfPolicy(x.p, x.levels)
	add("TextOfPolicy", ok, text)
	for i, n := range x.numbers {
		bills, ok := impl.BillsOf(x.p, n)
		add("BillsOf", ok, bills)
		convex, ok := impl.IsConvexFor(x.list, n)
		add("IsConvexFor", ok, convex)
		trace, sum, ok := impl.TraceLevels(x.p, x.levels, n, x.asked)
		add("TraceLevels", ok, trace, sum)
		for j, m := range x.numbers {
			up, ok := impl.BestOrder(x.p, n, m)
			add("BestOrder", ok, up)
			up, next, cost, ok := impl.StepLevel(x.p, x.levels, n, m, x.numbers[(i+j)%len(x.numbers)])
			add("StepLevel", ok, up, next, cost)
		}
	}
	return calls
}

// failingAlways are the functions that fail for each Process that is not valid.
func failingAlways(name string) bool {
	return name != "IsProcess" && name != "IsConvexFor"
}

// manyPolicyArgs gives arguments of which all are valid, and others of which some are not.
func manyPolicyArgs() []policyArgs {
	var d dice = 269
	bad := noProcesses()
	far := []int{math.MinInt, -11, -10, -1, 0, 1, 4, 5, 10, 11, math.MaxInt}
	var found []policyArgs
	for i := range 120 {
		p := d.thrownProcess(i%6, 30, 9)
		lists := d.askedLists(p)
		x := policyArgs{p, d.thrownPolicy(p), worthsBySteps(p), rise(d.throw(9), d.throw(9), d.throw(41)), lists[d.throw(len(lists)-1)], []int{0, d.throw(4), -d.throw(10)}}
		found = append(found, x)
		good := x
		x.numbers = far
		found = append(found, x)
		x = good
		x.levels = append(slices.Clone(good.levels), [2]int{0, 0})
		found = append(found, x)
		x = good
		x.table, x.list = append(copyTable(good.table), make([]int, 20)), make([]int, 42)
		found = append(found, x)
		x = good
		x.asked, x.levels = []int{-1, 5}, [][2]int{{math.MaxInt, math.MinInt}, {3, 2}}
		found = append(found, x)
		x = good
		x.table, x.list = [][]int{nil, {math.MaxInt, math.MinInt}}, []int{math.MaxInt, math.MinInt, math.MaxInt}
		found = append(found, x)
		x = good
		x.p = bad[i%len(bad)]
		found = append(found, x)
	}
	return append(found, policyArgs{}, policyArgs{numbers: far}, policyArgs{levels: [][2]int{{0, 0}}, table: [][]int{{0}}, numbers: far})
}

func TestP13PolicyFunctionsFailWithoutAProcess(t *testing.T) {
	good := impl.Process{Turns: 2, Weights: []int{1, 2, 1}, Setup: 3, Unit: 1, Hold: 1, Back: 4}
	best, _ := impl.BestLevels(good)
	table, _ := impl.WorthTable(good)
	for _, p := range noProcesses() {
		for _, x := range []policyArgs{
			{p, best, table, nil, []int{1, 1}, []int{0, 1, -1}}, {p, nil, table[2:], nil, nil, []int{0, 1, 10}}, {p, best[:1], table[1:], nil, []int{0}, []int{0, 2}}, {p, nil, nil, nil, nil, []int{0, math.MaxInt}},
		} {
			for _, call := range policyCalls(x) {
				if failingAlways(call.name) {
					checkAllFail(t, []lotCall{call})
				} else if call.name == "IsProcess" && call.results[0] != false {
					t.Error("a Process", p)
				}
			}
		}
	}
}

func TestP13WherePolicyFunctionsFailAllResultsAreZero(t *testing.T) {
	failing, fine := 0, 0
	for _, x := range manyPolicyArgs() {
		calls := policyCalls(x)
		checkZeroBesideFalse(t, calls, false)
		for _, call := range calls {
			if call.ok {
				fine++
			} else {
				failing++
			}
		}
	}
	if failing < 1000 || fine < 1000 {
		t.Error("too few calls that fail, or do not", failing, fine)
	}
}

// roomyPolicy gives the same arguments in memory that goes on behind them, and all this memory.
func roomyPolicy(x policyArgs) (policyArgs, [][]int) {
	memory := make([][]int, 3)
	x.p.Weights, memory[0] = withRoom(x.p.Weights)
	x.list, memory[1] = withRoom(x.list)
	x.asked, memory[2] = withRoom(x.asked)
	table := make([][]int, len(x.table))
	for i := range x.table {
		var all []int
		table[i], all = withRoom(x.table[i])
		memory = append(memory, all)
	}
	x.table = append(table, []int{81}, []int{82}, []int{83})[:len(table)]
	x.levels = append(slices.Clone(x.levels), [2]int{91, 92}, [2]int{93, 94}, [2]int{95, 96})[:len(x.levels)]
	return x, memory
}

// deepCopyPolicy gives the same arguments, with what is behind the lists of lists, in other memory.
func deepCopyPolicy(x policyArgs) policyArgs {
	x.p.Weights, x.list, x.asked = slices.Clone(x.p.Weights), slices.Clone(x.list), slices.Clone(x.asked)
	x.table = copyTable(x.table[:cap(x.table)])
	x.levels = slices.Clone(x.levels[:cap(x.levels)])
	return x
}

func TestP13PolicyFunctionsLeaveTheirArguments(t *testing.T) {
	for _, x := range manyPolicyArgs() {
		given, memory := roomyPolicy(x)
		before, lists := deepCopyPolicy(given), copyTable(memory)
		calls := policyCalls(given)
		checkResultsAreApart(t, calls)
		if !slices.EqualFunc(memory, lists, slices.Equal[[]int]) || !reflect.DeepEqual(deepCopyPolicy(given), before) {
			t.Fatal("changed", x, given, memory)
		}
		for i, call := range policyCalls(x) {
			if call.ok != calls[i].ok {
				t.Fatal("another answer", x, call, calls[i])
			}
		}
	}
}

func TestP13PolicyFunctionsReturnTheSameAgain(t *testing.T) {
	for _, x := range manyPolicyArgs() {
		first := fmt.Sprint(policyCalls(x))
		checkResultsAreApart(t, policyCalls(x))
		if second := fmt.Sprint(policyCalls(x)); first != second {
			t.Fatal("another result", first, second)
		}
	}
}

func TestP13NilAndEmptyListsOfPolicies(t *testing.T) {
	idle := impl.Process{Weights: []int{1}}
	numbers := []int{-1, 0, 1, 10, 11}
	none := policyCalls(policyArgs{p: idle, numbers: numbers})
	empty := policyCalls(policyArgs{p: idle, levels: [][2]int{}, table: [][]int{}, list: []int{}, asked: []int{}, numbers: numbers})
	if fmt.Sprint(none) != fmt.Sprint(empty) {
		t.Error("not the same", none, empty)
	}
	for _, w := range [][]int{nil, {}} {
		for _, call := range policyCalls(policyArgs{p: impl.Process{Weights: w}, levels: [][2]int{}, table: [][]int{}, list: []int{}, asked: []int{}, numbers: numbers}) {
			if failingAlways(call.name) {
				checkAllFail(t, []lotCall{call})
			}
		}
	}
}
