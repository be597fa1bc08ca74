package tests

import (
	"fmt"
	"math"
	"reflect"
	"slices"
	"testing"

	"loop.example/g01111/impl"
)

// shelfOf gives the Shelf with a pair of what arrives and of the Need for each period.
func shelfOf(life int, periods ...[2]int) impl.Shelf {
	s := impl.Shelf{Life: life, Waste: 1, Lost: 3}
	for _, x := range periods {
		s.Arrive, s.Need = append(s.Arrive, x[0]), append(s.Need, x[1])
	}
	return s
}

func copyShelf(s impl.Shelf) impl.Shelf {
	s.Arrive, s.Need = slices.Clone(s.Arrive), slices.Clone(s.Need)
	return s
}

// thrownShelf gives a Shelf with n periods. A third of the arrivals and of the Needs are 0.
func (d *dice) thrownShelf(n, life, arrive, need int) impl.Shelf {
	s := impl.Shelf{Life: life, Waste: d.throw(20), Lost: d.throw(20)}
	for range n {
		s.Arrive = append(s.Arrive, d.throw(arrive)*min(1, d.throw(2)))
		s.Need = append(s.Need, d.throw(need)*min(1, d.throw(2)))
	}
	return s
}

// smallShelves gives Shelves with so few issues that one can look at all of them.
func smallShelves() []impl.Shelf {
	var found []impl.Shelf
	for life := 1; life <= 8; life++ {
		found = append(found, shelfOf(life))
	}
	for _, life := range []int{1, 2, 3, 8} {
		for _, x := range countedLists([]int{4, 4}) {
			found = append(found, shelfOf(life, [2]int{x[0], x[1]}))
		}
		for _, x := range countedLists([]int{3, 3, 3, 3}) {
			found = append(found, shelfOf(life, [2]int{x[0], x[1]}, [2]int{x[2], x[3]}))
		}
		for _, x := range countedLists(slices.Repeat([]int{2}, 6)) {
			found = append(found, shelfOf(life, [2]int{x[0], x[1]}, [2]int{x[2], x[3]}, [2]int{x[4], x[5]}))
		}
	}
	var d dice = 501
	for i := range 200 {
		found = append(found, d.thrownShelf(3, 1+i%4, 4, 4), d.thrownShelf(4, 1+i%5, 3, 3), d.thrownShelf(5, 1+i%6, 2, 2), d.thrownShelf(6, 1+i%7, 1, 2))
	}
	return found
}

// fullShelves gives Shelves of all lives and numbers of periods, with numbers up to the limits.
func fullShelves() []impl.Shelf {
	var found []impl.Shelf
	var d dice = 503
	for n := range 9 {
		for life := 1; life <= 8; life++ {
			for _, most := range [][2]int{{20, 20}, {20, 20}, {4, 4}, {9, 5}, {5, 9}, {2, 2}, {20, 1}, {1, 20}} {
				found = append(found, d.thrownShelf(n, life, most[0], most[1]))
			}
			for i := range 4 {
				s := shelfOf(life, slices.Repeat([][2]int{{i & 1 * 20, i >> 1 * 20}}, n)...)
				s.Waste, s.Lost = i&1*20, i>>1*20
				found = append(found, s)
			}
		}
	}
	for i := range 300 {
		found = append(found, d.thrownShelf(5+i%4, 2+i%4, 20, 20))
	}
	return found
}

// gapShelves gives Shelves with periods without arrivals, and with arrivals without Needs.
func gapShelves() []impl.Shelf {
	var found []impl.Shelf
	for _, lists := range [][2][]int{
		{{0}, {0}}, {{5}, {0}}, {{0}, {5}}, {{0, 0, 0}, {2, 3, 1}}, {{2, 3, 1}, {0, 0, 0}}, {{9, 0, 0, 0}, {1, 2, 3, 4}}, {{0, 0, 0, 9}, {1, 2, 3, 4}}, {{4, 3, 2, 1}, {0, 0, 0, 9}}, {{4, 3, 2, 1}, {9, 0, 0, 0}},
		{{0, 9, 0, 0, 9, 0}, {3, 3, 3, 3, 3, 3}}, {{5, 0, 5, 0, 5, 0}, {0, 5, 0, 5, 0, 5}}, {{0, 5, 0, 5, 0, 5}, {5, 0, 5, 0, 5, 0}}, {{6, 0, 0, 6, 0, 0}, {2, 2, 2, 2, 2, 2}}, {{3, 3, 3, 0, 0, 0, 0, 0}, {0, 0, 2, 2, 2, 2, 2, 2}}, {{20, 0, 0, 0, 0, 0, 0, 0}, {0, 0, 0, 0, 0, 0, 0, 20}}, {{0, 0, 0, 0, 0, 0, 0, 20}, {20, 0, 0, 0, 0, 0, 0, 0}}, {{1, 1, 1, 1, 1, 1, 1, 1}, {0, 0, 0, 0, 0, 0, 0, 8}},
		{{2, 1, 0, 2, 1, 0}, {0, 2, 0, 0, 3, 1}},
	} {
		for life := 1; life <= 8; life++ {
			found = append(found, impl.Shelf{Life: life, Arrive: lists[0], Need: lists[1], Waste: 2, Lost: 7})
		}
	}
	return found
}

func allShelves() []impl.Shelf {
	return slices.Concat(smallShelves(), fullShelves(), gapShelves())
}

// noShelves gives Shelves of which one part is not valid.
func noShelves() []impl.Shelf {
	bad := []impl.Shelf{{}, {Waste: 1, Lost: 1}, {Arrive: []int{1}, Need: []int{1}}, {Life: 1, Arrive: []int{1}}, {Life: 1, Need: []int{1}}, {Life: 8, Arrive: []int{0}}, {Life: 8, Need: []int{0}}}
	good := []impl.Shelf{shelfOf(1), shelfOf(2, [2]int{3, 1}, [2]int{0, 1}, [2]int{1, 2}), shelfOf(8, slices.Repeat([][2]int{{20, 20}}, 8)...)}
	for _, s := range good {
		for _, x := range beyond(8) {
			other := copyShelf(s)
			other.Life = x
			bad = append(bad, other)
		}
		other := copyShelf(s)
		other.Life = 0
		bad = append(bad, other)
		for _, x := range beyond(20) {
			waste, lost := copyShelf(s), copyShelf(s)
			waste.Waste, lost.Lost = x, x
			bad = append(bad, waste, lost)
			for at := range s.Arrive {
				arrive, need := copyShelf(s), copyShelf(s)
				arrive.Arrive[at], need.Need[at] = x, x
				bad = append(bad, arrive, need)
			}
		}
		for _, more := range [][]int{{0}, {1}, make([]int, 8), make([]int, 5000)} {
			arrive, need := copyShelf(s), copyShelf(s)
			arrive.Arrive, need.Need = append(arrive.Arrive, more...), append(need.Need, more...)
			bad = append(bad, arrive, need)
		}
		if len(s.Need) > 0 {
			arrive, need := copyShelf(s), copyShelf(s)
			arrive.Arrive, need.Need = arrive.Arrive[1:], need.Need[1:]
			bad = append(bad, arrive, need)
		}
	}
	for _, n := range []int{9, 5000} {
		bad = append(bad, shelfOf(1, make([][2]int, n)...), shelfOf(8, slices.Repeat([][2]int{{20, 20}}, n)...))
	}
	return bad
}

// canLast tells by the document's words whether units of one period can be used in another one.
func canLast(s impl.Shelf, from, t int) bool {
	for period := from; period <= from+s.Life-1; period++ {
		if period == t {
			return true
		}
	}
	return false
}

// zeroRows gives a row of n numbers for each of n periods.
func zeroRows(n int) [][]int {
	rows := make([][]int, n)
	for t := range rows {
		rows[t] = make([]int, n)
	}
	return rows
}

// restBySteps gives what an issue leaves of the Needs and of what arrives, and whether it is one.
func restBySteps(s impl.Shelf, issue [][]int) ([]int, []int, bool) {
	if len(issue) != len(s.Need) {
		return nil, nil, false
	}
	lost, wasted := slices.Clone(s.Need), slices.Clone(s.Arrive)
	for t, row := range issue {
		if len(row) != len(s.Arrive) {
			return nil, nil, false
		}
		for from, units := range row {
			if units < 0 || units > 1000 || units > 0 && !canLast(s, from, t) {
				return nil, nil, false
			}
			lost[t] -= units
			wasted[from] -= units
		}
	}
	if slices.ContainsFunc(slices.Concat(lost, wasted), func(x int) bool { return x < 0 }) {
		return nil, nil, false
	}
	return lost, wasted, true
}

// shelfBySteps issues unit by unit: the shelf has the period in which each one of its units arrived.
func shelfBySteps(s impl.Shelf, newest bool) [][]int {
	issue := zeroRows(len(s.Need))
	var shelf []int
	for t, need := range s.Need {
		shelf = append(shelf, slices.Repeat([]int{t}, s.Arrive[t])...)
		shelf = slices.DeleteFunc(shelf, func(from int) bool { return from+s.Life-1 < t })
		for ; need > 0 && len(shelf) > 0; need-- {
			at := 0
			if newest {
				at = len(shelf) - 1
			}
			issue[t][shelf[at]]++
			shelf = slices.Delete(shelf, at, at+1)
		}
	}
	return issue
}

// agesBySteps gives what is left behind a period by its age.
func agesBySteps(s impl.Shelf, issue [][]int, t int) []int {
	var stock []int
	for from := t; from > t-s.Life+1; from-- {
		units := 0
		if from >= 0 {
			units = s.Arrive[from]
			for period := from; period <= t; period++ {
				units -= issue[period][from]
			}
		}
		stock = append(stock, units)
	}
	return stock
}

// boundBySteps gives the lost bound of a set of periods.
func boundBySteps(s impl.Shelf, set []int) int {
	bound := 0
	fresh := make([]bool, len(s.Arrive))
	for _, t := range set {
		bound += s.Need[t]
		for from := range s.Arrive {
			fresh[from] = fresh[from] || canLast(s, from, t)
		}
	}
	for from, is := range fresh {
		if is {
			bound -= s.Arrive[from]
		}
	}
	return bound
}

// proofByAll gives the first of all sets with the greatest lost bound, and this bound.
func proofByAll(s impl.Shelf) ([]int, int) {
	var first []int
	greatest := math.MinInt
	for _, set := range orderLists(len(s.Need)) {
		if bound := boundBySteps(s, set); bound > greatest {
			first, greatest = set, bound
		}
	}
	return first, greatest
}

// mostUsed gives the most units that any issue uses: as long as there is a way to have one unit more,
// for which others may be used in other periods, it is taken.
func mostUsed(s impl.Shelf) int {
	issue := zeroRows(len(s.Need))
	var oneMore func(t int, seen []bool) bool
	oneMore = func(t int, seen []bool) bool {
		for from, units := range s.Arrive {
			if seen[from] || !canLast(s, from, t) {
				continue
			}
			seen[from] = true
			for period := range issue {
				units -= issue[period][from]
			}
			if units > 0 {
				issue[t][from]++
				return true
			}
			for period := range issue {
				if issue[period][from] > 0 && oneMore(period, seen) {
					issue[period][from]--
					issue[t][from]++
					return true
				}
			}
		}
		return false
	}
	used := 0
	for t, need := range s.Need {
		for range need {
			if oneMore(t, make([]bool, len(s.Need))) {
				used++
			}
		}
	}
	return used
}

// eachIssue calls a function with each issue of a Shelf.
func eachIssue(s impl.Shelf, call func(issue [][]int)) {
	n := len(s.Need)
	issue, lost, wasted := zeroRows(n), slices.Clone(s.Need), slices.Clone(s.Arrive)
	var fill func(at int)
	fill = func(at int) {
		if at == n*n {
			call(issue)
			return
		}
		t, from := at/n, at%n
		fill(at + 1)
		most := min(lost[t], wasted[from])
		if !canLast(s, from, t) {
			most = 0
		}
		for range most {
			issue[t][from]++
			lost[t]--
			wasted[from]--
			fill(at + 1)
		}
		lost[t] += issue[t][from]
		wasted[from] += issue[t][from]
		issue[t][from] = 0
	}
	fill(0)
}

func unitsOf(issue [][]int) int {
	return allNeeds(slices.Concat(issue...))
}

// checkIssue compares all that is told of a list of lists that is an issue, or that is none.
func checkIssue(t *testing.T, s impl.Shelf, issue [][]int) {
	t.Helper()
	lost, wasted, is := restBySteps(s, issue)
	what := fmt.Sprint(s, len(issue))
	if len(issue) <= 9 {
		what = fmt.Sprint(s, issue)
	}
	got, ok := impl.IsIssue(s, issue)
	checkAnswer(t, "IsIssue "+what, got, ok, is, true)
	list, ok := impl.LostNeeds(s, issue)
	checkList(t, "LostNeeds "+what, list, ok, lost, is)
	list, ok = impl.WastedUnits(s, issue)
	checkList(t, "WastedUnits "+what, list, ok, wasted, is)
	cost, ok := impl.ShelfCost(s, issue)
	checkNumber(t, "ShelfCost "+what, cost, ok, s.Lost*allNeeds(lost)+s.Waste*allNeeds(wasted), is)
	for period := -1; period <= len(s.Need); period++ {
		var ages []int
		isPeriod := is && period >= 0 && period < len(s.Need)
		if isPeriod {
			ages = agesBySteps(s, issue, period)
		}
		list, ok = impl.StockByAge(s, issue, period)
		checkList(t, fmt.Sprint("StockByAge ", period, what), list, ok, ages, isPeriod)
	}
}

// checkShelf compares all that is told of a Shelf alone, and returns how many units its two issues use.
func checkShelf(t *testing.T, s impl.Shelf) (int, int) {
	t.Helper()
	what := fmt.Sprint(s)
	oldest, ok := impl.OldestFirst(s)
	checkTable(t, "OldestFirst "+what, oldest, ok, shelfBySteps(s, false), true)
	newest, ok := impl.NewestFirst(s)
	checkTable(t, "NewestFirst "+what, newest, ok, shelfBySteps(s, true), true)
	want, bound := proofByAll(s)
	proof, ok := impl.LostProof(s)
	checkList(t, "LostProof "+what, proof, ok, want, true)
	got, ok := impl.LostBound(s, proof)
	checkNumber(t, fmt.Sprint("LostBound ", s, proof), got, ok, bound, true)
	return unitsOf(oldest), unitsOf(newest)
}

// thrownIssue gives an issue that uses some units of those that can be used.
func (d *dice) thrownIssue(s impl.Shelf) [][]int {
	issue, lost, wasted := zeroRows(len(s.Need)), slices.Clone(s.Need), slices.Clone(s.Arrive)
	for range 3 * len(issue) {
		t := d.throw(len(issue) - 1)
		from := max(0, t-d.throw(s.Life-1))
		units := d.throw(min(lost[t], wasted[from]))
		issue[t][from] += units
		lost[t] -= units
		wasted[from] -= units
	}
	return issue
}

func TestAgeBounds(t *testing.T) {
	if impl.MaxLife != 8 {
		t.Error("MaxLife", impl.MaxLife)
	}
}

func TestP9IsShelf(t *testing.T) {
	for _, s := range allShelves() {
		if !impl.IsShelf(s) {
			t.Fatal("a Shelf that is none", s)
		}
	}
	for _, s := range []impl.Shelf{{Life: 1}, {Life: 8}, {Life: 1, Arrive: []int{}, Need: []int{}}, {Life: 8, Waste: 20, Lost: 20}, {Life: 1, Waste: 20}, {Life: 1, Lost: 20}, {Life: 8, Arrive: slices.Repeat([]int{20}, 8), Need: make([]int, 8)}, {Life: 1, Arrive: make([]int, 8), Need: slices.Repeat([]int{20}, 8)}} {
		if !impl.IsShelf(s) {
			t.Error("a Shelf at the limits", s)
		}
	}
	for _, s := range noShelves() {
		if impl.IsShelf(s) {
			t.Error("no Shelf", s)
		}
	}
}

func TestP9ChargesAndLivesWithinTheirBounds(t *testing.T) {
	for x := -30; x <= 30; x++ {
		is := x >= 0 && x <= 20
		if impl.IsShelf(impl.Shelf{Life: 1, Waste: x}) != is || impl.IsShelf(impl.Shelf{Life: 1, Lost: x}) != is {
			t.Error("charge", x)
		}
		if impl.IsShelf(impl.Shelf{Life: 1, Arrive: []int{x}, Need: []int{0}}) != is || impl.IsShelf(impl.Shelf{Life: 1, Arrive: []int{0}, Need: []int{x}}) != is {
			t.Error("units", x)
		}
		if impl.IsShelf(impl.Shelf{Life: x}) != (x >= 1 && x <= 8) {
			t.Error("life", x)
		}
	}
}

func TestP9IssueExamples(t *testing.T) {
	for _, x := range []struct {
		s              impl.Shelf
		oldest, newest [][]int
		lost, wasted   []int // of oldest first
		cost, newCost  int
	}{
		{impl.Shelf{Life: 2, Arrive: []int{3, 0, 1}, Need: []int{1, 1, 2}, Waste: 1, Lost: 4}, [][]int{{1, 0, 0}, {1, 0, 0}, {0, 0, 1}}, [][]int{{1, 0, 0}, {1, 0, 0}, {0, 0, 1}}, []int{0, 0, 1}, []int{1, 0, 0}, 5, 5},
		{impl.Shelf{Life: 2, Arrive: []int{1, 1}, Need: []int{0, 1}, Waste: 2, Lost: 9}, [][]int{{0, 0}, {1, 0}}, [][]int{{0, 0}, {0, 1}}, []int{0, 0}, []int{0, 1}, 2, 2},
		{impl.Shelf{Life: 2, Arrive: []int{2, 2, 0}, Need: []int{0, 2, 2}, Waste: 3, Lost: 5}, [][]int{{0, 0, 0}, {2, 0, 0}, {0, 2, 0}}, [][]int{{0, 0, 0}, {0, 2, 0}, {0, 0, 0}}, []int{0, 0, 0}, []int{0, 0, 0}, 0, 16},
		{impl.Shelf{Life: 1, Arrive: []int{2, 0, 3}, Need: []int{1, 1, 5}, Waste: 1, Lost: 10}, [][]int{{1, 0, 0}, {0, 0, 0}, {0, 0, 3}}, [][]int{{1, 0, 0}, {0, 0, 0}, {0, 0, 3}}, []int{0, 1, 2}, []int{1, 0, 0}, 31, 31},
		{impl.Shelf{Life: 3, Arrive: []int{1, 1, 1}, Need: []int{0, 0, 2}, Waste: 1, Lost: 1}, [][]int{{0, 0, 0}, {0, 0, 0}, {1, 1, 0}}, [][]int{{0, 0, 0}, {0, 0, 0}, {0, 1, 1}}, []int{0, 0, 0}, []int{0, 0, 1}, 1, 1},
		{impl.Shelf{Life: 8, Arrive: []int{7, 0, 0, 0, 0, 0, 0, 0}, Need: []int{0, 0, 0, 0, 0, 0, 0, 9}, Waste: 20, Lost: 20}, append(make8(7), []int{7, 0, 0, 0, 0, 0, 0, 0}), append(make8(7), []int{7, 0, 0, 0, 0, 0, 0, 0}), []int{0, 0, 0, 0, 0, 0, 0, 2}, make([]int, 8), 40, 40},
		{impl.Shelf{Life: 7, Arrive: []int{7, 0, 0, 0, 0, 0, 0, 0}, Need: []int{0, 0, 0, 0, 0, 0, 0, 9}, Waste: 20, Lost: 19}, make8(8), make8(8), []int{0, 0, 0, 0, 0, 0, 0, 9}, []int{7, 0, 0, 0, 0, 0, 0, 0}, 311, 311},
		{impl.Shelf{Life: 1, Waste: 20, Lost: 20}, nil, nil, nil, nil, 0, 0}, {impl.Shelf{Life: 8}, nil, nil, nil, nil, 0, 0},
		{impl.Shelf{Life: 1, Arrive: []int{20}, Need: []int{0}, Waste: 20, Lost: 20}, [][]int{{0}}, [][]int{{0}}, []int{0}, []int{20}, 400, 400}, {impl.Shelf{Life: 8, Arrive: []int{0}, Need: []int{20}, Waste: 20, Lost: 20}, [][]int{{0}}, [][]int{{0}}, []int{20}, []int{0}, 400, 400}, {impl.Shelf{Life: 8, Arrive: []int{4}, Need: []int{3}, Waste: 1, Lost: 5}, [][]int{{3}}, [][]int{{3}}, []int{0}, []int{1}, 1, 1},
	} {
		oldest, ok := impl.OldestFirst(x.s)
		checkTable(t, fmt.Sprint("OldestFirst ", x.s), oldest, ok, x.oldest, true)
		newest, ok := impl.NewestFirst(x.s)
		checkTable(t, fmt.Sprint("NewestFirst ", x.s), newest, ok, x.newest, true)
		lost, ok := impl.LostNeeds(x.s, oldest)
		checkList(t, fmt.Sprint("LostNeeds ", x.s), lost, ok, x.lost, true)
		wasted, ok := impl.WastedUnits(x.s, oldest)
		checkList(t, fmt.Sprint("WastedUnits ", x.s), wasted, ok, x.wasted, true)
		cost, ok := impl.ShelfCost(x.s, oldest)
		checkNumber(t, fmt.Sprint("ShelfCost ", x.s), cost, ok, x.cost, true)
		cost, ok = impl.ShelfCost(x.s, newest)
		checkNumber(t, fmt.Sprint("ShelfCost ", x.s, newest), cost, ok, x.newCost, true)
	}
}

// make8 gives some rows of 8 numbers.
func make8(rows int) [][]int {
	return zeroRows(8)[:rows]
}

func TestP9ListsThatAreIssuesOrNot(t *testing.T) {
	s := impl.Shelf{Life: 2, Arrive: []int{3, 0, 1}, Need: []int{1, 1, 2}, Waste: 1, Lost: 4}
	for _, x := range []struct {
		issue [][]int
		is    bool
	}{
		{[][]int{{1, 0, 0}, {1, 0, 0}, {0, 0, 1}}, true}, {zeroRows(3), true}, {[][]int{{0, 0, 0}, {1, 0, 0}, {0, 0, 0}}, true},
		{[][]int{{1, 0, 0}, {1, 0, 0}, {1, 0, 1}}, false}, {[][]int{{0, 0, 0}, {0, 0, 0}, {1, 0, 0}}, false}, {[][]int{{0, 0, 1}, {0, 0, 0}, {0, 0, 0}}, false}, {[][]int{{0, 0, 0}, {0, 0, 1}, {0, 0, 0}}, false}, {[][]int{{2, 0, 0}, {1, 0, 0}, {0, 0, 1}}, false}, {[][]int{{1, 0, 0}, {1, 0, 0}, {0, 0, 2}}, false}, {[][]int{{1, 0, 0}, {1, 0, 0}, {0, 1, 1}}, false}, {[][]int{{1, 0, 0}, {2, 0, 0}, {0, 0, 1}}, false},
		{[][]int{{-1, 0, 0}, {1, 0, 0}, {0, 0, 1}}, false}, {[][]int{{1, 0, 0}, {1, -1, 0}, {0, 0, 1}}, false}, {[][]int{{1, 0, -1}, {1, 0, 0}, {0, 0, 1}}, false}, {[][]int{{1, 0, 0}, {1, 0, 0}, {-1, 0, 1}}, false},
		{nil, false}, {[][]int{{1, 0, 0}, {1, 0, 0}}, false}, {[][]int{{1, 0, 0}, {1, 0, 0}, {0, 0, 1}, {0, 0, 0}}, false}, {[][]int{{1, 0, 0}, {1, 0, 0}, {0, 0, 1}, nil}, false}, {[][]int{{1, 0}, {1, 0, 0}, {0, 0, 1}}, false}, {[][]int{{1, 0, 0, 0}, {1, 0, 0}, {0, 0, 1}}, false}, {[][]int{nil, nil, nil}, false}, {[][]int{{1, 0, 0}, nil, {0, 0, 1}}, false},
		{[][]int{{math.MaxInt, 0, 0}, {1, 0, 0}, {0, 0, 1}}, false}, {[][]int{{1, 0, 0}, {1, 0, 0}, {math.MaxInt, math.MaxInt, 3}}, false}, {[][]int{{1, 0, 0}, {1, 0, 0}, {0, math.MinInt, math.MinInt}}, false}, {[][]int{{1, 0, 0}, {math.MinInt, 0, 0}, {0, 0, 1}}, false}, {[][]int{{1, 0, 0}, {1 + 1<<32, 0, 0}, {0, 0, 1}}, false},
	} {
		got, ok := impl.IsIssue(s, x.issue)
		checkAnswer(t, fmt.Sprint("IsIssue ", x.issue), got, ok, x.is, true)
		checkIssue(t, s, x.issue)
	}
	for _, x := range []struct {
		s     impl.Shelf
		issue [][]int
		is    bool
	}{
		{shelfOf(1), nil, true}, {shelfOf(1), [][]int{}, true}, {shelfOf(1), [][]int{{}}, false}, {shelfOf(1), [][]int{nil}, false}, {shelfOf(1), [][]int{{0}}, false},
		{shelfOf(1, [2]int{2, 2}), [][]int{{2}}, true}, {shelfOf(1, [2]int{2, 2}), [][]int{{3}}, false}, {shelfOf(1, [2]int{3, 2}), [][]int{{3}}, false}, {shelfOf(1, [2]int{2, 3}), [][]int{{3}}, false}, {shelfOf(1, [2]int{2, 2}), [][]int{{-1}}, false}, {shelfOf(1, [2]int{2, 2}), [][]int{{}}, false}, {shelfOf(1, [2]int{2, 2}), [][]int{{2, 0}}, false},
		{shelfOf(2, [2]int{3, 2}, [2]int{0, 2}), [][]int{{2, 0}, {1, 0}}, true}, {shelfOf(2, [2]int{3, 2}, [2]int{0, 2}), [][]int{{2, 0}, {2, 0}}, false}, {shelfOf(2, [2]int{3, 2}, [2]int{0, 2}), [][]int{{1, 0}, {2, 0}}, true}, {shelfOf(1, [2]int{3, 2}, [2]int{0, 2}), [][]int{{1, 0}, {2, 0}}, false},
		{shelfOf(2, [2]int{2, 0}, [2]int{2, 3}), [][]int{{0, 0}, {1, 2}}, true}, {shelfOf(2, [2]int{2, 0}, [2]int{2, 3}), [][]int{{0, 0}, {2, 2}}, false}, {shelfOf(2, [2]int{2, 3}, [2]int{2, 3}), [][]int{{2, 1}, {0, 0}}, false},
	} {
		got, ok := impl.IsIssue(x.s, x.issue)
		checkAnswer(t, fmt.Sprint("IsIssue ", x.s, x.issue), got, ok, x.is, true)
		checkIssue(t, x.s, x.issue)
	}
}

func TestP9AllTablesOfSmallNumbers(t *testing.T) {
	issues := 0
	for _, x := range countedLists([]int{3, 3, 3, 3}) {
		for life := 1; life <= 2; life++ {
			s := shelfOf(life, [2]int{x[0], x[1]}, [2]int{x[2], x[3]})
			for _, cell := range countedLists([]int{5, 4, 5, 5}) {
				issue := [][]int{{cell[0] - 1, cell[1] - 1}, {cell[2] - 1, cell[3] - 1}}
				checkIssue(t, s, issue)
				if is, _ := impl.IsIssue(s, issue); is {
					issues++
				}
			}
		}
	}
	if issues < 400 {
		t.Error("too few issues", issues)
	}
}

func TestP9SpoiledIssues(t *testing.T) {
	var d dice = 509
	shelves := allShelves()
	for i := 0; i < len(shelves); i += 17 {
		s := shelves[i]
		oldest, _ := impl.OldestFirst(s)
		for _, issue := range [][][]int{oldest, d.thrownIssue(s), zeroRows(len(s.Need))} {
			for _, other := range spoiledLists(issue) {
				checkIssue(t, s, other)
			}
		}
	}
}

func TestP9OneUnitTooMany(t *testing.T) {
	for _, s := range fullShelves() {
		oldest, _ := impl.OldestFirst(s)
		lost, wasted, _ := restBySteps(s, oldest)
		for period := range oldest {
			for from := range oldest {
				more := copyTable(oldest)
				more[period][from] += min(lost[period], wasted[from]) + 1
				got, ok := impl.IsIssue(s, more)
				checkAnswer(t, fmt.Sprint("IsIssue ", s, more), got, ok, false, true)
				more[period][from]--
				got, ok = impl.IsIssue(s, more)
				checkAnswer(t, fmt.Sprint("IsIssue ", s, more), got, ok, canLast(s, from, period) || more[period][from] == 0, true)
			}
		}
	}
}

func TestP9EachUseAlone(t *testing.T) {
	for life := 1; life <= 8; life++ {
		s := shelfOf(life, slices.Repeat([][2]int{{20, 20}}, 8)...)
		for period := range 8 {
			for from := range 8 {
				for _, units := range []int{0, 1, 20, 21} {
					issue := zeroRows(8)
					issue[period][from] = units
					want := units == 0 || units <= 20 && from <= period && period-from < life
					got, ok := impl.IsIssue(s, issue)
					checkAnswer(t, fmt.Sprint("IsIssue ", life, period, from, units), got, ok, want, true)
					checkIssue(t, s, issue)
				}
			}
		}
	}
}

func TestP9OldestAndNewestFirst(t *testing.T) {
	fewer := 0
	for _, s := range allShelves() {
		oldest, newest := checkShelf(t, s)
		if most := mostUsed(s); oldest != most {
			t.Fatal("uses fewer units", s, oldest, most)
		}
		if newest > oldest {
			t.Fatal("uses more units", s, newest, oldest)
		}
		fewer += oldest - newest
	}
	if fewer < 100 {
		t.Error("too few units more", fewer)
	}
}

func TestP9OldestAndNewestFirstAreIssues(t *testing.T) {
	var d dice = 521
	for _, s := range allShelves() {
		for _, first := range []func(impl.Shelf) ([][]int, bool){impl.OldestFirst, impl.NewestFirst} {
			issue, _ := first(s)
			if is, ok := impl.IsIssue(s, issue); !is || !ok {
				t.Fatal("no issue", s, issue)
			}
			checkIssue(t, s, issue)
		}
		checkIssue(t, s, d.thrownIssue(s))
	}
}

// checkOrder looks at each need: behind a unit that was taken, or for a need that is lost, none that
// comes before it in the order may be left.
func checkOrder(t *testing.T, s impl.Shelf, issue [][]int, before func(from, other int) bool) {
	t.Helper()
	left := slices.Clone(s.Arrive)
	for period, row := range issue {
		need := s.Need[period]
		for from, units := range row {
			left[from] -= units
			need -= units
		}
		for from := range left {
			if !canLast(s, from, period) || left[from] == 0 {
				continue
			}
			if need > 0 {
				t.Fatal("lost with units on the shelf", s, issue, period)
			}
			for other, units := range row {
				if units > 0 && before(from, other) {
					t.Fatal("another order", s, issue, period)
				}
			}
		}
	}
}

func TestP9TheOrderOfIssues(t *testing.T) {
	for _, s := range allShelves() {
		oldest, _ := impl.OldestFirst(s)
		checkOrder(t, s, oldest, func(from, other int) bool { return from < other })
		newest, _ := impl.NewestFirst(s)
		checkOrder(t, s, newest, func(from, other int) bool { return from > other })
	}
}

func TestP9NoIssueLosesLess(t *testing.T) {
	dearer := 0
	for _, s := range smallShelves() {
		oldest, _ := impl.OldestFirst(s)
		used := unitsOf(oldest)
		least, _ := impl.ShelfCost(s, oldest)
		_, bound := proofByAll(s)
		eachIssue(s, func(issue [][]int) {
			if unitsOf(issue) > used || allNeeds(s.Need)-unitsOf(issue) < bound {
				t.Fatal("loses less", s, issue)
			}
			cost, ok := impl.ShelfCost(s, issue)
			if !ok || cost < least {
				t.Fatal("costs less", s, issue, cost, least)
			}
			if cost > least {
				dearer++
			}
		})
	}
	if dearer < 1000 {
		t.Error("too few that cost more", dearer)
	}
}

func TestP9AllIssuesOfSmallShelves(t *testing.T) {
	count := 0
	for _, s := range smallShelves() {
		eachIssue(s, func(issue [][]int) {
			count++
			checkIssue(t, s, issue)
		})
	}
	if count < 5000 {
		t.Error("too few issues", count)
	}
}

func TestP9WhatArrivesIsUsedWastedOrLeft(t *testing.T) {
	var d dice = 523
	for i, s := range allShelves() {
		issue := d.thrownIssue(s)
		if i%2 == 0 {
			issue, _ = impl.OldestFirst(s)
		}
		wasted, _ := impl.WastedUnits(s, issue)
		gone := make([]int, len(s.Need))
		var before []int
		for period, row := range issue {
			now := append([]int{s.Arrive[period]}, before...)
			after, ok := impl.StockByAge(s, issue, period)
			if !ok || len(after) != s.Life-1 {
				t.Fatal("another number of ages", s, issue, period, after)
			}
			for age, units := range now {
				from := period - age
				if from < 0 {
					if units != 0 {
						t.Fatal("units from before the first period", s, issue, period)
					}
					continue
				}
				units -= row[from]
				if age < s.Life-1 {
					units -= after[age]
				}
				gone[from] += units
				if units != 0 && age < s.Life-1 {
					t.Fatal("neither used nor left", s, issue, period, age, units)
				}
				if period == len(issue)-1 && age < s.Life-1 {
					gone[from] += after[age]
				}
			}
			before = after
		}
		if !slices.Equal(gone, wasted) {
			t.Fatal("other units are wasted", s, issue, gone, wasted)
		}
	}
}

func TestP9AgeExamples(t *testing.T) {
	s := impl.Shelf{Life: 4, Arrive: []int{5, 4, 0, 6}, Need: []int{1, 2, 3, 4}, Waste: 1, Lost: 1}
	issue := [][]int{{1, 0, 0, 0}, {1, 1, 0, 0}, {3, 0, 0, 0}, {0, 2, 0, 1}}
	one := impl.Shelf{Life: 1, Arrive: []int{5, 4, 0, 6}, Need: []int{1, 2, 3, 4}, Waste: 1, Lost: 1}
	alone := [][]int{{1, 0, 0, 0}, {0, 2, 0, 0}, {0, 0, 0, 0}, {0, 0, 0, 4}}
	two := impl.Shelf{Life: 2, Arrive: []int{5, 4}, Need: []int{0, 0}}
	for _, x := range []struct {
		s     impl.Shelf
		issue [][]int
		t     int
		want  []int
		ok    bool
	}{
		{s, issue, 0, []int{4, 0, 0}, true}, {s, issue, 1, []int{3, 3, 0}, true}, {s, issue, 2, []int{0, 3, 0}, true}, {s, issue, 3, []int{5, 0, 1}, true},
		{s, issue, -1, nil, false}, {s, issue, 4, nil, false}, {s, issue, math.MaxInt, nil, false}, {s, issue, math.MinInt, nil, false},
		{one, alone, 0, nil, true}, {one, alone, 3, nil, true}, {one, alone, -1, nil, false}, {one, alone, 4, nil, false}, {one, issue, 0, nil, false},
		{two, zeroRows(2), 0, []int{5}, true}, {two, zeroRows(2), 1, []int{4}, true}, {two, zeroRows(2), 2, nil, false}, {two, zeroRows(1), 0, nil, false}, {two, zeroRows(3), 0, nil, false},
		{shelfOf(8, [2]int{3, 1}), [][]int{{1}}, 0, []int{2, 0, 0, 0, 0, 0, 0}, true}, {shelfOf(8, [2]int{3, 1}), [][]int{{1}}, 1, nil, false}, {shelfOf(8), nil, 0, nil, false}, {shelfOf(1), nil, 0, nil, false}, {shelfOf(1), nil, -1, nil, false},
	} {
		got, ok := impl.StockByAge(x.s, x.issue, x.t)
		checkList(t, fmt.Sprint("StockByAge ", x.s, x.issue, x.t), got, ok, x.want, x.ok)
	}
}

func TestP9NumbersThatAreNoPeriods(t *testing.T) {
	for _, s := range gapShelves() {
		issue, _ := impl.OldestFirst(s)
		for _, period := range beyond(len(s.Need) - 1) {
			if period == 0 {
				continue
			}
			stock, ok := impl.StockByAge(s, issue, period)
			checkList(t, fmt.Sprint("StockByAge ", s, period), stock, ok, nil, false)
		}
	}
}

func TestP9LostExamples(t *testing.T) {
	s := impl.Shelf{Life: 2, Arrive: []int{3, 0, 1}, Need: []int{1, 1, 2}, Waste: 1, Lost: 4}
	for _, x := range []struct {
		s    impl.Shelf
		set  []int
		want int
		ok   bool
	}{
		{s, nil, 0, true}, {s, []int{0}, -2, true}, {s, []int{1}, -2, true}, {s, []int{2}, 1, true}, {s, []int{0, 1}, -1, true}, {s, []int{0, 2}, -1, true}, {s, []int{1, 2}, -1, true}, {s, []int{0, 1, 2}, 0, true},
		{s, []int{3}, 0, false}, {s, []int{-1}, 0, false}, {s, []int{1, 0}, 0, false}, {s, []int{2, 2}, 0, false}, {s, []int{0, 0}, 0, false}, {s, []int{0, 1, 2, 3}, 0, false}, {s, []int{-1, 0, 1, 2}, 0, false}, {s, []int{0, 2, 1}, 0, false}, {s, []int{math.MinInt}, 0, false}, {s, []int{math.MaxInt}, 0, false}, {s, []int{0, 1 << 32}, 0, false},
		{shelfOf(1), nil, 0, true}, {shelfOf(8), []int{}, 0, true}, {shelfOf(1), []int{0}, 0, false}, {shelfOf(1, [2]int{20, 0}), []int{0}, -20, true}, {shelfOf(1, [2]int{0, 20}), []int{0}, 20, true}, {shelfOf(1, [2]int{0, 20}), []int{1}, 0, false},
	} {
		got, ok := impl.LostBound(x.s, x.set)
		checkNumber(t, fmt.Sprint("LostBound ", x.s, x.set), got, ok, x.want, x.ok)
	}
	for _, x := range []struct {
		s    impl.Shelf
		want []int
	}{
		{s, []int{2}}, {shelfOf(1), nil}, {shelfOf(8), nil}, {shelfOf(3, [2]int{0, 0}), nil}, {shelfOf(3, [2]int{2, 2}), nil}, {shelfOf(3, [2]int{2, 3}), []int{0}}, {shelfOf(3, [2]int{3, 2}), nil},
		{shelfOf(1, [2]int{0, 1}, [2]int{0, 1}), []int{0, 1}}, {shelfOf(1, [2]int{0, 2}, [2]int{1, 1}, [2]int{0, 1}), []int{0, 2}}, {shelfOf(2, [2]int{1, 1}, [2]int{0, 1}), []int{0, 1}}, {shelfOf(2, [2]int{1, 2}, [2]int{0, 1}), []int{0, 1}}, {shelfOf(2, [2]int{0, 2}, [2]int{2, 1}, [2]int{0, 1}), []int{0}}, {shelfOf(2, [2]int{2, 2}, [2]int{0, 2}, [2]int{2, 2}), []int{0, 1}}, {shelfOf(1, slices.Repeat([][2]int{{19, 20}}, 8)...), rise(0, 1, 8)}, {shelfOf(8, slices.Repeat([][2]int{{19, 20}}, 8)...), rise(0, 1, 8)}, {shelfOf(8, slices.Repeat([][2]int{{20, 20}}, 8)...), nil},
	} {
		proof, ok := impl.LostProof(x.s)
		checkList(t, fmt.Sprint("LostProof ", x.s), proof, ok, x.want, true)
	}
}

func TestP9TheLostBoundOfTheProof(t *testing.T) {
	lostSome, sizes := 0, map[int]int{}
	for _, s := range allShelves() {
		oldest, _ := impl.OldestFirst(s)
		lost, _ := impl.LostNeeds(s, oldest)
		proof, _ := impl.LostProof(s)
		bound, ok := impl.LostBound(s, proof)
		checkNumber(t, fmt.Sprint("LostBound ", s, proof), bound, ok, allNeeds(lost), true)
		lostSome += min(1, bound)
		sizes[len(proof)]++
	}
	if lostSome < 500 || len(sizes) != 9 {
		t.Error("too few lose units", lostSome, sizes)
	}
}

func TestP9NoSetHasAGreaterLostBound(t *testing.T) {
	shelves := append(fullShelves(), gapShelves()...)
	for i := 0; i < len(shelves); i += 2 {
		s := shelves[i]
		oldest, _ := impl.OldestFirst(s)
		lost := allNeeds(s.Need) - unitsOf(oldest)
		var proof []int
		found := false
		for _, set := range orderLists(len(s.Need)) {
			bound, ok := impl.LostBound(s, set)
			checkNumber(t, fmt.Sprint("LostBound ", s, set), bound, ok, boundBySteps(s, set), true)
			if bound > lost {
				t.Fatal("a greater lost bound", s, set, bound, lost)
			}
			if bound == lost && !found {
				proof, found = set, true
			}
		}
		got, ok := impl.LostProof(s)
		checkList(t, fmt.Sprint("LostProof ", s), got, ok, proof, true)
	}
}

// noSets gives lists that are no sets of n periods.
func noSets(n int) [][]int {
	found := [][]int{{-1}, {n}, {n + 1}, {math.MinInt}, {math.MaxInt}, {1 << 32}, {0, 0}, {1, 0}, append(rise(0, 1, n), n), append([]int{-1}, rise(0, 1, n)...), make([]int, 5000), rise(0, 1, 5000)}
	for at := range n {
		found = append(found, []int{at, at}, []int{at, at - 1}, []int{at, n}, []int{-1, at}, append(rise(0, 1, n), at), append([]int{at}, rise(0, 1, at+1)...))
	}
	return found
}

func TestP9ListsThatAreNoSets(t *testing.T) {
	for _, s := range gapShelves() {
		for _, set := range noSets(len(s.Need)) {
			bound, ok := impl.LostBound(s, set)
			checkNumber(t, fmt.Sprint("LostBound ", s, set), bound, ok, 0, false)
		}
	}
	for n := range 9 {
		for _, periods := range noSets(n) {
			for life := 1; life <= 8; life++ {
				cost, ok := impl.FreshCost(sameRows(n, [4]int{0, 1, 1, 1}), life, periods)
				checkNumber(t, fmt.Sprint("FreshCost ", n, life, periods), cost, ok, 0, false)
			}
		}
	}
}

// orderedRate tells what a unit costs that is ordered in one period and needed in another one.
func orderedRate(c impl.Case, from, t int) int {
	rate := c.Unit[from]
	for period := from; period < t; period++ {
		rate += c.Hold[period]
	}
	return rate
}

// freshBySteps gives the least cost with orders in some periods, and whether they can meet each Need.
func freshBySteps(c impl.Case, life int, periods []int) (int, bool) {
	cost := 0
	for _, from := range periods {
		cost += c.Setup[from]
	}
	for t, need := range c.Need {
		least := math.MaxInt
		for from := t; from > t-life; from-- {
			if slices.Contains(periods, from) {
				least = min(least, orderedRate(c, from, t))
			}
		}
		if need > 0 && least == math.MaxInt {
			return 0, false
		}
		if need > 0 {
			cost += need * least
		}
	}
	return cost, true
}

// freshByAll looks at all ways to meet each unit of each Need from orders in some periods.
func freshByAll(c impl.Case, life int, periods []int) (int, bool) {
	setups := 0
	for _, from := range periods {
		setups += c.Setup[from]
	}
	var units []int
	for t, need := range c.Need {
		units = append(units, slices.Repeat([]int{t}, need)...)
	}
	least := math.MaxInt
	for _, way := range countedLists(slices.Repeat([]int{len(periods)}, len(units))) {
		cost, fresh := setups, true
		for i, t := range units {
			from := periods[way[i]]
			if from > t || t-from >= life {
				fresh = false
				break
			}
			cost += orderedRate(c, from, t)
		}
		if fresh {
			least = min(least, cost)
		}
	}
	if least == math.MaxInt {
		return 0, false
	}
	return least, true
}

// bestFreshByAll gives the first of all order periods with the least cost, and this cost.
func bestFreshByAll(c impl.Case, life int) ([]int, int) {
	var best []int
	least := math.MaxInt
	for _, list := range orderLists(len(c.Need)) {
		if cost, ok := freshBySteps(c, life, list); ok && cost < least {
			best, least = list, cost
		}
	}
	return best, least
}

// lastsFor tells whether each unit of a plan is used within a life if the oldest ones are used first.
func lastsFor(c impl.Case, plan []int, life int) bool {
	var ordered []int
	for t, need := range c.Need {
		ordered = append(ordered, slices.Repeat([]int{t}, plan[t])...)
		for range need {
			if ordered[0] <= t-life {
				return false
			}
			ordered = ordered[1:]
		}
	}
	return true
}

func TestP9FreshExamples(t *testing.T) {
	c := impl.Case{Need: []int{2, 0, 3}, Setup: []int{5, 5, 4}, Unit: []int{1, 1, 1}, Hold: []int{1, 1, 1}}
	waits := caseOf([4]int{1, 2, 1, 0}, [4]int{1, 0, 9, 0}, [4]int{1, 3, 9, 0})
	for _, x := range []struct {
		c       impl.Case
		life    int
		periods []int
		want    int
		ok      bool
	}{
		{c, 1, []int{0, 2}, 14, true}, {c, 3, []int{0}, 16, true}, {c, 2, []int{0, 2}, 14, true}, {c, 2, []int{0, 1}, 18, true}, {c, 1, []int{0, 1, 2}, 19, true}, {c, 8, []int{0, 1, 2}, 19, true}, {c, 3, []int{0, 2}, 14, true},
		{c, 2, []int{0}, 0, false}, {c, 1, []int{0}, 0, false}, {c, 1, []int{0, 1}, 0, false}, {c, 8, []int{1, 2}, 0, false}, {c, 8, nil, 0, false}, {c, 1, []int{2}, 0, false}, {c, 8, []int{1}, 0, false},
		{c, 0, []int{0, 2}, 0, false}, {c, 9, []int{0, 2}, 0, false}, {c, -1, []int{0, 2}, 0, false}, {c, math.MaxInt, []int{0, 2}, 0, false}, {c, math.MinInt, []int{0, 2}, 0, false}, {c, 3, []int{0, 3}, 0, false}, {c, 3, []int{-1, 0}, 0, false}, {c, 3, []int{0, 0, 2}, 0, false}, {c, 3, []int{2, 0}, 0, false},
		{waits, 3, []int{0}, 5, true}, {waits, 3, []int{0, 1}, 5, true}, {waits, 3, []int{0, 1, 2}, 8, true}, {waits, 2, []int{0, 1}, 13, true}, {waits, 2, []int{0, 2}, 16, true}, {waits, 1, []int{0, 1, 2}, 24, true}, {waits, 2, []int{0, 1, 2}, 16, true},
		{impl.Case{}, 1, nil, 0, true}, {impl.Case{}, 8, []int{}, 0, true}, {impl.Case{}, 0, nil, 0, false}, {impl.Case{}, 9, nil, 0, false}, {impl.Case{}, 1, []int{0}, 0, false},
		{sameRows(2, [4]int{0, 7, 1, 1}), 1, nil, 0, true}, {sameRows(2, [4]int{0, 7, 1, 1}), 1, []int{1}, 7, true}, {sameRows(2, [4]int{0, 7, 1, 1}), 1, []int{0, 1}, 14, true}, {sameRows(8, [4]int{20, 99, 9, 9}), 8, []int{0}, 99 + 1440 + 20*9*28, true}, {sameRows(8, [4]int{20, 99, 9, 9}), 7, []int{0}, 0, false}, {sameRows(8, [4]int{20, 99, 9, 9}), 1, rise(0, 1, 8), 8*99 + 1440, true},
	} {
		cost, ok := impl.FreshCost(x.c, x.life, x.periods)
		checkNumber(t, fmt.Sprint("FreshCost ", x.c, x.life, x.periods), cost, ok, x.want, x.ok)
	}
	for _, x := range []struct {
		c       impl.Case
		life    int
		periods []int
		cost    int
		ok      bool
	}{
		{c, 1, []int{0, 2}, 14, true}, {c, 2, []int{0, 2}, 14, true}, {c, 8, []int{0, 2}, 14, true}, {waits, 3, []int{0}, 5, true}, {waits, 8, []int{0}, 5, true}, {waits, 2, []int{0, 1}, 13, true}, {waits, 1, []int{0, 1, 2}, 24, true},
		{impl.Case{}, 1, nil, 0, true}, {impl.Case{}, 8, nil, 0, true}, {sameRows(8, [4]int{}), 3, nil, 0, true}, {sameRows(3, [4]int{1, 0, 0, 0}), 1, []int{0, 1, 2}, 0, true}, {sameRows(3, [4]int{1, 0, 0, 0}), 2, []int{0, 1}, 0, true}, {sameRows(4, [4]int{1, 1, 0, 0}), 2, []int{0, 2}, 2, true}, {sameRows(4, [4]int{1, 1, 0, 0}), 3, []int{0, 1}, 2, true}, {sameRows(5, [4]int{1, 1, 0, 0}), 3, []int{0, 2}, 2, true},
		{c, 0, nil, 0, false}, {c, 9, nil, 0, false}, {c, -1, nil, 0, false}, {c, math.MaxInt, nil, 0, false}, {c, math.MinInt, nil, 0, false}, {impl.Case{}, 0, nil, 0, false}, {impl.Case{}, 9, nil, 0, false},
	} {
		periods, cost, ok := impl.BestFresh(x.c, x.life)
		checkList(t, fmt.Sprint("BestFresh ", x.c, x.life), periods, ok, x.periods, x.ok)
		checkNumber(t, fmt.Sprint("BestFresh ", x.c, x.life), cost, ok, x.cost, x.ok)
	}
	for _, x := range []struct {
		c    impl.Case
		want []int
	}{
		{c, make([]int, 7)}, {waits, []int{11, 8, 0, 0, 0, 0, 0}}, {impl.Case{}, make([]int, 7)}, {sameRows(8, [4]int{}), make([]int, 7)}, {sameRows(8, [4]int{1, 1, 0, 0}), []int{4, 1, 1, 0, 0, 0, 1}}, {sameRows(1, [4]int{20, 99, 9, 9}), make([]int, 7)},
	} {
		gains, ok := impl.LifeGains(x.c)
		checkList(t, fmt.Sprint("LifeGains ", x.c), gains, ok, x.want, true)
	}
}

func TestP9FreshCostOfAllPeriods(t *testing.T) {
	met, unmet := 0, 0
	cases := append(fullCases(), smallCases()...)
	for i := 0; i < len(cases); i += 9 {
		c := cases[i]
		life := 1 + i/9%8
		for _, periods := range orderLists(len(c.Need)) {
			want, is := freshBySteps(c, life, periods)
			cost, ok := impl.FreshCost(c, life, periods)
			checkNumber(t, fmt.Sprint("FreshCost ", c, life, periods), cost, ok, want, is)
			if is {
				met++
			} else {
				unmet++
			}
		}
	}
	if met < 1000 || unmet < 1000 {
		t.Error("too few that can be met, or not", met, unmet)
	}
}

func TestP9FreshCostIsTheLeastOfAllWays(t *testing.T) {
	var d dice = 541
	for i := range 600 {
		n := 1 + i%4
		c := d.thrownCase(n, 2, 9, 9)
		for _, periods := range orderLists(n) {
			if ways := math.Pow(float64(len(periods)), float64(allNeeds(c.Need))); ways > 5000 {
				continue
			}
			for life := 1; life <= n; life++ {
				want, is := freshByAll(c, life, periods)
				cost, ok := impl.FreshCost(c, life, periods)
				checkNumber(t, fmt.Sprint("FreshCost ", c, life, periods), cost, ok, want, is)
			}
		}
	}
}

func TestP9TheBestFreshPeriods(t *testing.T) {
	cases := append(fullCases(), smallCases()...)
	sizes := map[int]int{}
	for i := 0; i < len(cases); i += 2 {
		c := cases[i]
		for life := 1; life <= 8; life++ {
			want, least := bestFreshByAll(c, life)
			periods, cost, ok := impl.BestFresh(c, life)
			checkList(t, fmt.Sprint("BestFresh ", c, life), periods, ok, want, true)
			checkNumber(t, fmt.Sprint("BestFresh ", c, life), cost, ok, least, true)
			sizes[len(periods)]++
		}
	}
	if len(sizes) != 9 {
		t.Error("not all lengths", sizes)
	}
}

func TestP9TheFirstOfAsGoodFreshPeriods(t *testing.T) {
	for n := range 9 {
		for i := range 8 {
			c := sameRows(n, [4]int{1 + i%2, i / 2 % 2, 0, i / 4})
			for life := 1; life <= 8; life++ {
				want, least := bestFreshByAll(c, life)
				periods, cost, ok := impl.BestFresh(c, life)
				checkList(t, fmt.Sprint("BestFresh ", c, life), periods, ok, want, true)
				checkNumber(t, fmt.Sprint("BestFresh ", c, life), cost, ok, least, true)
				for _, list := range orderLists(n) {
					if other, is := impl.FreshCost(c, life, list); is && other < cost {
						t.Fatal("costs less", c, life, list, other, cost)
					}
				}
			}
		}
	}
}

func TestP9NoPlanThatLastsCostsLess(t *testing.T) {
	longer := 0
	for _, c := range smallCases() {
		plans := allPlans(c)
		if len(plans) > 3000 {
			continue
		}
		costs := slices.Repeat([]int{math.MaxInt}, 9)
		for _, plan := range plans {
			cost := costBySteps(c, plan)
			for life := 8; life > 0 && lastsFor(c, plan, life); life-- {
				costs[life] = min(costs[life], cost)
			}
		}
		for life := 1; life <= 8; life++ {
			_, cost, ok := impl.BestFresh(c, life)
			checkNumber(t, fmt.Sprint("BestFresh ", c, life), cost, ok, costs[life], true)
		}
		longer += costs[1] - costs[8]
	}
	if longer < 100 {
		t.Error("too few cost less with a longer life", longer)
	}
}

func TestP9TheCostNeverGrowsWithTheLife(t *testing.T) {
	for _, c := range append(fullCases(), smallCases()...) {
		gains, ok := impl.LifeGains(c)
		if !ok || len(gains) != 7 {
			t.Fatal("LifeGains", c, gains, ok)
		}
		least, _ := impl.BestCost(c)
		_, before, _ := impl.BestFresh(c, 1)
		for life := 2; life <= 8; life++ {
			_, cost, _ := impl.BestFresh(c, life)
			if gains[life-2] != before-cost || cost > before || cost < least {
				t.Fatal("another gain", c, life, gains, before, cost)
			}
			if life >= len(c.Need) && cost != least {
				t.Fatal("not the least cost", c, life, cost, least)
			}
			before = cost
		}
		if _, cost, _ := impl.BestFresh(c, 1); len(c.Need) <= 1 && cost != least {
			t.Fatal("not the least cost", c, cost, least)
		}
	}
}

func TestP9LivesThatAreNone(t *testing.T) {
	for _, c := range []impl.Case{{}, sameRows(1, [4]int{0, 0, 0, 0}), caseOf([4]int{1, 2, 3, 4}), sameRows(8, [4]int{20, 99, 9, 9})} {
		for _, life := range append(beyond(8), 0) {
			for _, periods := range [][]int{nil, rise(0, 1, len(c.Need)), {0}} {
				cost, ok := impl.FreshCost(c, life, periods)
				checkNumber(t, fmt.Sprint("FreshCost ", c, life, periods), cost, ok, 0, false)
			}
			periods, cost, ok := impl.BestFresh(c, life)
			checkList(t, fmt.Sprint("BestFresh ", c, life), periods, ok, nil, false)
			checkNumber(t, fmt.Sprint("BestFresh ", c, life), cost, ok, 0, false)
		}
	}
}

// ageArgs are arguments of the functions of the chapter.
type ageArgs struct {
	s       impl.Shelf
	issue   [][]int
	t       int
	set     []int
	c       impl.Case
	life    int
	periods []int
}

// ageCalls calls each function of the chapter.
func ageCalls(x ageArgs) []lotCall {
	var calls []lotCall
	add := func(name string, result any, ok bool) { calls = append(calls, lotCall{name, []any{result}, ok}) }
	add("IsShelf", impl.IsShelf(x.s), true)
	is, ok := impl.IsIssue(x.s, x.issue)
	add("IsIssue", is, ok)
	oldest, ok := impl.OldestFirst(x.s)
	add("OldestFirst", oldest, ok)
	newest, ok := impl.NewestFirst(x.s)
	add("NewestFirst", newest, ok)
	lost, ok := impl.LostNeeds(x.s, x.issue)
	add("LostNeeds", lost, ok)
	wasted, ok := impl.WastedUnits(x.s, x.issue)
	add("WastedUnits", wasted, ok)
	cost, ok := impl.ShelfCost(x.s, x.issue)
	add("ShelfCost", cost, ok)
	stock, ok := impl.StockByAge(x.s, x.issue, x.t)
	add("StockByAge", stock, ok)
	bound, ok := impl.LostBound(x.s, x.set)
	add("LostBound", bound, ok)
	proof, ok := impl.LostProof(x.s)
	add("LostProof", proof, ok)
	fresh, ok := impl.FreshCost(x.c, x.life, x.periods)
	add("FreshCost", fresh, ok)
	periods, least, ok := impl.BestFresh(x.c, x.life)
	calls = append(calls, lotCall{"BestFresh", []any{periods, least}, ok})
	gains, ok := impl.LifeGains(x.c)
	add("LifeGains", gains, ok)
	return calls
}

// isOfCases tells of which functions a Case is an argument.
func isOfCases(name string) bool {
	return slices.Contains([]string{"FreshCost", "BestFresh", "LifeGains"}, name)
}

// manyAgeArgs gives arguments of which all are valid, and others of which some are not.
func manyAgeArgs() []ageArgs {
	var d dice = 547
	shelves, bad, badCases := append(fullShelves(), gapShelves()...), noShelves(), noCases()
	var found []ageArgs
	for i := 0; i < len(shelves); i += 3 {
		s := shelves[i]
		n := len(s.Need)
		lists := orderLists(n)
		good := ageArgs{s, d.thrownIssue(s), d.throw(max(0, n-1)), lists[d.throw(len(lists)-1)], d.thrownCase(n, 20, 99, 9), 1 + d.throw(7), rise(0, 1, n)}
		found = append(found, good)
		x := good
		issues, sets := spoiledLists(good.issue), noSets(n)
		x.issue, x.set, x.periods = issues[d.throw(len(issues)-1)], sets[d.throw(len(sets)-1)], sets[d.throw(len(sets)-1)]
		found = append(found, x)
		x = good
		x.t, x.life, x.periods = beyond(7)[i%10], append(beyond(8), 0)[i%11], lists[d.throw(len(lists)-1)]
		found = append(found, x)
		x = good
		x.s, x.c = bad[d.throw(len(bad)-1)], badCases[d.throw(len(badCases)-1)]
		found = append(found, x)
	}
	return append(found, ageArgs{}, ageArgs{s: shelfOf(1), life: 1}, ageArgs{s: shelfOf(8), life: 8})
}

func TestP13AgeFunctionsFailWithoutAShelf(t *testing.T) {
	for i, s := range noShelves() {
		for _, x := range []ageArgs{{s: s}, {s: s, issue: zeroRows(len(s.Need)), set: rise(0, 1, min(len(s.Need), 8))}, {s: s, issue: zeroRows(3), set: []int{0}}, {s: s, issue: [][]int{{1}}, t: i % 3}} {
			for _, call := range ageCalls(x) {
				if call.name == "IsShelf" {
					if call.results[0] != false {
						t.Error("a Shelf", s)
					}
				} else if !isOfCases(call.name) {
					checkAllFail(t, []lotCall{call})
				}
			}
		}
	}
}

func TestP13AgeFunctionsFailWithoutACase(t *testing.T) {
	for i, c := range noCases() {
		for _, periods := range [][]int{nil, {0}, {1}, {0, 1, 2}, rise(0, 1, len(c.Need))} {
			for _, call := range ageCalls(ageArgs{c: c, life: 1 + i%8, periods: periods}) {
				if isOfCases(call.name) {
					checkAllFail(t, []lotCall{call})
				}
			}
		}
	}
}

func TestP13WhereAgeFunctionsFailAllResultsAreZero(t *testing.T) {
	var calls []lotCall
	for _, x := range manyAgeArgs() {
		calls = append(calls, ageCalls(x)...)
	}
	checkEachFailsAndDoesNot(t, calls, 13, "IsShelf")
}

// roomyAges gives the same arguments in memory that goes on behind them, and all this memory.
func roomyAges(x ageArgs) (ageArgs, [][]int) {
	var memory [][]int
	for _, list := range []*[]int{&x.s.Arrive, &x.s.Need, &x.set, &x.c.Need, &x.c.Setup, &x.c.Unit, &x.c.Hold, &x.periods} {
		roomy, all := withRoom(*list)
		*list = roomy
		memory = append(memory, all)
	}
	rows := make([][]int, len(x.issue), len(x.issue)+3)
	for i, row := range x.issue {
		var all []int
		rows[i], all = withRoom(row)
		memory = append(memory, all)
	}
	_ = append(rows, []int{81}, []int{82}, []int{83})
	x.issue = rows
	return x, memory
}

func TestP13AgeFunctionsLeaveTheirArguments(t *testing.T) {
	for _, x := range manyAgeArgs() {
		given, memory := roomyAges(x)
		rows, lists := copyTable(given.issue[:cap(given.issue)]), copyTable(memory)
		calls := ageCalls(given)
		checkResultsAreApart(t, calls)
		if !slices.EqualFunc(memory, lists, slices.Equal[[]int]) || !reflect.DeepEqual(copyTable(given.issue[:cap(given.issue)]), rows) {
			t.Fatal("changed", x, given, memory)
		}
		if again := ageCalls(x); !slices.EqualFunc(again, calls, func(a, b lotCall) bool { return a.ok == b.ok }) {
			t.Fatal("another answer", x, again, calls)
		}
	}
}

func TestP13AgeFunctionsReturnTheSameAgain(t *testing.T) {
	for _, x := range manyAgeArgs() {
		first := ageCalls(x)
		checkResultsAreApart(t, ageCalls(x))
		if second := ageCalls(x); !reflect.DeepEqual(first, second) {
			t.Fatal("another result", first, second)
		}
	}
}

func TestP13NilAndEmptyListsOfAges(t *testing.T) {
	none := ageCalls(ageArgs{s: impl.Shelf{Life: 2}, life: 2})
	empty := ageCalls(ageArgs{impl.Shelf{Life: 2, Arrive: []int{}, Need: []int{}}, [][]int{}, 0, []int{}, impl.Case{Need: []int{}, Setup: []int{}, Unit: []int{}, Hold: []int{}}, 2, []int{}})
	if fmt.Sprint(none) != fmt.Sprint(empty) {
		t.Error("not the same", none, empty)
	}
	for _, call := range none {
		if call.ok != (call.name != "StockByAge") {
			t.Error("fails, or does not", call)
		}
	}
	rows := ageCalls(ageArgs{s: shelfOf(1, [2]int{1, 1}), issue: [][]int{nil}})
	if other := ageCalls(ageArgs{s: shelfOf(1, [2]int{1, 1}), issue: [][]int{{}}}); fmt.Sprint(rows) != fmt.Sprint(other) {
		t.Error("not the same", rows, other)
	}
}
