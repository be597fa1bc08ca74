package tests

import (
	"fmt"
	"math"
	"reflect"
	"slices"
	"testing"

	"loop.example/g01111/impl"
)

// farOrders are numbers within the bounds of orders and on both sides of them.
var farOrders = []int{math.MinInt, math.MinInt32, -16, -2, -1, 0, 1, 2, 7, 14, 15, 16, 17, 60, 1 << 32, math.MaxInt}

// farCharges are pairs of charges within their bounds.
var farCharges = [][2]int{{0, 0}, {0, 1}, {1, 0}, {1, 1}, {1, 3}, {3, 1}, {2, 7}, {0, 20}, {20, 0}, {20, 20}, {1, 20}, {20, 1}, {19, 20}}

// beyond gives numbers on both sides of 0..most.
func beyond(most int) []int {
	return []int{-1, most + 1, -most, -most - 1, 2*most + 1, 1 << 32, 1<<32 + 1, math.MinInt, math.MinInt + 1, math.MaxInt}
}

// isSomeDistribution tells by the document's words whether a list is a distribution.
func isSomeDistribution(w []int) bool {
	some := false
	for _, x := range w {
		if x < 0 || x > 1000 {
			return false
		}
		some = some || x > 0
	}
	return some && len(w) <= 16
}

// onlyAt gives a list with one weight behind so many of 0, and as many of 0 behind it.
func onlyAt(d, weight, behind int) []int {
	w := make([]int, d+1+behind)
	w[d] = weight
	return w
}

// smallDistributions gives all distributions of at most 4 weights up to 2, and some more.
func smallDistributions() [][]int {
	lists := [][]int{{}}
	var found [][]int
	for i := 0; i < len(lists); i++ {
		if isSomeDistribution(lists[i]) {
			found = append(found, lists[i])
		}
		for x := 0; x <= 2 && len(lists[i]) < 4; x++ {
			lists = append(lists, append(slices.Clone(lists[i]), x))
		}
	}
	return append(found, []int{3, 0, 1}, []int{1, 0, 3}, []int{0, 5}, []int{1, 1, 1, 1, 1}, []int{2, 0, 0, 0, 2}, []int{0, 0, 4, 0, 0})
}

// thrownDistribution gives a distribution of n weights, about a third of them 0.
func (d *dice) thrownDistribution(n, most int) []int {
	w := make([]int, n)
	for i := range w {
		if d.throw(2) > 0 {
			w[i] = d.throw(most)
		}
	}
	w[d.throw(n-1)] = 1 + d.throw(most-1)
	return w
}

// fullDistributions gives distributions of all lengths with weights up to the limit.
func fullDistributions() [][]int {
	var found [][]int
	for n := 1; n <= 16; n++ {
		found = append(found, slices.Repeat([]int{1000}, n), slices.Repeat([]int{1}, n))
		for at := range n {
			found = append(found, onlyAt(at, 1000, n-1-at), onlyAt(at, 1, n-1-at))
		}
	}
	var d dice = 109
	for i := range 200 {
		found = append(found, d.thrownDistribution(1+i%16, 1000), d.thrownDistribution(1+i%16, 5))
	}
	return found
}

func allDistributions() [][]int {
	return append(smallDistributions(), fullDistributions()...)
}

// noDistributions gives lists that are none.
func noDistributions() [][]int {
	bad := [][]int{
		nil, {}, {0}, {0, 0}, make([]int, 16), make([]int, 17), make([]int, 5000), slices.Repeat([]int{1}, 17), slices.Repeat([]int{1000}, 17), slices.Repeat([]int{1}, 5000), onlyAt(16, 1, 0), onlyAt(0, 1, 16),
		{-1}, {1001}, {2, -1}, {-1, 2}, {-1, -1}, {1, -1}, {1000, 1001}, {1001, 0}, {500, 500, -1}, {math.MaxInt}, {math.MinInt}, {math.MaxInt, 1}, {math.MinInt, math.MinInt, 1}, {1 << 62, 1 << 62, 1 << 62, 1 << 62, 1}, {1<<32 + 1}, {1, 1 << 32},
	}
	for _, x := range beyond(1000) {
		for at := range 16 {
			w := slices.Repeat([]int{1}, 16)
			w[at] = x
			bad = append(bad, w)
		}
	}
	return bad
}

// weightOf gives the weight of a demand, which is 0 behind the list.
func weightOf(w []int, d int) int {
	if d < len(w) {
		return w[d]
	}
	return 0
}

// chanceSums are what the document names for a distribution, and for an order: the total, the mean
// sum, and the weight up to the order, the over sum and the short sum.
type chanceSums struct {
	total, mean, upTo, over, short int
}

func sumsBySteps(w []int, q int) chanceSums {
	var x chanceSums
	for d := range 100 {
		x.total += weightOf(w, d)
		x.mean += d * weightOf(w, d)
		switch {
		case d < q:
			x.upTo += weightOf(w, d)
			x.over += weightOf(w, d) * (q - d)
		case d == q:
			x.upTo += weightOf(w, d)
		default:
			x.short += weightOf(w, d) * (d - q)
		}
	}
	return x
}

func chanceCost(w []int, over, under, q int) int {
	x := sumsBySteps(w, q)
	return over*x.over + under*x.short
}

// criticalBySteps tries one order after the other, by the document's words.
func criticalBySteps(w []int, over, under int) int {
	for q := range 16 {
		x := sumsBySteps(w, q)
		if over*x.upTo+under*x.upTo >= under*x.total {
			return q
		}
	}
	panic("there is a critical order")
}

// bestOrdersByAll gives the orders that no other one is better than.
func bestOrdersByAll(w []int, over, under int) []int {
	var best []int
	for q := range 16 {
		none := true
		for other := range 16 {
			none = none && chanceCost(w, over, under, other) >= chanceCost(w, over, under, q)
		}
		if none {
			best = append(best, q)
		}
	}
	return best
}

// checkSums compares all sums of a distribution.
func checkSums(t *testing.T, w []int) {
	t.Helper()
	if !impl.IsDistribution(w) {
		t.Error("no distribution", w)
	}
	want := sumsBySteps(w, 0)
	total, ok := impl.TotalWeight(w)
	checkNumber(t, fmt.Sprint("TotalWeight ", w), total, ok, want.total, true)
	mean, ok := impl.MeanSum(w)
	checkNumber(t, fmt.Sprint("MeanSum ", w), mean, ok, want.mean, true)
	for q := range 16 {
		want = sumsBySteps(w, q)
		what := fmt.Sprint(" ", w, q)
		upTo, ok := impl.WeightUpTo(w, q)
		checkNumber(t, "WeightUpTo"+what, upTo, ok, want.upTo, true)
		over, ok := impl.OverSum(w, q)
		checkNumber(t, "OverSum"+what, over, ok, want.over, true)
		short, ok := impl.ShortSum(w, q)
		checkNumber(t, "ShortSum"+what, short, ok, want.short, true)
	}
}

// checkBest compares the cost sums of a distribution, and which orders are best.
func checkBest(t *testing.T, w []int, over, under int) {
	t.Helper()
	what := fmt.Sprint(" ", w, over, under)
	for q := range 16 {
		cost, ok := impl.CostSum(w, over, under, q)
		checkNumber(t, fmt.Sprint("CostSum", what, " ", q), cost, ok, chanceCost(w, over, under, q), true)
	}
	q, ok := impl.CriticalOrder(w, over, under)
	checkNumber(t, "CriticalOrder"+what, q, ok, criticalBySteps(w, over, under), true)
	best, ok := impl.BestOrders(w, over, under)
	checkList(t, "BestOrders"+what, best, ok, bestOrdersByAll(w, over, under), true)
}

func TestChanceBounds(t *testing.T) {
	if impl.MaxDemand != 15 || impl.MaxChance != 1000 || impl.MaxCharge != 20 || impl.MaxGoods != 3 || impl.MaxBudget != 60 || impl.MaxStart != 30 {
		t.Error("bounds", impl.MaxDemand, impl.MaxChance, impl.MaxCharge, impl.MaxGoods, impl.MaxBudget, impl.MaxStart)
	}
}

func TestP5IsDistribution(t *testing.T) {
	for _, w := range append(allDistributions(), []int{0, 1000}, []int{1000, 0}, onlyAt(15, 1, 0), onlyAt(0, 1, 15)) {
		if !impl.IsDistribution(w) || !isSomeDistribution(w) {
			t.Error("no distribution", w)
		}
	}
	for _, w := range noDistributions() {
		if impl.IsDistribution(w) || isSomeDistribution(w) {
			t.Error("a distribution", w)
		}
	}
}

func TestP5SumExamples(t *testing.T) {
	wide := onlyAt(15, 1, 0)
	wide[0] = 3
	for _, x := range []struct {
		w    []int
		q    int
		want chanceSums
	}{
		{[]int{1}, 0, chanceSums{1, 0, 1, 0, 0}},
		{[]int{1000}, 0, chanceSums{1000, 0, 1000, 0, 0}},
		{[]int{1}, 1, chanceSums{1, 0, 1, 1, 0}},
		{[]int{2}, 15, chanceSums{2, 0, 2, 30, 0}},
		{[]int{0, 5}, 0, chanceSums{5, 5, 0, 0, 5}},
		{[]int{0, 5}, 1, chanceSums{5, 5, 5, 0, 0}},
		{[]int{1, 2, 1}, 0, chanceSums{4, 4, 1, 0, 4}},
		{[]int{1, 2, 1}, 1, chanceSums{4, 4, 3, 1, 1}},
		{[]int{1, 2, 1}, 2, chanceSums{4, 4, 4, 4, 0}},
		{[]int{1, 2, 1}, 3, chanceSums{4, 4, 4, 8, 0}},
		{[]int{1, 2, 1}, 15, chanceSums{4, 4, 4, 56, 0}},
		{[]int{2, 0, 0, 3}, 1, chanceSums{5, 9, 2, 2, 6}},
		{[]int{2, 0, 0, 3}, 2, chanceSums{5, 9, 2, 4, 3}},
		{wide, 0, chanceSums{4, 15, 3, 0, 15}},
		{wide, 14, chanceSums{4, 15, 3, 42, 1}},
		{wide, 15, chanceSums{4, 15, 4, 45, 0}},
		{slices.Repeat([]int{1000}, 16), 0, chanceSums{16000, 120000, 1000, 0, 120000}},
		{slices.Repeat([]int{1000}, 16), 15, chanceSums{16000, 120000, 16000, 120000, 0}},
	} {
		total, ok1 := impl.TotalWeight(x.w)
		mean, ok2 := impl.MeanSum(x.w)
		upTo, ok3 := impl.WeightUpTo(x.w, x.q)
		over, ok4 := impl.OverSum(x.w, x.q)
		short, ok5 := impl.ShortSum(x.w, x.q)
		if got := (chanceSums{total, mean, upTo, over, short}); got != x.want || !ok1 || !ok2 || !ok3 || !ok4 || !ok5 {
			t.Error("sums", x.w, x.q, got, x.want)
		}
		if got := sumsBySteps(x.w, x.q); got != x.want {
			t.Error("sums by steps", x.w, x.q, got, x.want)
		}
	}
}

func TestP5SumsOfAllDistributions(t *testing.T) {
	for _, w := range allDistributions() {
		checkSums(t, w)
		if t.Failed() {
			return
		}
	}
}

func TestP5OverLessShortIsOrderLessMean(t *testing.T) {
	for _, w := range allDistributions() {
		total, _ := impl.TotalWeight(w)
		mean, _ := impl.MeanSum(w)
		for q := range 16 {
			over, ok := impl.OverSum(w, q)
			short, fine := impl.ShortSum(w, q)
			if !ok || !fine || over-short != total*q-mean {
				t.Fatal("over less short", w, q, over, short, total, mean)
			}
		}
	}
}

func TestP5CostExamples(t *testing.T) {
	w := []int{1, 2, 1}
	full := slices.Repeat([]int{1000}, 16)
	for _, x := range []struct {
		w                    []int
		over, under, q, want int
	}{
		{w, 1, 3, 0, 12}, {w, 1, 3, 1, 4}, {w, 1, 3, 2, 4}, {w, 1, 3, 3, 8}, {w, 1, 3, 15, 56}, {w, 3, 1, 1, 4}, {w, 3, 1, 2, 12},
		{w, 0, 3, 0, 12}, {w, 0, 3, 1, 3}, {w, 0, 3, 2, 0}, {w, 0, 3, 15, 0}, {w, 3, 0, 0, 0}, {w, 3, 0, 2, 12}, {w, 0, 0, 0, 0}, {w, 0, 0, 15, 0},
		{w, 20, 20, 1, 40}, {w, 20, 0, 15, 1120}, {w, 0, 20, 0, 80}, {full, 20, 20, 0, 2400000}, {full, 20, 20, 15, 2400000}, {full, 20, 20, 7, 20*28000 + 20*36000},
	} {
		cost, ok := impl.CostSum(x.w, x.over, x.under, x.q)
		checkNumber(t, fmt.Sprint("CostSum ", x), cost, ok, x.want, true)
	}
}

func TestP5BestExamples(t *testing.T) {
	every := []int{0, 1, 2, 3, 4, 5, 6, 7, 8, 9, 10, 11, 12, 13, 14, 15}
	w := []int{1, 2, 1}
	for _, x := range []struct {
		w           []int
		over, under int
		want        []int
	}{
		{w, 1, 3, []int{1, 2}}, {w, 1, 2, []int{1}}, {w, 1, 4, []int{2}}, {w, 3, 1, []int{0, 1}}, {w, 4, 1, []int{0}}, {w, 1, 1, []int{1}}, {w, 5, 15, []int{1, 2}},
		{w, 0, 0, every}, {w, 0, 1, every[2:]}, {w, 0, 20, every[2:]}, {w, 1, 0, []int{0}}, {w, 20, 0, []int{0}}, {w, 20, 20, []int{1}},
		{[]int{1}, 1, 1, []int{0}}, {[]int{1}, 0, 1, every}, {[]int{1}, 1, 0, []int{0}}, {[]int{1000, 0, 0}, 0, 20, every},
		{[]int{0, 0, 7}, 1, 1, []int{2}}, {[]int{0, 0, 7}, 1, 0, []int{0, 1, 2}}, {[]int{0, 0, 7}, 0, 1, every[2:]}, {[]int{0, 0, 7, 0}, 0, 1, every[2:]},
		{onlyAt(15, 1, 0), 1, 1, []int{15}}, {onlyAt(15, 1, 0), 1, 0, every}, {onlyAt(15, 1000, 0), 0, 20, []int{15}}, {onlyAt(15, 1, 0), 0, 0, every},
		{[]int{1, 0, 0, 1}, 1, 1, []int{0, 1, 2, 3}}, {[]int{1, 0, 0, 1}, 2, 1, []int{0}}, {[]int{1, 0, 0, 1}, 1, 2, []int{3}}, {[]int{1, 1, 0, 0, 0, 1, 1}, 7, 7, []int{1, 2, 3, 4, 5}},
		{slices.Repeat([]int{1000}, 16), 1, 1, []int{7, 8}}, {slices.Repeat([]int{1000}, 16), 1, 15, []int{14, 15}}, {slices.Repeat([]int{1000}, 16), 15, 1, []int{0, 1}}, {slices.Repeat([]int{1}, 16), 1, 16, []int{15}},
	} {
		what := fmt.Sprint(" ", x.w, x.over, x.under)
		q, ok := impl.CriticalOrder(x.w, x.over, x.under)
		checkNumber(t, "CriticalOrder"+what, q, ok, x.want[0], true)
		best, ok := impl.BestOrders(x.w, x.over, x.under)
		checkList(t, "BestOrders"+what, best, ok, x.want, true)
		checkBest(t, x.w, x.over, x.under)
	}
}

func TestP5BestOfAllDistributions(t *testing.T) {
	for _, w := range allDistributions() {
		for _, x := range farCharges {
			checkBest(t, w, x[0], x[1])
		}
		if t.Failed() {
			return
		}
	}
	for over := range 21 {
		for under := range 21 {
			checkBest(t, []int{3, 1, 0, 4, 2}, over, under)
			checkBest(t, []int{0, 20, 40, 0, 13, 0, 27, 0}, over, under)
		}
	}
}

func TestP5TheCriticalOrderIsTheFirstOfTheBest(t *testing.T) {
	several := 0
	for _, w := range allDistributions() {
		for _, x := range farCharges {
			q, ok := impl.CriticalOrder(w, x[0], x[1])
			best, fine := impl.BestOrders(w, x[0], x[1])
			if !ok || !fine || len(best) == 0 || best[0] != q {
				t.Fatal("not the first one", w, x, q, best)
			}
			least, _ := impl.CostSum(w, x[0], x[1], q)
			for i, other := range best {
				if other != q+i {
					t.Fatal("they do not follow one another", w, x, best)
				}
			}
			for other := range 16 {
				cost, _ := impl.CostSum(w, x[0], x[1], other)
				if cost < least || (cost == least) != slices.Contains(best, other) {
					t.Fatal("not the best orders", w, x, q, best, other)
				}
			}
			if len(best) > 1 {
				several++
			}
		}
	}
	if several < 1000 {
		t.Error("too few distributions with several best orders", several)
	}
}

func TestP5CostSumsAreConvex(t *testing.T) {
	for _, w := range allDistributions() {
		for _, x := range farCharges {
			for q := 1; q < 15; q++ {
				before, _ := impl.CostSum(w, x[0], x[1], q-1)
				cost, _ := impl.CostSum(w, x[0], x[1], q)
				behind, ok := impl.CostSum(w, x[0], x[1], q+1)
				if !ok || behind-cost < cost-before {
					t.Fatal("not convex", w, x, q, before, cost, behind)
				}
			}
		}
	}
}

func TestP5OrdersAndChargesThatAreNone(t *testing.T) {
	for _, w := range [][]int{{1}, {1, 2, 1}, slices.Repeat([]int{1000}, 16)} {
		for _, q := range beyond(15) {
			what := fmt.Sprint(" ", w, q)
			x, ok := impl.WeightUpTo(w, q)
			checkNumber(t, "WeightUpTo"+what, x, ok, 0, false)
			x, ok = impl.OverSum(w, q)
			checkNumber(t, "OverSum"+what, x, ok, 0, false)
			x, ok = impl.ShortSum(w, q)
			checkNumber(t, "ShortSum"+what, x, ok, 0, false)
			x, ok = impl.CostSum(w, 1, 1, q)
			checkNumber(t, "CostSum"+what, x, ok, 0, false)
		}
		for _, bad := range beyond(20) {
			for _, good := range []int{0, 1, 20} {
				for _, x := range [][2]int{{bad, good}, {good, bad}, {bad, -bad}, {bad, bad}} {
					checkAllFail(t, chargeCalls(w, [][]int{w}, x[0], x[1]))
				}
			}
		}
	}
}

// chargeCalls calls all functions that take charges, with other numbers that are valid.
func chargeCalls(w []int, goods [][]int, over, under int) []lotCall {
	cost, ok1 := impl.CostSum(w, over, under, 1)
	q, ok2 := impl.CriticalOrder(w, over, under)
	best, ok3 := impl.BestOrders(w, over, under)
	orders, ok4 := impl.BudgetOrders(goods, over, under, make([]int, len(goods)), 1)
	steps, ok5 := impl.StepOrders(goods, over, under, 1)
	upTo, ok6 := impl.OrderUpTo(w, over, under, 1, 1, 1)
	level, ok7 := impl.TriggerLevel(w, over, under, 1, 1)
	return []lotCall{
		{"CostSum", []any{cost}, ok1}, {"CriticalOrder", []any{q}, ok2}, {"BestOrders", []any{best}, ok3}, {"BudgetOrders", []any{orders}, ok4},
		{"StepOrders", []any{steps}, ok5}, {"OrderUpTo", []any{upTo}, ok6}, {"TriggerLevel", []any{level}, ok7},
	}
}

// checkAllFail looks for calls that do not fail, and for results of them that are no zero values.
func checkAllFail(t *testing.T, calls []lotCall) {
	t.Helper()
	checkZeroBesideFalse(t, calls, true)
}

// checkNoneFails looks for calls that fail.
func checkNoneFails(t *testing.T, calls []lotCall) {
	t.Helper()
	for _, call := range calls {
		if !call.ok {
			t.Fatal("fails", call)
		}
	}
}

func TestP5ChargesWithinTheirBounds(t *testing.T) {
	for _, w := range [][]int{{1}, {1, 2, 1}, slices.Repeat([]int{1000}, 16)} {
		for _, x := range farCharges {
			checkNoneFails(t, chargeCalls(w, [][]int{w, w}, x[0], x[1]))
		}
	}
}

func TestP5ListsThatAreNoDistributions(t *testing.T) {
	for _, w := range noDistributions() {
		checkAllFail(t, chargeCalls(w, [][]int{w}, 1, 3))
		checkAllFail(t, chargeCalls(w, [][]int{{1, 2, 1}, w}, 1, 3))
		for _, q := range farOrders {
			upTo, ok1 := impl.WeightUpTo(w, q)
			over, ok2 := impl.OverSum(w, q)
			short, ok3 := impl.ShortSum(w, q)
			cost, ok4 := impl.CostSum(w, 0, 0, q)
			checkAllFail(t, []lotCall{{"WeightUpTo", []any{upTo}, ok1}, {"OverSum", []any{over}, ok2}, {"ShortSum", []any{short}, ok3}, {"CostSum", []any{cost}, ok4}})
		}
		total, ok1 := impl.TotalWeight(w)
		mean, ok2 := impl.MeanSum(w)
		checkAllFail(t, []lotCall{{"TotalWeight", []any{total}, ok1}, {"MeanSum", []any{mean}, ok2}})
		for _, other := range [][]int{{1}, {1, 2, 1}, slices.Repeat([]int{1}, 16), w} {
			checkAllFail(t, pairsOfChances(w, other))
			checkAllFail(t, pairsOfChances(other, w))
		}
	}
}

// pairsOfChances calls the functions that take two distributions.
func pairsOfChances(a, b []int) []lotCall {
	sum, ok1 := impl.SumOf(a, b)
	more, ok2 := impl.IsMore(a, b)
	wider, ok3 := impl.IsWider(a, b)
	return []lotCall{{"SumOf", []any{sum}, ok1}, {"IsMore", []any{more}, ok2}, {"IsWider", []any{wider}, ok3}}
}

// sumByAll gives the weights of all sums of two demands, and whether they are a distribution.
func sumByAll(a, b []int) ([]int, bool) {
	sum := make([]int, len(a)+len(b)-1)
	for d := range sum {
		for e := 0; e <= d; e++ {
			sum[d] += weightOf(a, e) * weightOf(b, d-e)
		}
	}
	if !isSomeDistribution(sum) {
		return nil, false
	}
	return sum, true
}

func TestP5SumOfExamples(t *testing.T) {
	for _, x := range []struct {
		a, b, want []int
	}{
		{[]int{1}, []int{1}, []int{1}},
		{[]int{1, 1}, []int{1, 1}, []int{1, 2, 1}},
		{[]int{1, 2, 1}, []int{3}, []int{3, 6, 3}},
		{[]int{0, 1}, []int{1, 2, 1}, []int{0, 1, 2, 1}},
		{[]int{1, 0}, []int{1, 0}, []int{1, 0, 0}},
		{[]int{0, 0, 2}, []int{0, 3, 0}, []int{0, 0, 0, 6, 0}},
		{[]int{2, 3}, []int{5, 7, 11}, []int{10, 29, 43, 33}},
		{[]int{40}, []int{25}, []int{1000}}, {[]int{1000}, []int{1}, []int{1000}}, {[]int{1, 1000}, []int{1, 0}, []int{1, 1000, 0}},
		{[]int{20, 20}, []int{25, 25}, []int{500, 1000, 500}}, {[]int{1, 1}, []int{0, 500, 500}, []int{0, 500, 1000, 500}},
		{[]int{7}, []int{143}, nil}, {[]int{1000}, []int{2}, nil}, {[]int{1000}, []int{1000}, nil}, {[]int{1, 1}, []int{1, 1000}, nil}, {[]int{1, 1}, []int{500, 501}, nil}, {[]int{1, 0, 1000}, []int{1, 0, 1}, nil},
		{onlyAt(7, 1, 0), onlyAt(8, 1, 0), onlyAt(15, 1, 0)}, {onlyAt(8, 1, 0), onlyAt(8, 1, 0), nil}, {onlyAt(15, 1, 0), []int{1}, onlyAt(15, 1, 0)}, {[]int{1}, onlyAt(0, 2, 15), onlyAt(0, 2, 15)},
		{onlyAt(15, 1, 0), []int{1, 0}, nil}, {onlyAt(0, 1, 15), []int{1, 0}, nil}, {onlyAt(0, 1, 7), onlyAt(0, 1, 8), onlyAt(0, 1, 15)}, {onlyAt(0, 1, 8), onlyAt(0, 1, 8), nil},
		{slices.Repeat([]int{1}, 8), slices.Repeat([]int{1}, 9), []int{1, 2, 3, 4, 5, 6, 7, 8, 8, 7, 6, 5, 4, 3, 2, 1}}, {slices.Repeat([]int{1}, 9), slices.Repeat([]int{1}, 9), nil}, {slices.Repeat([]int{1}, 16), slices.Repeat([]int{1}, 16), nil},
	} {
		sum, ok := impl.SumOf(x.a, x.b)
		checkList(t, fmt.Sprint("SumOf ", x.a, x.b), sum, ok, x.want, x.want != nil)
		sum, ok = impl.SumOf(x.b, x.a)
		checkList(t, fmt.Sprint("SumOf ", x.b, x.a), sum, ok, x.want, x.want != nil)
	}
}

func TestP5ProductsOfListsThatAreNoDistributions(t *testing.T) {
	// With numbers outside the bounds, the products alone would be the weights of a distribution.
	for _, x := range []struct{ bad, other []int }{
		{[]int{1, -1, 1}, []int{1, 1}}, {[]int{1, -1, 1, 0}, []int{2, 2, 0}}, {[]int{1, -2, 4}, []int{1, 2}}, {[]int{-1}, []int{-1}}, {[]int{0, -3}, []int{-2, 0, -5}},
		{[]int{1 << 62, 1}, []int{4}}, {[]int{1, math.MinInt}, []int{2}}, {[]int{1<<62 + 5}, []int{4, 8}}, {[]int{math.MaxInt}, []int{math.MaxInt}}, {[]int{math.MinInt, 7}, []int{2, 0, 4}},
	} {
		if _, fine := sumByAll(x.bad, x.other); !fine {
			t.Fatal("the products are no distribution", x)
		}
		sum, ok := impl.SumOf(x.bad, x.other)
		checkList(t, fmt.Sprint("SumOf ", x.bad, x.other), sum, ok, nil, false)
		sum, ok = impl.SumOf(x.other, x.bad)
		checkList(t, fmt.Sprint("SumOf ", x.other, x.bad), sum, ok, nil, false)
	}
}

// thrownPairs gives pairs of distributions whose sum is one or nearly one.
func thrownPairs() [][2][]int {
	var d dice = 113
	var pairs [][2][]int
	for i := range 1500 {
		n := 1 + i%16
		pairs = append(pairs, [2][]int{d.thrownDistribution(n, 12), d.thrownDistribution(17-n, 12)}, [2][]int{d.thrownDistribution(n, 40), d.thrownDistribution(1+d.throw(16-n), 40)})
	}
	return pairs
}

func TestP5SumsOfManyPairs(t *testing.T) {
	small := smallDistributions()
	for _, a := range small {
		for _, b := range small {
			want, fine := sumByAll(a, b)
			sum, ok := impl.SumOf(a, b)
			checkList(t, fmt.Sprint("SumOf ", a, b), sum, ok, want, fine)
		}
	}
	good, bad := 0, 0
	for _, x := range append(thrownPairs(), [2][]int{slices.Repeat([]int{1}, 9), slices.Repeat([]int{1}, 9)}) {
		want, fine := sumByAll(x[0], x[1])
		sum, ok := impl.SumOf(x[0], x[1])
		checkList(t, fmt.Sprint("SumOf ", x), sum, ok, want, fine)
		if fine {
			good++
		} else {
			bad++
		}
		if t.Failed() {
			return
		}
	}
	if good < 200 || bad < 200 {
		t.Error("too few sums of one kind", good, bad)
	}
}

func TestP5TheSumOfDemandsCostsNoMore(t *testing.T) {
	pairs := thrownPairs()
	small := smallDistributions()
	for i, a := range small {
		pairs = append(pairs, [2][]int{a, small[(7*i+3)%len(small)]}, [2][]int{a, a})
	}
	sums, less := 0, 0
	for _, x := range pairs {
		sum, ok := impl.SumOf(x[0], x[1])
		if !ok {
			continue
		}
		sums++
		a, _ := impl.TotalWeight(x[0])
		b, _ := impl.TotalWeight(x[1])
		meanA, _ := impl.MeanSum(x[0])
		meanB, _ := impl.MeanSum(x[1])
		both, _ := impl.TotalWeight(sum)
		mean, _ := impl.MeanSum(sum)
		if both != a*b || mean != meanA*b+meanB*a {
			t.Fatal("total and mean of the sum", x, sum)
		}
		for _, y := range farCharges {
			costs := leastCost(x[0], y[0], y[1])*b + leastCost(x[1], y[0], y[1])*a
			cost := leastCost(sum, y[0], y[1])
			if cost > costs {
				t.Fatal("the sum costs more", x, y, cost, costs)
			}
			if cost < costs {
				less++
			}
		}
	}
	if sums < 500 || less < 1000 {
		t.Error("too few sums, or sums that cost less", sums, less)
	}
}

// leastCost gives the cost sum of the critical order.
func leastCost(w []int, over, under int) int {
	q, _ := impl.CriticalOrder(w, over, under)
	cost, _ := impl.CostSum(w, over, under, q)
	return cost
}

// atSameTotal gives both distributions with weights for all orders and the same total: then their
// chances are as their weights.
func atSameTotal(a, b []int) ([]int, []int) {
	scaled := func(w []int, by int) []int {
		all := make([]int, 16)
		for d := range w {
			all[d] = w[d] * by
		}
		return all
	}
	return scaled(a, sumsBySteps(b, 0).total), scaled(b, sumsBySteps(a, 0).total)
}

// comparedBySteps tells whether a is more than b, and whether it is wider.
func comparedBySteps(a, b []int) (bool, bool) {
	a, b = atSameTotal(a, b)
	more, wider := true, sumsBySteps(a, 0).mean == sumsBySteps(b, 0).mean
	for q := range 16 {
		x, y := sumsBySteps(a, q), sumsBySteps(b, q)
		more = more && x.upTo <= y.upTo
		wider = wider && x.short >= y.short
	}
	return more, wider
}

// checkCompared compares whether one distribution is more, and whether it is wider.
func checkCompared(t *testing.T, a, b []int) (bool, bool) {
	t.Helper()
	wantMore, wantWider := comparedBySteps(a, b)
	more, ok := impl.IsMore(a, b)
	checkAnswer(t, fmt.Sprint("IsMore ", a, b), more, ok, wantMore, true)
	wider, ok := impl.IsWider(a, b)
	checkAnswer(t, fmt.Sprint("IsWider ", a, b), wider, ok, wantWider, true)
	return more, wider
}

func TestP5ComparedExamples(t *testing.T) {
	for _, x := range []struct {
		a, b        []int
		more, wider bool
	}{
		{[]int{1}, []int{1}, true, true}, {[]int{1}, []int{1000}, true, true}, {[]int{1}, []int{7, 0, 0}, true, true}, {onlyAt(0, 1, 15), []int{9}, true, true},
		{[]int{0, 1}, []int{1, 0}, true, false}, {[]int{1, 0}, []int{0, 1}, false, false}, {[]int{0, 1}, []int{1}, true, false}, {[]int{1}, []int{0, 1}, false, false},
		{onlyAt(15, 1, 0), []int{1}, true, false}, {onlyAt(15, 1, 0), onlyAt(14, 1000, 0), true, false}, {onlyAt(14, 1, 0), onlyAt(15, 1, 0), false, false},
		{[]int{1, 0, 1}, []int{0, 2, 0}, false, true}, {[]int{0, 2, 0}, []int{1, 0, 1}, false, false}, {[]int{1, 0, 1}, []int{0, 1}, false, true}, {[]int{3, 0, 3}, []int{0, 1, 0, 0}, false, true},
		{[]int{1, 2, 1}, []int{2, 4, 2}, true, true}, {[]int{2, 4, 2, 0}, []int{1, 2, 1}, true, true}, {[]int{1, 2, 1}, []int{1, 1, 1}, false, false}, {[]int{1, 1, 1}, []int{1, 2, 1}, false, true},
		{[]int{1, 1}, []int{2, 1}, true, false}, {[]int{1, 3}, []int{1, 2}, true, false}, {[]int{2, 1}, []int{1, 1}, false, false}, {[]int{1, 0, 0, 1}, []int{0, 1, 1}, false, true}, {[]int{2, 0, 0, 1}, []int{1, 1, 1, 0}, false, true}, {[]int{2, 0, 0, 1}, []int{0, 1}, false, true},
		{[]int{1, 0, 2, 0, 1}, []int{0, 2, 0, 2, 0}, false, true}, {[]int{0, 2, 0, 2, 0}, []int{1, 0, 2, 0, 1}, false, false}, {[]int{1, 0, 0, 0, 0, 1}, []int{0, 1, 0, 0, 1}, false, true}, {[]int{1, 0, 0, 2}, []int{0, 2, 0, 0, 1}, false, false}, {[]int{0, 2, 0, 0, 1}, []int{1, 0, 0, 2}, false, false},
		{[]int{1, 0, 0, 1, 0}, []int{0, 1, 0, 0, 1}, false, false}, {[]int{0, 1, 0, 0, 1}, []int{1, 0, 0, 1, 0}, true, false}, {[]int{1, 0, 0, 3, 0}, []int{0, 1, 0, 0, 1}, false, false},
		{[]int{999, 1000}, []int{998, 999}, false, false}, {[]int{998, 999}, []int{999, 1000}, true, false}, {[]int{0, 0, 1}, []int{1, 0, 0, 0, 1}, false, false}, {[]int{1, 0, 0, 0, 1}, []int{0, 0, 1}, false, true},
	} {
		more, ok := impl.IsMore(x.a, x.b)
		checkAnswer(t, fmt.Sprint("IsMore ", x.a, x.b), more, ok, x.more, true)
		wider, ok := impl.IsWider(x.a, x.b)
		checkAnswer(t, fmt.Sprint("IsWider ", x.a, x.b), wider, ok, x.wider, true)
		checkCompared(t, x.a, x.b)
	}
}

// nearPairs gives pairs of distributions of which the first one is more, or wider, or nearly so.
func nearPairs() [][2][]int {
	var d dice = 127
	var pairs [][2][]int
	for i := range 1500 {
		b := d.thrownDistribution(3+i%14, 20)
		up, wide := slices.Clone(b), slices.Clone(b)
		for range 1 + d.throw(5) {
			at := 1 + d.throw(len(b)-3)
			if up[at] > 0 {
				up[at]--
				up[at+1]++
			}
			if wide[at] > 1 {
				wide[at] -= 2
				wide[at-1]++
				wide[at+1]++
			}
		}
		many := slices.Clone(wide)
		for at := range many {
			many[at] *= 1 + i%7
		}
		near := slices.Clone(many)
		near[d.throw(len(b)-1)]++
		pairs = append(pairs, [2][]int{up, b}, [2][]int{wide, b}, [2][]int{many, b}, [2][]int{near, b})
	}
	return pairs
}

func TestP5ComparedOfManyPairs(t *testing.T) {
	small := smallDistributions()
	mores, widers, none := 0, 0, 0
	count := func(a, b []int) {
		more, wider := checkCompared(t, a, b)
		switch {
		case more:
			mores++
		case wider:
			widers++
		default:
			none++
		}
	}
	for _, a := range small {
		for _, b := range small {
			count(a, b)
		}
	}
	for _, x := range nearPairs() {
		count(x[0], x[1])
		count(x[1], x[0])
	}
	full := fullDistributions()
	for i, a := range full {
		count(a, full[(17*i+5)%len(full)])
	}
	if mores < 1000 || widers < 1000 || none < 1000 {
		t.Error("too few pairs of one kind", mores, widers, none)
	}
}

func TestP5MoreAsksForNoLessAndWiderCostsNoLess(t *testing.T) {
	pairs := nearPairs()
	small := smallDistributions()
	for _, a := range small {
		for _, b := range small {
			pairs = append(pairs, [2][]int{a, b})
		}
	}
	greater, dearer := 0, 0
	for _, x := range pairs {
		more, _ := impl.IsMore(x[0], x[1])
		wider, _ := impl.IsWider(x[0], x[1])
		a, _ := impl.TotalWeight(x[0])
		b, _ := impl.TotalWeight(x[1])
		for _, y := range farCharges {
			p, _ := impl.CriticalOrder(x[0], y[0], y[1])
			q, _ := impl.CriticalOrder(x[1], y[0], y[1])
			if more && p < q {
				t.Fatal("more, but a less critical order", x, y, p, q)
			}
			if more && p > q {
				greater++
			}
			one, two := leastCost(x[0], y[0], y[1])*b, leastCost(x[1], y[0], y[1])*a
			if wider && one < two {
				t.Fatal("wider, but a less cost", x, y, one, two)
			}
			if wider && one > two {
				dearer++
			}
		}
		if wider && a == b {
			checkDearer(t, x[0], x[1])
		}
	}
	if greater < 1000 || dearer < 1000 {
		t.Error("too few differences", greater, dearer)
	}
}

// checkDearer compares the cost sums of all orders of two distributions with the same total, the
// first one of which is wider.
func checkDearer(t *testing.T, a, b []int) {
	t.Helper()
	for q := range 16 {
		one, ok := impl.CostSum(a, 3, 5, q)
		two, fine := impl.CostSum(b, 3, 5, q)
		if !ok || !fine || one < two {
			t.Fatal("wider, but a less cost sum", a, b, q, one, two)
		}
	}
}

// goodsCosts gives the cost sums of all orders of each good.
func goodsCosts(goods [][]int, over, under int) [][]int {
	var costs [][]int
	for _, w := range goods {
		var row []int
		for q := range 16 {
			row = append(row, chanceCost(w, over, under, q))
		}
		costs = append(costs, row)
	}
	return costs
}

// ordersByAll looks at all lists of orders that keep the budget, the greatest ones first, and gives
// the first one of those with the least sum of cost sums, and this sum.
func ordersByAll(goods [][]int, over, under int, prices []int, budget int) ([]int, int) {
	costs := goodsCosts(goods, over, under)
	var best []int
	least := 0
	orders := make([]int, len(goods))
	var grow func(at, cost, left int)
	grow = func(at, cost, left int) {
		if left < 0 {
			return
		}
		if at == len(goods) {
			if best == nil || cost < least || cost == least && slices.Compare(orders, best) < 0 {
				best, least = slices.Clone(orders), cost
			}
			return
		}
		for q := 15; q >= 0; q-- {
			orders[at] = q
			grow(at+1, cost+costs[at][q], left-q*prices[at])
		}
	}
	grow(0, 0, budget)
	return best, least
}

// ordersBySteps raises one order after the other, by the document's words.
func ordersBySteps(goods [][]int, over, under, units int) []int {
	costs := goodsCosts(goods, over, under)
	orders := make([]int, len(goods))
	for units > 0 {
		at, most := -1, 0
		for i := len(goods) - 1; i >= 0; i-- {
			if orders[i] == 15 {
				continue
			}
			if less := costs[i][orders[i]] - costs[i][orders[i]+1]; less > 0 && less >= most {
				at, most = i, less
			}
		}
		if at < 0 {
			break
		}
		orders[at]++
		units--
	}
	return orders
}

// checkBudget compares BudgetOrders.
func checkBudget(t *testing.T, goods [][]int, over, under int, prices []int, budget int) {
	t.Helper()
	want, _ := ordersByAll(goods, over, under, prices, budget)
	orders, ok := impl.BudgetOrders(goods, over, under, prices, budget)
	checkList(t, fmt.Sprint("BudgetOrders ", goods, over, under, prices, budget), orders, ok, want, true)
}

// checkSteps compares StepOrders.
func checkSteps(t *testing.T, goods [][]int, over, under, units int) {
	t.Helper()
	steps, ok := impl.StepOrders(goods, over, under, units)
	checkList(t, fmt.Sprint("StepOrders ", goods, over, under, units), steps, ok, ordersBySteps(goods, over, under, units), true)
}

func TestP5BudgetExamples(t *testing.T) {
	w, last, both := []int{1, 2, 1}, []int{0, 0, 4}, []int{2, 0, 2}
	far := onlyAt(15, 4, 0)
	for _, x := range []struct {
		goods       [][]int
		over, under int
		prices      []int
		budget      int
		want        []int
	}{
		{[][]int{w, last}, 1, 3, []int{1, 1}, 2, []int{0, 2}}, {[][]int{last, w}, 1, 3, []int{1, 1}, 2, []int{2, 0}}, {[][]int{w, last}, 1, 3, []int{1, 1}, 1, []int{0, 1}}, {[][]int{w, last}, 1, 3, []int{1, 1}, 3, []int{1, 2}},
		{[][]int{w, last}, 1, 3, []int{1, 1}, 60, []int{1, 2}}, {[][]int{w, last}, 1, 3, []int{1, 1}, 0, []int{0, 0}}, {[][]int{w, last}, 1, 3, []int{0, 0}, 0, []int{1, 2}}, {[][]int{w, last}, 1, 3, []int{0, 1}, 0, []int{1, 0}}, {[][]int{w, last}, 1, 3, []int{1, 0}, 0, []int{0, 2}},
		{[][]int{w}, 1, 3, []int{1}, 60, []int{1}}, {[][]int{w}, 1, 4, []int{1}, 60, []int{2}}, {[][]int{w}, 1, 4, []int{20}, 60, []int{2}}, {[][]int{w}, 1, 4, []int{20}, 40, []int{2}}, {[][]int{w}, 1, 4, []int{20}, 39, []int{1}}, {[][]int{w}, 1, 4, []int{20}, 20, []int{1}}, {[][]int{w}, 1, 4, []int{20}, 19, []int{0}},
		{[][]int{w, w}, 1, 3, []int{1, 1}, 1, []int{0, 1}}, {[][]int{w, w, w}, 1, 3, []int{1, 1, 1}, 1, []int{0, 0, 1}}, {[][]int{w, w, w}, 1, 3, []int{1, 1, 1}, 2, []int{0, 1, 1}}, {[][]int{w, w, w}, 1, 3, []int{1, 1, 2}, 2, []int{1, 1, 0}}, {[][]int{w, w, w}, 1, 3, []int{2, 1, 2}, 2, []int{0, 0, 1}}, {[][]int{w, w, w}, 1, 3, []int{2, 1, 3}, 2, []int{0, 1, 0}},
		{[][]int{w, last, both}, 0, 0, []int{1, 1, 1}, 60, []int{0, 0, 0}}, {[][]int{w, last, both}, 3, 0, []int{1, 1, 1}, 60, []int{0, 0, 0}}, {[][]int{w, last, both}, 0, 3, []int{1, 1, 1}, 60, []int{2, 2, 2}}, {[][]int{w, last, both}, 0, 3, []int{1, 1, 1}, 5, []int{1, 2, 2}},
		{[][]int{far, far, far}, 1, 1, []int{1, 1, 1}, 60, []int{15, 15, 15}}, {[][]int{far, far, far}, 1, 1, []int{1, 1, 1}, 44, []int{14, 15, 15}}, {[][]int{far, far, far}, 1, 1, []int{1, 1, 1}, 20, []int{0, 5, 15}}, {[][]int{far, far, far}, 1, 1, []int{2, 3, 4}, 60, []int{15, 10, 0}}, {[][]int{far, far, far}, 1, 1, []int{2, 2, 1}, 60, []int{7, 15, 15}}, {[][]int{far, far, far}, 20, 20, []int{20, 20, 20}, 60, []int{0, 0, 3}}, {[][]int{far, far}, 1, 1, []int{4, 1}, 60, []int{11, 15}},
		{[][]int{{5}}, 1, 1, []int{1}, 60, []int{0}}, {[][]int{{5}, {0, 5}, {2, 3}}, 1, 1, []int{1, 1, 1}, 60, []int{0, 1, 1}}, {[][]int{both, both}, 1, 1, []int{0, 0}, 60, []int{0, 0}}, {[][]int{both, last}, 1, 1, []int{0, 5}, 5, []int{0, 1}},
	} {
		orders, ok := impl.BudgetOrders(x.goods, x.over, x.under, x.prices, x.budget)
		checkList(t, fmt.Sprint("BudgetOrders ", x), orders, ok, x.want, true)
		checkBudget(t, x.goods, x.over, x.under, x.prices, x.budget)
	}
}

func TestP5StepExamples(t *testing.T) {
	w, last, both := []int{1, 2, 1}, []int{0, 0, 4}, []int{2, 0, 2}
	far := onlyAt(15, 4, 0)
	for _, x := range []struct {
		goods              [][]int
		over, under, units int
		want               []int
	}{
		{[][]int{w, last}, 1, 3, 0, []int{0, 0}}, {[][]int{w, last}, 1, 3, 1, []int{0, 1}}, {[][]int{w, last}, 1, 3, 2, []int{0, 2}}, {[][]int{w, last}, 1, 3, 3, []int{1, 2}}, {[][]int{w, last}, 1, 3, 4, []int{1, 2}}, {[][]int{w, last}, 1, 3, 60, []int{1, 2}},
		{[][]int{w}, 1, 4, 60, []int{2}}, {[][]int{w}, 1, 4, 1, []int{1}}, {[][]int{w, w, w}, 1, 3, 1, []int{1, 0, 0}}, {[][]int{w, w, w}, 1, 3, 2, []int{1, 1, 0}}, {[][]int{w, w, w}, 1, 4, 4, []int{2, 1, 1}}, {[][]int{last, last}, 1, 3, 3, []int{2, 1}},
		{[][]int{w, last, both}, 0, 0, 60, []int{0, 0, 0}}, {[][]int{w, last, both}, 3, 0, 60, []int{0, 0, 0}}, {[][]int{w, last, both}, 0, 3, 60, []int{2, 2, 2}}, {[][]int{w, last, both}, 0, 3, 5, []int{1, 2, 2}}, {[][]int{w, last, both}, 0, 3, 4, []int{1, 2, 1}},
		{[][]int{far, far, far}, 1, 1, 60, []int{15, 15, 15}}, {[][]int{far, far, far}, 1, 1, 45, []int{15, 15, 15}}, {[][]int{far, far, far}, 1, 1, 44, []int{15, 15, 14}}, {[][]int{far, far, far}, 0, 20, 20, []int{15, 5, 0}}, {[][]int{far}, 0, 20, 60, []int{15}},
		{[][]int{{5}}, 1, 1, 60, []int{0}}, {[][]int{{5}}, 0, 20, 60, []int{0}}, {[][]int{both, both}, 1, 1, 60, []int{0, 0}}, {[][]int{{5}, {0, 5}, {2, 3}}, 1, 1, 60, []int{0, 1, 1}},
	} {
		steps, ok := impl.StepOrders(x.goods, x.over, x.under, x.units)
		checkList(t, fmt.Sprint("StepOrders ", x), steps, ok, x.want, true)
		checkSteps(t, x.goods, x.over, x.under, x.units)
	}
}

// thrownGoods gives so many distributions with the same total.
func (d *dice) thrownGoods(count, most int) [][]int {
	first := d.thrownDistribution(1+d.throw(15), most)
	goods := [][]int{first}
	for len(goods) < count {
		w := make([]int, 1+d.throw(15))
		for left := sumsBySteps(first, 0).total; left > 0; {
			at := d.throw(len(w) - 1)
			part := min(1+d.throw(left-1), 1000-w[at])
			// Some places get all that is left, so that goods with few different demands come, too.
			if d.throw(9) == 0 {
				part = min(left, 1000-w[at])
			}
			w[at] += part
			left -= part
			if slices.Min(w) == 1000 {
				w = append(w, 0)
			}
		}
		goods = append(goods, w)
	}
	return goods
}

// thrownNumber gives a number in 0..most, quite often a bound.
func (d *dice) thrownNumber(most int) int {
	switch d.throw(6) {
	case 0:
		return 0
	case 1:
		return most
	}
	return d.throw(most)
}

func TestP5OrdersOfManyGoods(t *testing.T) {
	var d dice = 131
	changed := 0
	for i := range 500 {
		goods := d.thrownGoods(1+i%3, []int{2, 4, 9, 60}[i%4])
		over, under := d.thrownNumber(4+i%17), d.thrownNumber(4+i%17)
		var prices []int
		for range goods {
			prices = append(prices, d.thrownNumber(2+i%19))
		}
		for _, budget := range []int{d.thrownNumber(60), d.thrownNumber(20)} {
			checkBudget(t, goods, over, under, prices, budget)
			checkSteps(t, goods, over, under, budget)
			free, _ := impl.BudgetOrders(goods, over, under, make([]int, len(goods)), 0)
			kept, _ := impl.BudgetOrders(goods, over, under, prices, budget)
			if !slices.Equal(free, kept) {
				changed++
			}
		}
		if t.Failed() {
			return
		}
	}
	if changed < 200 {
		t.Error("too few budgets that change something", changed)
	}
}

func TestP5OrdersOfAllSmallGoods(t *testing.T) {
	groups := map[int][][]int{}
	for _, w := range smallDistributions() {
		total := sumsBySteps(w, 0).total
		groups[total] = append(groups[total], w)
	}
	for _, total := range []int{1, 2, 3} {
		for _, a := range groups[total] {
			for _, b := range groups[total] {
				goods := [][]int{a, b}
				for i, x := range [][2]int{{1, 1}, {1, 3}, {2, 1}, {0, 1}} {
					checkBudget(t, goods, x[0], x[1], []int{1 + i%2, 1}, i)
					checkSteps(t, goods, x[0], x[1], i)
				}
			}
		}
	}
}

// checkBestOfBudget looks at all lists of orders that keep a budget: none is to cost less, and none
// of those before it to cost as little.
func checkBestOfBudget(t *testing.T, goods [][]int, over, under int, prices []int, budget int, orders []int) {
	t.Helper()
	costOf := func(list []int) (int, int) {
		cost, price := 0, 0
		for i, q := range list {
			x, _ := impl.CostSum(goods[i], over, under, q)
			cost, price = cost+x, price+prices[i]*q
		}
		return cost, price
	}
	least, spent := costOf(orders)
	if spent > budget {
		t.Fatal("more than the budget", goods, prices, budget, orders)
	}
	for a := range 16 {
		for b := range 16 {
			list := []int{a, b}[:len(goods)]
			cost, price := costOf(list)
			if price <= budget && (cost < least || cost == least && slices.Compare(list, orders) < 0) {
				t.Fatal("not the first best orders", goods, over, under, prices, budget, orders, list)
			}
		}
	}
}

func TestP5BudgetOrdersAreTheFirstBestOnes(t *testing.T) {
	var d dice = 137
	for i := range 150 {
		goods := d.thrownGoods(1+i%2, 6)
		over, under, budget := d.thrownNumber(5), d.thrownNumber(20), d.thrownNumber(60)
		prices := []int{d.thrownNumber(20), d.thrownNumber(9)}[:len(goods)]
		orders, ok := impl.BudgetOrders(goods, over, under, prices, budget)
		if !ok || len(orders) != len(goods) {
			t.Fatal("no orders", goods, over, under, prices, budget)
		}
		checkBestOfBudget(t, goods, over, under, prices, budget, orders)
	}
}

func TestP5StepOrdersCostAsLittleAsBudgetOrders(t *testing.T) {
	var d dice = 139
	others := 0
	for i := range 400 {
		goods := d.thrownGoods(1+i%3, []int{2, 4, 9, 1000}[i%4])
		over, under := d.thrownNumber(20), d.thrownNumber(20)
		for _, units := range []int{0, 1, d.throw(44), 45, 60} {
			steps, ok := impl.StepOrders(goods, over, under, units)
			orders, fine := impl.BudgetOrders(goods, over, under, slices.Repeat([]int{1}, len(goods)), units)
			if !ok || !fine || len(steps) != len(goods) || len(orders) != len(goods) {
				t.Fatal("no orders", goods, over, under, units)
			}
			one, two, count := 0, 0, 0
			for j, w := range goods {
				x, ok := impl.CostSum(w, over, under, steps[j])
				y, _ := impl.CostSum(w, over, under, orders[j])
				if !ok {
					t.Fatal("no order", goods, steps)
				}
				one, two, count = one+x, two+y, count+steps[j]
			}
			if one != two || count > units {
				t.Fatal("steps cost more", goods, over, under, units, steps, orders)
			}
			if !slices.Equal(steps, orders) {
				others++
			}
		}
	}
	if others < 50 {
		t.Error("too few orders that are different", others)
	}
}

// goodsCalls calls both functions that take goods.
func goodsCalls(goods [][]int, over, under int, prices []int, most int) []lotCall {
	orders, ok1 := impl.BudgetOrders(goods, over, under, prices, most)
	steps, ok2 := impl.StepOrders(goods, over, under, most)
	return []lotCall{{"BudgetOrders", []any{orders}, ok1}, {"StepOrders", []any{steps}, ok2}}
}

func TestP5GoodsThatAreNone(t *testing.T) {
	w := []int{1, 2, 1}
	for _, goods := range [][][]int{
		nil, {}, {nil}, {{}}, {nil, w}, {w, nil}, {w, {}}, {w, w, w, w}, {w, w, w, nil}, slices.Repeat([][]int{w}, 5000), {{1}, {2}}, {w, {4, 0, 1}}, {{4}, {3}, {4}}, {{4}, {4}, {3}}, {{3}, {4}, {4}}, {{3}, {4}, {5}}, {{1000}, {500, 499}},
		{w, {5, -1}}, {{5, -1}, w}, {{2001, -1000}, {1001}}, {{1001}, {1001}}, {{0}, {0}}, {{0, 0}}, {{math.MaxInt}, {math.MaxInt}}, {w, {4, math.MaxInt, math.MinInt, 1}}, {slices.Repeat([]int{1}, 17)}, {w, w, slices.Repeat([]int{4}, 17)},
	} {
		for _, prices := range [][]int{nil, {1}, slices.Repeat([]int{1}, min(len(goods), 9)), make([]int, len(goods))} {
			checkAllFail(t, goodsCalls(goods, 1, 3, prices, 3))
			checkAllFail(t, goodsCalls(goods, 0, 0, prices, 0))
		}
	}
	for n := 1; n <= 3; n++ {
		checkNoneFails(t, goodsCalls(slices.Repeat([][]int{w}, n), 1, 3, slices.Repeat([]int{20}, n), 60))
		checkNoneFails(t, goodsCalls(slices.Repeat([][]int{{1000, 1000}}, n), 0, 0, make([]int, n), 0))
	}
	checkNoneFails(t, goodsCalls([][]int{{4}, w, onlyAt(15, 4, 0)}, 20, 20, []int{0, 20, 1}, 60))
}

func TestP5PricesBudgetsAndUnitsThatAreNone(t *testing.T) {
	w := []int{1, 2, 1}
	check := func(goods [][]int, prices []int, budget int) {
		t.Helper()
		orders, ok := impl.BudgetOrders(goods, 1, 3, prices, budget)
		checkList(t, fmt.Sprint("BudgetOrders ", goods, prices, budget), orders, ok, nil, false)
	}
	for n := 1; n <= 3; n++ {
		goods := slices.Repeat([][]int{w}, n)
		for _, bad := range beyond(20) {
			for at := range n {
				prices := slices.Repeat([]int{1}, n)
				prices[at] = bad
				check(goods, prices, 9)
			}
		}
		for _, prices := range [][]int{nil, {}, {1}, {1, 1}, {1, 1, 1}, {1, 1, 1, 1}, make([]int, 5000)} {
			if len(prices) != n {
				check(goods, prices, 9)
			}
		}
		for _, bad := range beyond(60) {
			checkAllFail(t, goodsCalls(goods, 1, 3, slices.Repeat([]int{1}, n), bad))
			checkAllFail(t, goodsCalls(goods, 0, 0, make([]int, n), bad))
		}
	}
}

// upToBySteps gives the least stock with which the period is best begun.
func upToBySteps(w []int, over, under, unit, setup, stock int) int {
	total := sumsBySteps(w, 0).total
	costs := map[int]int{}
	for y := stock; y <= 15; y++ {
		costs[y] = chanceCost(w, over, under, y) + total*unit*y
		if y > stock {
			costs[y] += total * setup
		}
	}
	best := stock
	for y := 15; y >= stock; y-- {
		if costs[y] < costs[best] || costs[y] == costs[best] && y < best {
			best = y
		}
	}
	return best
}

// checkBegun compares OrderUpTo for all stocks, and TriggerLevel.
func checkBegun(t *testing.T, w []int, over, under, unit, setup int) {
	t.Helper()
	what := fmt.Sprint(" ", w, over, under, unit, setup)
	want := -1
	for stock := range 16 {
		upTo, ok := impl.OrderUpTo(w, over, under, unit, setup, stock)
		least := upToBySteps(w, over, under, unit, setup, stock)
		checkNumber(t, fmt.Sprint("OrderUpTo", what, " ", stock), upTo, ok, least, true)
		if least > stock {
			want = stock
		}
	}
	level, ok := impl.TriggerLevel(w, over, under, unit, setup)
	checkNumber(t, "TriggerLevel"+what, level, ok, want, true)
}

func TestP5OrderUpToExamples(t *testing.T) {
	w, far := []int{1, 2, 1}, onlyAt(15, 1000, 0)
	for _, x := range []struct {
		w                                     []int
		over, under, unit, setup, stock, want int
	}{
		{w, 1, 3, 0, 0, 0, 1}, {w, 1, 3, 0, 1, 0, 1}, {w, 1, 3, 0, 2, 0, 0}, {w, 1, 3, 0, 3, 0, 0}, {w, 1, 3, 0, 0, 1, 1}, {w, 1, 3, 0, 0, 2, 2}, {w, 1, 3, 0, 0, 15, 15}, {w, 1, 4, 0, 0, 0, 2}, {w, 1, 4, 0, 0, 1, 2}, {w, 1, 4, 0, 1, 1, 1}, {w, 1, 4, 0, 1, 0, 2},
		{w, 1, 3, 1, 0, 0, 1}, {w, 1, 3, 2, 0, 0, 0}, {w, 1, 3, 3, 0, 0, 0}, {w, 1, 5, 1, 0, 0, 1}, {w, 1, 20, 1, 0, 0, 2}, {w, 1, 20, 20, 0, 0, 0}, {w, 0, 0, 0, 0, 0, 0}, {w, 0, 0, 0, 0, 7, 7}, {w, 20, 0, 0, 0, 15, 15}, {w, 0, 20, 0, 0, 0, 2}, {w, 0, 20, 0, 30, 0, 0},
		{far, 1, 1, 0, 0, 0, 15}, {far, 1, 1, 0, 0, 14, 15}, {far, 1, 1, 0, 0, 15, 15}, {far, 1, 1, 0, 1, 14, 14}, {far, 1, 1, 0, 1, 13, 15}, {far, 1, 2, 0, 30, 0, 0}, {far, 1, 3, 0, 30, 0, 15}, {far, 1, 3, 0, 30, 4, 15}, {far, 1, 3, 0, 30, 5, 5}, {far, 0, 20, 20, 0, 0, 0}, {far, 0, 20, 19, 0, 0, 15}, {far, 0, 20, 19, 14, 0, 15}, {far, 0, 20, 19, 15, 0, 0},
		{[]int{1}, 0, 20, 0, 0, 0, 0}, {[]int{1}, 20, 20, 20, 30, 15, 15}, {[]int{2, 0, 2}, 1, 1, 0, 0, 0, 0},
	} {
		upTo, ok := impl.OrderUpTo(x.w, x.over, x.under, x.unit, x.setup, x.stock)
		checkNumber(t, fmt.Sprint("OrderUpTo ", x), upTo, ok, x.want, true)
		checkBegun(t, x.w, x.over, x.under, x.unit, x.setup)
	}
}

func TestP5TriggerLevelExamples(t *testing.T) {
	w, far := []int{1, 2, 1}, onlyAt(15, 1000, 0)
	for _, x := range []struct {
		w                              []int
		over, under, unit, setup, want int
	}{
		{w, 1, 3, 0, 1, 0}, {w, 1, 3, 0, 0, 0}, {w, 1, 3, 0, 2, -1}, {w, 1, 3, 0, 30, -1}, {w, 1, 4, 0, 0, 1}, {w, 1, 4, 0, 1, 0}, {w, 0, 0, 0, 0, -1}, {w, 20, 0, 0, 0, -1}, {w, 0, 20, 0, 0, 1}, {w, 0, 20, 0, 30, -1}, {w, 0, 20, 20, 0, -1}, {w, 1, 20, 20, 30, -1},
		{far, 1, 1, 0, 0, 14}, {far, 1, 1, 0, 1, 13}, {far, 1, 1, 0, 14, 0}, {far, 1, 1, 0, 15, -1}, {far, 1, 3, 0, 30, 4}, {far, 0, 20, 0, 30, 13}, {far, 0, 20, 19, 0, 14}, {far, 0, 20, 20, 0, -1}, {[]int{1}, 0, 20, 0, 0, -1}, {onlyAt(14, 1, 0), 0, 1, 0, 0, 13},
	} {
		level, ok := impl.TriggerLevel(x.w, x.over, x.under, x.unit, x.setup)
		checkNumber(t, fmt.Sprint("TriggerLevel ", x), level, ok, x.want, true)
		checkBegun(t, x.w, x.over, x.under, x.unit, x.setup)
	}
}

func TestP5BegunOfAllDistributions(t *testing.T) {
	var d dice = 149
	for _, w := range allDistributions() {
		checkBegun(t, w, d.thrownNumber(20), d.thrownNumber(20), 0, d.thrownNumber(30))
		checkBegun(t, w, d.thrownNumber(4), d.thrownNumber(20), d.thrownNumber(9), d.thrownNumber(9))
		checkBegun(t, w, 1, 20, d.throw(3), d.thrownNumber(30))
		if t.Failed() {
			return
		}
	}
}

func TestP5OrderUpToIsTheSameUpToTheTriggerLevel(t *testing.T) {
	var d dice = 151
	none, low := 0, 0
	for _, w := range allDistributions() {
		for _, setup := range []int{0, 1, d.throw(30), 30} {
			over, under, unit := d.thrownNumber(6), d.thrownNumber(20), d.thrownNumber(6)
			level, ok := impl.TriggerLevel(w, over, under, unit, setup)
			if !ok || level < -1 || level > 15 {
				t.Fatal("no level", w, over, under, unit, setup, level)
			}
			first, _ := impl.OrderUpTo(w, over, under, unit, setup, 0)
			for stock := range 16 {
				upTo, ok := impl.OrderUpTo(w, over, under, unit, setup, stock)
				if !ok || stock <= level && (upTo != first || upTo <= stock) || stock > level && upTo != stock {
					t.Fatal("not the same", w, over, under, unit, setup, level, stock, upTo)
				}
			}
			if level < 0 {
				none++
			} else if first > level+1 {
				low++
			}
		}
	}
	if none < 100 || low < 100 {
		t.Error("too few levels of one kind", none, low)
	}
}

func TestP5WithoutUnitsAndSetupsTheCriticalOrderIsBest(t *testing.T) {
	for _, w := range allDistributions() {
		for _, x := range farCharges {
			q, _ := impl.CriticalOrder(w, x[0], x[1])
			upTo, ok := impl.OrderUpTo(w, x[0], x[1], 0, 0, 0)
			level, fine := impl.TriggerLevel(w, x[0], x[1], 0, 0)
			if !ok || !fine || upTo != q || level != q-1 {
				t.Fatal("not the critical order", w, x, q, upTo, level)
			}
		}
	}
}

func TestP5StocksUnitsAndSetupsThatAreNone(t *testing.T) {
	for _, w := range [][]int{{1}, {1, 2, 1}, slices.Repeat([]int{1000}, 16)} {
		check := func(unit, setup, stock int) {
			t.Helper()
			upTo, ok := impl.OrderUpTo(w, 1, 3, unit, setup, stock)
			checkNumber(t, fmt.Sprint("OrderUpTo ", w, unit, setup, stock), upTo, ok, 0, false)
		}
		checkLevel := func(unit, setup int) {
			t.Helper()
			level, ok := impl.TriggerLevel(w, 1, 3, unit, setup)
			checkNumber(t, fmt.Sprint("TriggerLevel ", w, unit, setup), level, ok, 0, false)
			for _, stock := range []int{0, 1, 15} {
				check(unit, setup, stock)
			}
		}
		for _, bad := range beyond(15) {
			check(0, 0, bad)
			check(1, 1, bad)
			check(20, 30, bad)
		}
		for _, bad := range beyond(20) {
			checkLevel(bad, 0)
			checkLevel(bad, 30)
		}
		for _, bad := range beyond(30) {
			checkLevel(0, bad)
			checkLevel(20, bad)
		}
	}
}

// chances are arguments of the functions of the chapter.
type chances struct {
	a, b   []int
	goods  [][]int
	prices []int
	// charges are over and under, numbers those of all other numbers.
	charges [2]int
	numbers []int
}

// chanceCalls calls each function of the chapter.
func chanceCalls(x chances) []lotCall {
	var calls []lotCall
	add := func(name string, result any, ok bool) { calls = append(calls, lotCall{name, []any{result}, ok}) }
	add("IsDistribution", impl.IsDistribution(x.a), true)
	total, ok := impl.TotalWeight(x.a)
	add("TotalWeight", total, ok)
	mean, ok := impl.MeanSum(x.a)
	add("MeanSum", mean, ok)
	over, under := x.charges[0], x.charges[1]
	q, ok := impl.CriticalOrder(x.a, over, under)
	add("CriticalOrder", q, ok)
	best, ok := impl.BestOrders(x.a, over, under)
	add("BestOrders", best, ok)
	calls = append(calls, pairsOfChances(x.a, x.b)...)
	calls = append(calls, pairsOfChances(x.b, x.a)...)
	calls = append(calls, pairsOfChances(x.a, x.a)...)
	for i, n := range x.numbers {
		upTo, ok := impl.WeightUpTo(x.a, n)
		add("WeightUpTo", upTo, ok)
		left, ok := impl.OverSum(x.a, n)
		add("OverSum", left, ok)
		short, ok := impl.ShortSum(x.a, n)
		add("ShortSum", short, ok)
		cost, ok := impl.CostSum(x.a, over, under, n)
		add("CostSum", cost, ok)
		calls = append(calls, goodsCalls(x.goods, over, under, x.prices, n)...)
		other := x.numbers[(i+1)%len(x.numbers)]
		begun, ok := impl.OrderUpTo(x.a, over, under, other, n, n)
		add("OrderUpTo", begun, ok)
		level, ok := impl.TriggerLevel(x.a, over, under, other, n)
		add("TriggerLevel", level, ok)
	}
	return calls
}

// manyChances gives arguments of which all are valid, and others of which some are not.
func manyChances() []chances {
	var d dice = 157
	bad := noDistributions()
	var found []chances
	for i := range 240 {
		a, b := d.thrownDistribution(1+i%16, 30), d.thrownDistribution(1+d.throw(15), 30)
		goods := d.thrownGoods(1+i%3, 9)
		prices := []int{d.throw(20), d.throw(3), 1}[:len(goods)]
		charges := farCharges[i%len(farCharges)]
		x := chances{a, b, goods, prices, charges, []int{0, d.throw(15), 15}}
		found = append(found, x)
		x.a, x.b = a[:1+len(a)/2], b[:1+len(b)/3]
		found = append(found, x)
		x.a, x.numbers = bad[i%len(bad)], farOrders
		found = append(found, x)
		x.a, x.b = b, bad[i%len(bad)]
		found = append(found, x)
		x.goods = append(slices.Clone(goods), bad[i%len(bad)])
		found = append(found, x)
		x.goods, x.prices = goods, bad[i%len(bad)]
		found = append(found, x)
		x.charges = [2]int{farOrders[i%len(farOrders)], farOrders[i/3%len(farOrders)]}
		found = append(found, x)
	}
	return append(found, chances{}, chances{numbers: farOrders})
}

func TestP13WhereChanceFunctionsFailAllResultsAreZero(t *testing.T) {
	failing := 0
	for _, x := range manyChances() {
		calls := chanceCalls(x)
		checkZeroBesideFalse(t, calls, false)
		for _, call := range calls {
			if !call.ok {
				failing++
			}
		}
	}
	if failing < 1000 {
		t.Error("too few calls that fail", failing)
	}
}

// roomy gives the same arguments in memory that goes on behind them, and all this memory.
func roomy(x chances) (chances, [][]int) {
	memory := make([][]int, 3)
	x.a, memory[0] = withRoom(x.a)
	x.b, memory[1] = withRoom(x.b)
	x.prices, memory[2] = withRoom(x.prices)
	goods := make([][]int, len(x.goods))
	for i := range x.goods {
		var all []int
		goods[i], all = withRoom(x.goods[i])
		memory = append(memory, all)
	}
	x.goods = append(goods, []int{81}, []int{82}, []int{83}, []int{84})[:len(goods)]
	return x, memory
}

// deepCopy gives the same arguments, with the goods behind the list, in other memory.
func deepCopy(x chances) chances {
	x.a, x.b, x.prices = slices.Clone(x.a), slices.Clone(x.b), slices.Clone(x.prices)
	var goods [][]int
	for _, w := range x.goods[:cap(x.goods)] {
		goods = append(goods, slices.Clone(w))
	}
	x.goods = goods
	return x
}

func TestP13ChanceFunctionsLeaveTheirArguments(t *testing.T) {
	for _, x := range manyChances() {
		given, memory := roomy(x)
		before := deepCopy(given)
		var lists [][]int
		for _, all := range memory {
			lists = append(lists, slices.Clone(all))
		}
		calls := chanceCalls(given)
		checkResultsAreApart(t, calls)
		if !slices.EqualFunc(memory, lists, slices.Equal[[]int]) || !reflect.DeepEqual(deepCopy(given), before) {
			t.Fatal("changed", x, given, memory)
		}
		for i, call := range chanceCalls(x) {
			if call.ok != calls[i].ok {
				t.Fatal("another answer", x, call, calls[i])
			}
		}
	}
}

func TestP13ChanceFunctionsReturnTheSameAgain(t *testing.T) {
	for _, x := range manyChances() {
		first := fmt.Sprint(chanceCalls(x))
		checkResultsAreApart(t, chanceCalls(x))
		if second := fmt.Sprint(chanceCalls(x)); first != second {
			t.Fatal("another result", first, second)
		}
	}
}

func TestP13NilAndEmptyListsOfChances(t *testing.T) {
	for _, none := range [][]int{nil, {}} {
		x := chances{none, none, [][]int{none}, none, [2]int{1, 1}, farOrders}
		for _, call := range chanceCalls(x) {
			if call.name == "IsDistribution" {
				checkAnswer(t, "IsDistribution of none", call.results[0].(bool), true, false, true)
			} else {
				checkAllFail(t, []lotCall{call})
			}
		}
	}
}
