package tests

import (
	"fmt"
	"math"
	"math/big"
	"slices"
	"testing"

	"loop.example/g01111/impl"
)

// farNumbers are numbers within the bounds of periods and on both sides of them.
var farNumbers = []int{math.MinInt, math.MinInt32, -9, -8, -2, -1, 0, 1, 2, 3, 4, 5, 6, 7, 8, 9, 10, 1 << 32, math.MaxInt}

// noRules are numbers beside the three rules.
var noRules = []int{math.MinInt, math.MinInt32, -3, -2, -1, 0, 4, 5, 6, 7, 1<<32 + 1, math.MaxInt}

// allCases gives the Cases of chapter 2, small and full ones.
func allCases() []impl.Case {
	return append(smallCases(), fullCases()...)
}

// rateBySteps gives the rate from i to t, by the document's words.
func rateBySteps(c impl.Case, i, t int) int {
	rate := c.Unit[i]
	for s := i; s < t; s++ {
		rate += c.Hold[s]
	}
	return rate
}

// needBySteps gives the sum of the Needs of the periods i..j-1.
func needBySteps(c impl.Case, i, j int) int {
	sum := 0
	for t := i; t < j; t++ {
		sum += c.Need[t]
	}
	return sum
}

// spanBySteps gives the span cost from i to j, each Need times its rate.
func spanBySteps(c impl.Case, i, j int) int {
	if needBySteps(c, i, j) == 0 {
		return 0
	}
	cost := c.Setup[i]
	for t := i; t < j; t++ {
		cost += c.Need[t] * rateBySteps(c, i, t)
	}
	return cost
}

// partOf gives the Case of the periods from i on up to the one before j.
func partOf(c impl.Case, i, j int) impl.Case {
	return impl.Case{Need: c.Need[i:j], Setup: c.Setup[i:j], Unit: c.Unit[i:j], Hold: c.Hold[i:j]}
}

// tables are what chapter 3 finds in the tables of a Case.
type tables struct {
	forward, backward, lasts, periods, turns, horizons []int
}

// tablesBySteps finds them by the document's words, the costs by looking at all order periods.
func tablesBySteps(c impl.Case) tables {
	var x tables
	n := len(c.Need)
	for j := range n + 1 {
		_, front := bestByAll(partOf(c, 0, j))
		_, back := bestByAll(partOf(c, j, n))
		x.forward, x.backward = append(x.forward, front), append(x.backward, back)
	}
	for j := 1; j <= n; j++ {
		last := j - 1
		for x.forward[last]+spanBySteps(c, last, j) != x.forward[j] {
			last--
		}
		x.lasts = append(x.lasts, last)
		if last == j-1 && c.Need[j-1] > 0 {
			x.horizons = append(x.horizons, j)
		}
	}
	for j := n; j > 0; j = x.lasts[j-1] {
		if i := x.lasts[j-1]; needBySteps(c, i, j) > 0 {
			x.periods = slices.Insert(x.periods, 0, i)
		}
	}
	for t := range n + 1 {
		if x.forward[t]+x.backward[t] == x.forward[n] {
			x.turns = append(x.turns, t)
		}
	}
	return x
}

// checkTables compares all the functions of the tables of a Case.
func checkTables(t *testing.T, c impl.Case, want tables) {
	t.Helper()
	what := fmt.Sprintf("(%v)", c)
	got, ok := impl.ForwardCosts(c)
	checkList(t, "ForwardCosts"+what, got, ok, want.forward, true)
	got, ok = impl.BackwardCosts(c)
	checkList(t, "BackwardCosts"+what, got, ok, want.backward, true)
	got, ok = impl.LastOrders(c)
	checkList(t, "LastOrders"+what, got, ok, want.lasts, true)
	got, ok = impl.TablePeriods(c)
	checkList(t, "TablePeriods"+what, got, ok, want.periods, true)
	got, ok = impl.TurningPeriods(c)
	checkList(t, "TurningPeriods"+what, got, ok, want.turns, true)
	got, ok = impl.HorizonsOf(c)
	checkList(t, "HorizonsOf"+what, got, ok, want.horizons, true)
}

// arePrices reports whether a list of any numbers has a price for each period.
func arePrices(c impl.Case, prices []int) bool {
	for _, x := range prices {
		if x < 0 || x > 9999 {
			return false
		}
	}
	return len(prices) == len(c.Need)
}

// claimBySteps gives the claim of a period by prices, of which there may be fewer than periods.
func claimBySteps(c impl.Case, prices []int, i int) int {
	claim := 0
	for t := i; t < len(prices); t++ {
		if more := prices[t] - c.Need[t]*rateBySteps(c, i, t); more > 0 {
			claim += more
		}
	}
	return claim
}

// fairBySteps reports whether prices are fair.
func fairBySteps(c impl.Case, prices []int) bool {
	for t := range prices {
		if claimBySteps(c, prices, t) > c.Setup[t] || c.Need[t] == 0 && prices[t] != 0 {
			return false
		}
	}
	return true
}

// pricesBySteps gives the prices that are found period by period, by the document's words.
func pricesBySteps(c impl.Case) []int {
	var prices []int
	for t, need := range c.Need {
		var sums []int
		for i := 0; i <= t && need > 0; i++ {
			sums = append(sums, need*rateBySteps(c, i, t)+c.Setup[i]-claimBySteps(c, prices, i))
		}
		prices = append(prices, slices.Min(append(sums, 1<<40*min(need, 1))))
	}
	return prices
}

// checkPrices compares the functions of a list that has prices, or that has none, and a plan.
func checkPrices(t *testing.T, c impl.Case, prices, plan []int) {
	t.Helper()
	var claims []int
	sum := 0
	are := arePrices(c, prices)
	for i := 0; i < len(prices) && are; i++ {
		claims = append(claims, claimBySteps(c, prices, i))
		sum += prices[i]
	}
	fair := are && fairBySteps(c, prices)
	what := fmt.Sprintf("(%v, %v)", c, prices)
	got, ok := impl.ClaimsOf(c, prices)
	checkList(t, "ClaimsOf"+what, got, ok, claims, are)
	answer, ok := impl.AreFair(c, prices)
	checkAnswer(t, "AreFair"+what, answer, ok, fair, are)
	_, is := stocksBySteps(c, plan)
	proof := fair && is && costBySteps(c, plan) == sum
	answer, ok = impl.IsPriceProof(c, prices, plan)
	checkAnswer(t, fmt.Sprint("IsPriceProof", what, plan), answer, ok, proof, fair && is)
}

// goodBySteps reports whether a rule has the period j in the span from i, too.
func goodBySteps(c impl.Case, rule, i, j int) bool {
	one, two := int64(spanBySteps(c, i, j)), int64(spanBySteps(c, i, j+1))
	switch rule {
	case 1:
		return big.NewRat(two, int64(j+1-i)).Cmp(big.NewRat(one, int64(j-i))) <= 0
	case 2:
		return big.NewRat(two, int64(needBySteps(c, i, j+1))).Cmp(big.NewRat(one, int64(needBySteps(c, i, j)))) <= 0
	}
	held := 0
	for t := i; t <= j; t++ {
		held += c.Need[t] * (rateBySteps(c, i, t) - c.Unit[i])
	}
	return held <= c.Setup[i]
}

// ruleBySteps gives the order periods by a rule, by the document's words.
func ruleBySteps(c impl.Case, rule int) []int {
	var periods []int
	for t := 0; t < len(c.Need); {
		if c.Need[t] == 0 {
			t++
			continue
		}
		periods = append(periods, t)
		j := t + 1
		for j < len(c.Need) && goodBySteps(c, rule, t, j) {
			j++
		}
		t = j
	}
	return periods
}

// checkRules compares the functions of the three rules with what is wanted of them, and with all
// order periods.
func checkRules(t *testing.T, c impl.Case, want [3][]int) {
	t.Helper()
	_, least := bestByAll(c)
	for k, periods := range want {
		what := fmt.Sprintf("(%v, %d)", c, k+1)
		got, ok := impl.RulePeriods(c, k+1)
		checkList(t, "RulePeriods"+what, got, ok, periods, true)
		plan, fine := planBySteps(c, periods)
		gap, ok := impl.RuleGap(c, k+1)
		checkNumber(t, "RuleGap"+what, gap, ok, costBySteps(c, plan)-least, true)
		if !fine || gap < 0 {
			t.Errorf("%s: no plan from %v, or one that costs too little: %d", what, periods, gap)
		}
	}
}

func TestHorizonBounds(t *testing.T) {
	if impl.MaxCasePrice != 9999 || impl.RulePeriod != 1 || impl.RuleUnit != 2 || impl.RulePart != 3 {
		t.Error("bounds", impl.MaxCasePrice, impl.RulePeriod, impl.RuleUnit, impl.RulePart)
	}
}

func TestP3RateExamples(t *testing.T) {
	c := caseOf([4]int{3, 5, 1, 2}, [4]int{0, 6, 4, 7}, [4]int{4, 8, 9, 0}, [4]int{1, 0, 0, 5})
	for _, x := range []struct{ i, t, want int }{
		{0, 0, 1}, {0, 1, 3}, {0, 2, 10}, {0, 3, 10}, {1, 1, 4}, {1, 2, 11}, {1, 3, 11}, {2, 2, 9}, {2, 3, 9}, {3, 3, 0},
	} {
		rate, ok := impl.RateOf(c, x.i, x.t)
		checkNumber(t, fmt.Sprint("RateOf ", x.i, x.t), rate, ok, x.want, true)
	}
	rate, ok := impl.RateOf(sameRows(8, [4]int{20, 99, 9, 9}), 0, 7)
	checkNumber(t, "the greatest rate", rate, ok, 72, true)
	rate, ok = impl.RateOf(sameRows(8, [4]int{}), 0, 7)
	checkNumber(t, "the least rate", rate, ok, 0, true)
}

func TestP3SpanExamples(t *testing.T) {
	c := caseOf([4]int{3, 5, 1, 2}, [4]int{0, 6, 4, 7}, [4]int{4, 8, 9, 0}, [4]int{0, 7, 2, 5}, [4]int{0, 0, 0, 5})
	for _, x := range []struct{ i, j, want int }{
		{0, 1, 8}, {0, 2, 8}, {0, 3, 48}, {0, 4, 48}, {0, 5, 48}, {1, 2, 0}, {1, 3, 50}, {1, 4, 50}, {1, 5, 50},
		{2, 3, 44}, {2, 4, 44}, {2, 5, 44}, {3, 4, 0}, {3, 5, 0}, {4, 5, 0},
	} {
		cost, ok := impl.SpanCost(c, x.i, x.j)
		checkNumber(t, fmt.Sprint("SpanCost ", x.i, x.j), cost, ok, x.want, true)
	}
	cost, ok := impl.SpanCost(sameRows(8, [4]int{20, 99, 9, 9}), 0, 8)
	checkNumber(t, "the greatest span cost", cost, ok, 6579, true)
	cost, ok = impl.SpanCost(sameRows(8, [4]int{0, 99, 9, 9}), 0, 8)
	checkNumber(t, "the cost of no Needs", cost, ok, 0, true)
	cost, ok = impl.SpanCost(sameRows(8, [4]int{20, 0, 0, 0}), 0, 8)
	checkNumber(t, "the cost where nothing costs anything", cost, ok, 0, true)
}

func TestP3RatesAndSpansAllNumbers(t *testing.T) {
	cases := append(fullCases()[:60], fullCases()[600:660]...)
	for _, c := range append(cases, impl.Case{}, sameRows(8, [4]int{20, 99, 9, 9})) {
		n := len(c.Need)
		for _, i := range farNumbers {
			for _, j := range farNumbers {
				rate, cost := 0, 0
				isRate := 0 <= i && i <= j && j < n
				isSpan := 0 <= i && i < j && j <= n
				if isRate {
					rate = rateBySteps(c, i, j)
				}
				if isSpan {
					cost = spanBySteps(c, i, j)
				}
				got, ok := impl.RateOf(c, i, j)
				checkNumber(t, fmt.Sprint("RateOf ", c, i, j), got, ok, rate, isRate)
				got, ok = impl.SpanCost(c, i, j)
				checkNumber(t, fmt.Sprint("SpanCost ", c, i, j), got, ok, cost, isSpan)
			}
		}
	}
}

func TestP3SpanIsThePlanOfItsPart(t *testing.T) {
	for _, c := range fullCases() {
		for j := 1; j <= len(c.Need); j++ {
			for i := range j {
				part, _ := impl.CutCase(c, i, j)
				plan, _ := impl.PlanFrom(part, []int{0})
				want, _ := impl.PlanCost(part, plan)
				cost, ok := impl.SpanCost(c, i, j)
				checkNumber(t, fmt.Sprint("SpanCost ", c, i, j), cost, ok, want, true)
			}
		}
	}
}

func TestP3TableExamples(t *testing.T) {
	for _, x := range []struct {
		c    impl.Case
		want tables
	}{
		{impl.Case{}, tables{[]int{0}, []int{0}, nil, nil, []int{0}, nil}},
		{caseOf([4]int{4, 5, 2, 1}), tables{[]int{0, 13}, []int{13, 0}, []int{0}, []int{0}, []int{0, 1}, []int{1}}},
		{caseOf([4]int{0, 5, 2, 1}), tables{[]int{0, 0}, []int{0, 0}, []int{0}, nil, []int{0, 1}, nil}},
		{caseOf([4]int{4, 0, 0, 0}), tables{[]int{0, 0}, []int{0, 0}, []int{0}, []int{0}, []int{0, 1}, []int{1}}},
		// No Need at the beginning, in the middle, at the end, and in all periods.
		{caseOf([4]int{0, 9, 1, 0}, [4]int{3, 5, 1, 1}), tables{[]int{0, 0, 8}, []int{8, 8, 0}, []int{0, 1}, []int{1}, []int{0, 1, 2}, []int{2}}},
		{caseOf([4]int{0, 2, 1, 0}, [4]int{3, 5, 1, 1}), tables{[]int{0, 0, 5}, []int{5, 8, 0}, []int{0, 0}, []int{0}, []int{0, 2}, nil}},
		{caseOf([4]int{2, 5, 1, 1}, [4]int{0, 5, 1, 1}, [4]int{3, 4, 1, 1}), tables{[]int{0, 7, 7, 14}, []int{14, 7, 7, 0}, []int{0, 1, 2}, []int{0, 2}, []int{0, 1, 2, 3}, []int{1, 3}}},
		{caseOf([4]int{1, 5, 0, 1}, [4]int{0, 5, 0, 1}, [4]int{0, 5, 0, 1}), tables{[]int{0, 5, 5, 5}, []int{5, 0, 0, 0}, []int{0, 1, 2}, []int{0}, []int{0, 1, 2, 3}, []int{1}}},
		{sameRows(3, [4]int{0, 5, 1, 1}), tables{[]int{0, 0, 0, 0}, []int{0, 0, 0, 0}, []int{0, 1, 2}, nil, []int{0, 1, 2, 3}, nil}},
		// Two orders that cost the same: the last one counts, though BestPeriods has the other one.
		{caseOf([4]int{1, 5, 0, 1}, [4]int{1, 1, 0, 0}), tables{[]int{0, 5, 6}, []int{6, 1, 0}, []int{0, 1}, []int{0, 1}, []int{0, 1, 2}, []int{1, 2}}},
		{caseOf([4]int{1, 5, 0, 1}, [4]int{1, 2, 0, 0}), tables{[]int{0, 5, 6}, []int{6, 2, 0}, []int{0, 0}, []int{0}, []int{0, 2}, []int{1}}},
		{sameRows(3, [4]int{2, 0, 1, 0}), tables{[]int{0, 2, 4, 6}, []int{6, 4, 2, 0}, []int{0, 1, 2}, []int{0, 1, 2}, []int{0, 1, 2, 3}, []int{1, 2, 3}}},
		// Where one waits, an order before a horizon may be better in the end.
		{caseOf([4]int{0, 10, 0, 0}, [4]int{1, 0, 5, 0}, [4]int{20, 0, 5, 0}), tables{[]int{0, 0, 5, 10}, []int{10, 105, 100, 0}, []int{0, 1, 0}, []int{0}, []int{0, 3}, []int{2}}},
	} {
		checkTables(t, x.c, x.want)
		found := tablesBySteps(x.c)
		if fmt.Sprint(found) != fmt.Sprint(x.want) {
			t.Error("the example is wrong", x.c, found)
		}
	}
}

func TestP3TablesAtTheLimits(t *testing.T) {
	every := []int{0, 1, 2, 3, 4, 5, 6, 7}
	turns := []int{0, 1, 2, 3, 4, 5, 6, 7, 8}
	checkTables(t, sameRows(8, [4]int{20, 99, 9, 9}), tables{
		[]int{0, 279, 558, 837, 1116, 1395, 1674, 1953, 2232}, []int{2232, 1953, 1674, 1395, 1116, 837, 558, 279, 0}, every, every, turns, turns[1:],
	})
	checkTables(t, sameRows(8, [4]int{20, 99, 9, 0}), tables{
		[]int{0, 279, 459, 639, 819, 999, 1179, 1359, 1539}, []int{1539, 1359, 1179, 999, 819, 639, 459, 279, 0}, make([]int, 8), []int{0}, []int{0, 8}, []int{1},
	})
	checkTables(t, sameRows(8, [4]int{20, 0, 0, 0}), tables{make([]int, 9), make([]int, 9), every, every, turns, turns[1:]})
	checkTables(t, sameRows(8, [4]int{}), tables{make([]int, 9), make([]int, 9), every, nil, turns, nil})
}

func TestP3TablesOfManyCases(t *testing.T) {
	for _, c := range allCases() {
		checkTables(t, c, tablesBySteps(c))
		if t.Failed() {
			return
		}
	}
}

func TestP3TablesEndInTheLeastCost(t *testing.T) {
	for _, c := range allCases() {
		n := len(c.Need)
		least, _ := impl.BestCost(c)
		forward, one := impl.ForwardCosts(c)
		backward, two := impl.BackwardCosts(c)
		if !one || !two || len(forward) != n+1 || len(backward) != n+1 || forward[n] != least || backward[0] != least || forward[0] != 0 || backward[n] != 0 {
			t.Fatal("not the least cost", c, forward, backward, least)
		}
		for j := range n + 1 {
			front, _ := impl.CutCase(c, 0, j)
			back, _ := impl.CutCase(c, j, n)
			a, _ := impl.BestCost(front)
			b, _ := impl.BestCost(back)
			if forward[j] != a || backward[j] != b {
				t.Fatal("not the least cost of a part", c, j, forward, backward, a, b)
			}
		}
		periods, _ := impl.TablePeriods(c)
		plan, ok := impl.PlanFrom(c, periods)
		cost, fine := impl.PlanCost(c, plan)
		if !ok || !fine || cost != least {
			t.Fatal("TablePeriods are not best", c, periods, cost, least)
		}
	}
}

// leastByPlans gives the least cost of all plans.
func leastByPlans(c impl.Case) int {
	least := math.MaxInt
	for _, plan := range allPlans(c) {
		least = min(least, costBySteps(c, plan))
	}
	return least
}

func TestP3TablesHaveTheCostsOfAllPlans(t *testing.T) {
	for _, c := range smallCases() {
		forward, one := impl.ForwardCosts(c)
		backward, two := impl.BackwardCosts(c)
		for j := range len(c.Need) + 1 {
			a, b := leastByPlans(partOf(c, 0, j)), leastByPlans(partOf(c, j, len(c.Need)))
			if !one || !two || forward[j] != a || backward[j] != b {
				t.Fatal("another cost than that of all plans", c, j, forward, backward, a, b)
			}
		}
	}
}

func TestP3TurningPeriodsAreEmptyInSomeBestPlan(t *testing.T) {
	for _, c := range smallCases() {
		least, _ := impl.BestCost(c)
		reached := map[int]bool{0: true}
		for _, plan := range allPlans(c) {
			if costBySteps(c, plan) != least {
				continue
			}
			stocks, _ := stocksBySteps(c, plan)
			for t, stock := range stocks {
				if stock == 0 {
					reached[t+1] = true
				}
			}
		}
		turns, ok := impl.TurningPeriods(c)
		for j := range len(c.Need) + 1 {
			if !ok || reached[j] != slices.Contains(turns, j) {
				t.Fatal("turning periods", c, turns, reached)
			}
		}
	}
}

// waitingNever gives Cases of which WaitsNever reports true.
func waitingNever() []impl.Case {
	cases := allCases()
	for _, c := range fullCases() {
		d := copyCase(c)
		for t := 1; t < len(d.Need); t++ {
			d.Unit[t] = min(d.Unit[t], d.Unit[t-1]+d.Hold[t-1])
		}
		cases = append(cases, d)
	}
	return slices.DeleteFunc(cases, func(c impl.Case) bool {
		never, _ := impl.WaitsNever(c)
		return !never
	})
}

func TestP3HorizonsOfCasesThatNeverWait(t *testing.T) {
	found := 0
	for _, c := range waitingNever() {
		turns, one := impl.TurningPeriods(c)
		horizons, two := impl.HorizonsOf(c)
		if !one || !two {
			t.Fatal("no horizons", c)
		}
		for _, h := range horizons {
			found++
			if !slices.Contains(turns, h-1) {
				t.Fatal("a horizon without a turning period", c, h, turns)
			}
		}
	}
	if found < 1000 {
		t.Error("too few horizons", found)
	}
}

func TestP3HorizonsLastWhateverComes(t *testing.T) {
	var d dice = 47
	found := 0
	for range 3000 {
		front, back := d.thrownCase(3, 9, 30, 3), d.thrownCase(d.throw(5), 20, 99, 3)
		c, _ := impl.JoinCases(front, back)
		if never, _ := impl.WaitsNever(c); !never {
			continue
		}
		turns, _ := impl.TurningPeriods(c)
		horizons, _ := impl.HorizonsOf(front)
		for _, h := range horizons {
			found++
			if !slices.Contains(turns, h-1) {
				t.Fatal("what comes later changes what is before a horizon", c, h, turns)
			}
		}
	}
	if found < 100 {
		t.Error("too few horizons", found)
	}
}

func TestP3ClaimExamples(t *testing.T) {
	c := caseOf([4]int{2, 5, 1, 1}, [4]int{0, 5, 1, 1}, [4]int{3, 4, 1, 1})
	for _, x := range []struct{ prices, want []int }{
		{[]int{7, 0, 7}, []int{5, 1, 4}}, {[]int{0, 0, 0}, []int{0, 0, 0}}, {[]int{2, 0, 3}, []int{0, 0, 0}}, {[]int{3, 0, 4}, []int{1, 0, 1}},
		{[]int{2, 0, 9}, []int{0, 3, 6}}, {[]int{2, 0, 10}, []int{1, 4, 7}}, {[]int{0, 6, 3}, []int{6, 6, 0}}, {[]int{5, 1, 12}, []int{7, 7, 9}},
		{[]int{9999, 9999, 9999}, []int{29986, 19992, 9996}},
	} {
		claims, ok := impl.ClaimsOf(c, x.prices)
		checkList(t, fmt.Sprint("ClaimsOf ", x.prices), claims, ok, x.want, true)
		checkPrices(t, c, x.prices, []int{2, 0, 3})
	}
	claims, ok := impl.ClaimsOf(sameRows(8, [4]int{}), slices.Repeat([]int{9999}, 8))
	checkList(t, "the greatest claims", claims, ok, []int{79992, 69993, 59994, 49995, 39996, 29997, 19998, 9999}, true)
}

func TestP3FairExamples(t *testing.T) {
	c := caseOf([4]int{2, 5, 1, 1}, [4]int{0, 5, 1, 1}, [4]int{3, 4, 1, 1})
	for _, x := range []struct {
		prices []int
		want   bool
	}{
		{[]int{7, 0, 7}, true}, {[]int{0, 0, 0}, true}, {[]int{7, 0, 0}, true}, {[]int{0, 0, 7}, true},
		// A claim of the Setup and 1, of the first period, of the last one, and by a price behind it.
		{[]int{8, 0, 7}, false}, {[]int{8, 0, 0}, false}, {[]int{7, 0, 8}, false}, {[]int{0, 0, 8}, false},
		// A price where nothing is needed, though it claims no more than the Setup.
		{[]int{0, 1, 0}, false}, {[]int{2, 5, 3}, false}, {[]int{9999, 9999, 9999}, false},
	} {
		fair, ok := impl.AreFair(c, x.prices)
		checkAnswer(t, fmt.Sprint("AreFair ", x.prices), fair, ok, x.want, true)
	}
	// The claim of a middle period, and of an earlier one by a later price alone.
	c = caseOf([4]int{1, 9, 0, 1}, [4]int{1, 3, 0, 0}, [4]int{2, 9, 0, 9})
	for _, x := range []struct {
		prices []int
		want   bool
	}{
		{[]int{0, 3, 0}, true}, {[]int{0, 4, 0}, false}, {[]int{0, 0, 3}, true}, {[]int{0, 0, 4}, false}, {[]int{0, 1, 2}, true}, {[]int{0, 2, 2}, false},
		{[]int{9, 0, 2}, true}, {[]int{9, 1, 2}, true}, {[]int{9, 2, 1}, false}, {[]int{9, 1, 3}, false}, {[]int{10, 0, 0}, false},
	} {
		fair, ok := impl.AreFair(c, x.prices)
		checkAnswer(t, fmt.Sprint("AreFair ", x.prices), fair, ok, x.want, true)
	}
}

func TestP3PricesThatAreNone(t *testing.T) {
	c := caseOf([4]int{20, 99, 9, 1}, [4]int{0, 5, 1, 1}, [4]int{3, 0, 1, 1})
	plan := []int{20, 0, 3}
	for _, prices := range [][]int{
		nil, {}, {0}, {0, 0}, {0, 0, 0, 0}, {-1, 0, 0}, {0, -1, 0}, {0, 0, -1}, {10000, 0, 0}, {0, 10000, 0}, {0, 0, 10000},
		{math.MaxInt, 0, 0}, {0, 0, math.MinInt}, {math.MaxInt, math.MaxInt, 2}, {1 << 32, 0, 0}, make([]int, 5000),
	} {
		if arePrices(c, prices) {
			t.Fatal("these are prices", prices)
		}
		checkPrices(t, c, prices, plan)
		checkPrices(t, impl.Case{}, append([]int{0}, prices...), nil)
	}
	for _, prices := range [][]int{{9999, 0, 0}, {0, 9999, 0}, {0, 0, 9999}} {
		fair, ok := impl.AreFair(c, prices)
		checkAnswer(t, fmt.Sprint("AreFair ", prices), fair, ok, false, true)
		checkPrices(t, c, prices, plan)
	}
}

func TestP3PricesWithoutPeriods(t *testing.T) {
	var c impl.Case
	for _, none := range [][]int{nil, {}} {
		claims, ok := impl.ClaimsOf(c, none)
		checkList(t, "ClaimsOf", claims, ok, nil, true)
		fair, ok := impl.AreFair(c, none)
		checkAnswer(t, "AreFair", fair, ok, true, true)
		proof, ok := impl.IsPriceProof(c, none, none)
		checkAnswer(t, "IsPriceProof", proof, ok, true, true)
		proof, ok = impl.IsPriceProof(c, none, []int{0})
		checkAnswer(t, "IsPriceProof", proof, ok, false, false)
		proof, ok = impl.IsPriceProof(c, []int{0}, none)
		checkAnswer(t, "IsPriceProof", proof, ok, false, false)
	}
	prices, ok := impl.FairPrices(c)
	checkList(t, "FairPrices", prices, ok, nil, true)
	checkRules(t, c, [3][]int{})
}

func TestP3AllShortListsAsPrices(t *testing.T) {
	cases := []impl.Case{{}, caseOf([4]int{0, 1, 1, 1}), caseOf([4]int{2, 0, 1, 1}), caseOf([4]int{1, 2, 1, 2}, [4]int{2, 1, 0, 1}), caseOf([4]int{0, 2, 1, 0}, [4]int{1, 0, 0, 1}, [4]int{1, 1, 1, 1})}
	for _, c := range cases {
		lists := [][]int{{}}
		for i := 0; i < len(lists); i++ {
			checkPrices(t, c, lists[i], c.Need)
			for x := -1; x <= 4 && len(lists[i]) < 4; x++ {
				lists = append(lists, append(slices.Clone(lists[i]), x))
			}
		}
	}
}

func TestP3FairPricesCostNoMoreThanAnyPlan(t *testing.T) {
	fair, met := 0, 0
	for _, c := range smallCases() {
		if len(c.Need) > 2 {
			continue
		}
		most := leastByPlans(c)
		lists := [][]int{{}}
		for i := 0; i < len(lists); i++ {
			for x := 0; x <= 13 && len(lists[i]) < len(c.Need); x++ {
				lists = append(lists, append(slices.Clone(lists[i]), x))
			}
			if are, ok := impl.AreFair(c, lists[i]); !ok || !are {
				continue
			}
			sum := 0
			for _, x := range lists[i] {
				sum += x
			}
			fair++
			if sum == most {
				met++
			}
			if sum > most {
				t.Fatal("fair prices are more than a plan costs", c, lists[i], most)
			}
		}
	}
	if fair < 4000 || met < 500 {
		t.Error("too few fair prices", fair, met)
	}
}

func TestP3FairPricesExamples(t *testing.T) {
	for _, x := range []struct {
		c    impl.Case
		want []int
	}{
		{caseOf([4]int{2, 5, 1, 1}, [4]int{0, 5, 1, 1}, [4]int{3, 4, 1, 1}), []int{7, 0, 7}},
		{caseOf([4]int{4, 5, 2, 1}), []int{13}},
		{caseOf([4]int{0, 5, 2, 1}), []int{0}},
		{caseOf([4]int{4, 0, 0, 0}), []int{0}},
		// What is needed first claims the Setup; then an order costs its units alone.
		{caseOf([4]int{1, 5, 0, 1}, [4]int{1, 9, 0, 0}), []int{5, 1}},
		{caseOf([4]int{1, 5, 0, 9}, [4]int{1, 2, 0, 0}), []int{5, 2}},
		// No Need at the beginning, in the middle, at the end.
		{caseOf([4]int{0, 9, 1, 0}, [4]int{3, 5, 1, 1}), []int{0, 8}},
		{caseOf([4]int{0, 2, 1, 0}, [4]int{3, 5, 1, 1}), []int{0, 5}},
		{caseOf([4]int{1, 5, 0, 1}, [4]int{0, 5, 0, 1}, [4]int{0, 5, 0, 1}), []int{5, 0, 0}},
		// An order in the first period is best, though the second one had a price without it.
		{caseOf([4]int{0, 10, 0, 0}, [4]int{1, 0, 5, 0}, [4]int{20, 0, 5, 0}), []int{0, 5, 5}},
		{sameRows(8, [4]int{20, 99, 9, 9}), slices.Repeat([]int{279}, 8)},
		{sameRows(8, [4]int{20, 99, 9, 0}), []int{279, 180, 180, 180, 180, 180, 180, 180}},
		{sameRows(8, [4]int{0, 99, 9, 9}), make([]int, 8)},
		{sameRows(8, [4]int{20, 0, 0, 0}), make([]int, 8)},
	} {
		prices, ok := impl.FairPrices(x.c)
		checkList(t, fmt.Sprint("FairPrices ", x.c), prices, ok, x.want, true)
	}
}

func TestP3FairPricesProveTheLeastCost(t *testing.T) {
	for _, c := range allCases() {
		prices, ok := impl.FairPrices(c)
		checkList(t, fmt.Sprint("FairPrices ", c), prices, ok, pricesBySteps(c), true)
		fair, ok := impl.AreFair(c, prices)
		checkAnswer(t, fmt.Sprint("AreFair ", c, prices), fair, ok, true, true)
		sum := 0
		for _, x := range prices {
			sum += x
		}
		least, ok := impl.BestCost(c)
		checkNumber(t, fmt.Sprint("BestCost ", c, prices), least, ok, sum, true)
		best, _ := impl.BestPeriods(c)
		table, _ := impl.TablePeriods(c)
		for _, periods := range [][]int{best, table} {
			plan, _ := impl.PlanFrom(c, periods)
			proof, ok := impl.IsPriceProof(c, prices, plan)
			checkAnswer(t, fmt.Sprint("IsPriceProof ", c, prices, plan), proof, ok, true, true)
		}
		if t.Failed() {
			return
		}
	}
}

func TestP3NoPriceCanBeGreater(t *testing.T) {
	for _, c := range allCases() {
		prices, _ := impl.FairPrices(c)
		for i := range prices {
			prices[i]++
			fair, ok := impl.AreFair(c, prices)
			checkAnswer(t, fmt.Sprint("AreFair ", c, prices), fair, ok, false, true)
			checkPrices(t, c, prices, c.Need)
			prices[i]--
		}
	}
}

func TestP3PriceProofExamples(t *testing.T) {
	c := caseOf([4]int{2, 5, 1, 1}, [4]int{0, 5, 1, 1}, [4]int{3, 4, 1, 1})
	for _, x := range []struct {
		prices, plan []int
		want, ok     bool
	}{
		{[]int{7, 0, 7}, []int{2, 0, 3}, true, true},
		{[]int{7, 0, 7}, []int{5, 0, 0}, false, true}, {[]int{7, 0, 7}, []int{2, 3, 0}, false, true}, {[]int{7, 0, 7}, []int{3, 0, 2}, false, true},
		{[]int{6, 0, 7}, []int{2, 0, 3}, false, true}, {[]int{7, 0, 6}, []int{2, 0, 3}, false, true}, {[]int{0, 0, 0}, []int{2, 0, 3}, false, true},
		// Prices that are not fair, though their sum is what the plan costs.
		{[]int{8, 0, 6}, []int{2, 0, 3}, false, false}, {[]int{6, 0, 8}, []int{2, 0, 3}, false, false}, {[]int{6, 1, 7}, []int{2, 0, 3}, false, false},
		{[]int{8, 0, 7}, []int{5, 0, 0}, false, false}, {[]int{14, 0, 0}, []int{2, 0, 3}, false, false}, {[]int{10000, 0, 0}, []int{2, 0, 3}, false, false},
		// Lists that are no plans.
		{[]int{7, 0, 7}, []int{2, 0, 2}, false, false}, {[]int{7, 0, 7}, []int{2, 0, 4}, false, false}, {[]int{7, 0, 7}, []int{0, 2, 3}, false, false},
		{[]int{7, 0, 7}, []int{2, 0}, false, false}, {[]int{7, 0, 7}, []int{2, 0, 3, 0}, false, false}, {[]int{7, 0, 7}, nil, false, false}, {[]int{7, 0, 7}, []int{6, -1, 0}, false, false},
		// Lists of prices of another length.
		{[]int{7, 7}, []int{2, 0, 3}, false, false}, {[]int{7, 0, 7, 0}, []int{2, 0, 3}, false, false}, {nil, []int{2, 0, 3}, false, false},
		{[]int{14}, []int{2, 0, 3}, false, false}, {[]int{2, 0, 3}, []int{7, 0, 7}, false, false},
	} {
		proof, ok := impl.IsPriceProof(c, x.prices, x.plan)
		checkAnswer(t, fmt.Sprint("IsPriceProof ", x.prices, x.plan), proof, ok, x.want, x.ok)
	}
}

func TestP3PriceProofsOfAllPlans(t *testing.T) {
	for _, c := range smallCases() {
		prices := pricesBySteps(c)
		for _, plan := range allPlans(c) {
			checkPrices(t, c, prices, plan)
			checkPrices(t, c, make([]int, len(prices)), plan)
		}
		if t.Failed() {
			return
		}
	}
}

func TestP3ThrownPrices(t *testing.T) {
	var d dice = 43
	for _, c := range fullCases() {
		for k := range 8 {
			prices := pricesBySteps(c)
			for i := range prices {
				prices[i] = max(0, prices[i]+d.throw(2*k)-k-k*k/4)
			}
			checkPrices(t, c, prices, d.thrownPlan(c))
			for i := range prices {
				prices[i] = d.throw(9999)
			}
			checkPrices(t, c, prices, c.Need)
		}
	}
}

func TestP3RuleExamples(t *testing.T) {
	row := func(need, setup int) [4]int { return [4]int{need, setup, 0, 1} }
	for _, x := range []struct {
		c    impl.Case
		want [3][]int
	}{
		// The quotients are 10, 19/2, 7 and 12; 10, 19/10 and 21/11; and 9 and 11 are held.
		{caseOf(row(1, 10), row(9, 10), row(1, 10), row(9, 10)), [3][]int{{0, 3}, {0, 2}, {0, 2}}},
		// The third period changes neither the quotient 2 nor has it more held than the Setup.
		{caseOf(row(1, 11), row(9, 11), row(1, 11), row(9, 11)), [3][]int{{0, 3}, {0, 3}, {0, 3}}},
		// The same quotient is good, and one that is greater by a half is not.
		{caseOf(row(1, 10), row(10, 99)), [3][]int{{0}, {0}, {0}}},
		{caseOf(row(1, 10), row(11, 99)), [3][]int{{0, 1}, {0}, {0, 1}}},
		{caseOf(row(3, 10), row(3, 99), row(2, 99)), [3][]int{{0}, {0}, {0}}},
		{caseOf(row(3, 10), row(3, 99), row(4, 99)), [3][]int{{0, 2}, {0}, {0, 2}}},
		// The units count by the first two rules, but not by the third one.
		{caseOf([4]int{1, 6, 0, 2}, [4]int{3, 9, 0, 1}), [3][]int{{0}, {0}, {0}}},
		{caseOf([4]int{1, 6, 9, 2}, [4]int{3, 9, 0, 1}), [3][]int{{0, 1}, {0}, {0}}},
		{caseOf([4]int{5, 1, 9, 2}, [4]int{1, 9, 0, 1}), [3][]int{{0}, {0, 1}, {0, 1}}},
		// No Need at the beginning, in the middle, at the end; an order is only where there is one.
		{caseOf(row(0, 3), row(2, 3), row(0, 3), row(2, 3), row(0, 3)), [3][]int{{1, 3}, {1, 3}, {1, 3}}},
		{caseOf(row(2, 3), row(0, 3), row(0, 3), row(9, 3)), [3][]int{{0, 3}, {0, 3}, {0, 3}}},
		{caseOf(row(2, 3), row(9, 3), row(0, 3), row(0, 3)), [3][]int{{0, 1}, {0}, {0, 1}}},
		{caseOf(row(0, 0), row(1, 0), row(1, 0)), [3][]int{{1, 2}, {1, 2}, {1, 2}}},
		{caseOf(row(0, 9)), [3][]int{}}, {caseOf(row(1, 9)), [3][]int{{0}, {0}, {0}}}, {sameRows(8, row(0, 99)), [3][]int{}},
		{sameRows(8, [4]int{20, 99, 9, 0}), [3][]int{{0}, {0}, {0}}}, {sameRows(8, [4]int{20, 0, 0, 0}), [3][]int{{0}, {0}, {0}}},
	} {
		checkRules(t, x.c, x.want)
		for k, want := range x.want {
			if found := ruleBySteps(x.c, k+1); !slices.Equal(found, want) {
				t.Error("the example is wrong", x.c, k+1, found)
			}
		}
	}
}

func TestP3RuleGapExamples(t *testing.T) {
	c := caseOf([4]int{1, 10, 0, 1}, [4]int{9, 10, 0, 1}, [4]int{1, 10, 0, 1}, [4]int{9, 10, 0, 1})
	for rule, want := range map[int]int{1: 0, 2: 7, 3: 7} {
		gap, ok := impl.RuleGap(c, rule)
		checkNumber(t, fmt.Sprint("RuleGap ", rule), gap, ok, want, true)
	}
	c = caseOf([4]int{1, 10, 0, 1}, [4]int{11, 99, 0, 1})
	for rule, want := range map[int]int{1: 88, 2: 0, 3: 88} {
		gap, ok := impl.RuleGap(c, rule)
		checkNumber(t, fmt.Sprint("RuleGap ", rule), gap, ok, want, true)
	}
}

func TestP3RulesOfManyCases(t *testing.T) {
	for _, c := range allCases() {
		checkRules(t, c, [3][]int{ruleBySteps(c, 1), ruleBySteps(c, 2), ruleBySteps(c, 3)})
		if t.Failed() {
			return
		}
	}
}

func TestP3NumbersThatAreNoRules(t *testing.T) {
	for _, c := range append(fullCases()[:40], impl.Case{}, sameRows(8, [4]int{20, 99, 9, 9})) {
		for _, rule := range noRules {
			periods, ok := impl.RulePeriods(c, rule)
			checkList(t, fmt.Sprint("RulePeriods ", c, rule), periods, ok, nil, false)
			gap, ok := impl.RuleGap(c, rule)
			checkNumber(t, fmt.Sprint("RuleGap ", c, rule), gap, ok, 0, false)
		}
	}
}

// horizonCalls calls each function of the chapter with a Case, a list and several numbers.
func horizonCalls(c impl.Case, list []int) []lotCall {
	var calls []lotCall
	add := func(name string, x any, ok bool) { calls = append(calls, lotCall{name, []any{x}, ok}) }
	forward, ok := impl.ForwardCosts(c)
	add("ForwardCosts", forward, ok)
	backward, ok := impl.BackwardCosts(c)
	add("BackwardCosts", backward, ok)
	lasts, ok := impl.LastOrders(c)
	add("LastOrders", lasts, ok)
	periods, ok := impl.TablePeriods(c)
	add("TablePeriods", periods, ok)
	turns, ok := impl.TurningPeriods(c)
	add("TurningPeriods", turns, ok)
	horizons, ok := impl.HorizonsOf(c)
	add("HorizonsOf", horizons, ok)
	claims, ok := impl.ClaimsOf(c, list)
	add("ClaimsOf", claims, ok)
	fair, ok := impl.AreFair(c, list)
	add("AreFair", fair, ok)
	prices, ok := impl.FairPrices(c)
	add("FairPrices", prices, ok)
	for _, other := range [][]int{slices.Clone(prices), c.Need, list} {
		proof, ok := impl.IsPriceProof(c, list, other)
		add("IsPriceProof", proof, ok)
		proof, ok = impl.IsPriceProof(c, other, list)
		add("IsPriceProof", proof, ok)
	}
	for _, rule := range append([]int{1, 2, 3}, noRules...) {
		periods, ok := impl.RulePeriods(c, rule)
		add("RulePeriods", periods, ok)
		gap, ok := impl.RuleGap(c, rule)
		add("RuleGap", gap, ok)
	}
	for _, i := range []int{math.MinInt, -1, 0, 1, len(c.Need), math.MaxInt} {
		for _, j := range []int{math.MinInt, -1, 0, 1, len(c.Need) - 1, len(c.Need), len(c.Need) + 1, math.MaxInt} {
			rate, ok := impl.RateOf(c, i, j)
			add("RateOf", rate, ok)
			cost, ok := impl.SpanCost(c, i, j)
			add("SpanCost", cost, ok)
		}
	}
	return calls
}

// horizonLists gives lists of numbers that may be prices of a Case, or a plan, or neither.
func horizonLists(c impl.Case) [][]int {
	lists := append(lotLists(c), slices.Repeat([]int{9999}, len(c.Need)), slices.Repeat([]int{10000}, len(c.Need)))
	if impl.IsCase(c) {
		lists = append(lists, pricesBySteps(c))
	}
	return lists
}

func TestP13HorizonFunctionsFailWithoutACase(t *testing.T) {
	for _, c := range noCases() {
		for _, list := range horizonLists(c) {
			checkZeroBesideFalse(t, horizonCalls(c, list), true)
		}
	}
}

func TestP13WhereHorizonFunctionsFailAllResultsAreZero(t *testing.T) {
	for _, c := range fullCases() {
		for _, list := range horizonLists(c) {
			checkZeroBesideFalse(t, horizonCalls(c, list), false)
		}
	}
}

func TestP13HorizonFunctionsLeaveTheirArguments(t *testing.T) {
	for _, c := range append(fullCases()[:400], noCases()...) {
		for _, list := range horizonLists(c) {
			checkLeavesArguments(t, horizonCalls, c, list)
		}
	}
}

func TestP13HorizonFunctionsReturnTheSameAgain(t *testing.T) {
	for _, c := range append(fullCases()[:300], noCases()...) {
		for _, list := range horizonLists(c) {
			checkSameAgain(t, horizonCalls, c, list)
		}
	}
}
