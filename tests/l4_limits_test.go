package tests

import (
	"fmt"
	"math"
	"slices"
	"testing"

	"loop.example/g01111/impl"
)

// areWithin reports whether a list of any numbers has a number in 0..most for each period.
func areWithin(c impl.Case, list []int, most int) bool {
	for _, x := range list {
		if x < 0 || x > most {
			return false
		}
	}
	return len(list) == len(c.Need)
}

// shortBySteps gives the first period that is short, the difference, and whether there is one.
func shortBySteps(c impl.Case, limits []int) (int, int, bool) {
	for t := range c.Need {
		need, limit := 0, 0
		for s := 0; s <= t; s++ {
			need, limit = need+c.Need[s], limit+limits[s]
		}
		if limit < need {
			return t, need - limit, true
		}
	}
	return 0, 0, false
}

// keepsBySteps reports whether no amount is greater than its limit.
func keepsBySteps(limits, plan []int) bool {
	for t := range plan {
		if plan[t] > limits[t] {
			return false
		}
	}
	return true
}

// partialsBySteps gives the periods with partial amounts.
func partialsBySteps(limits, plan []int) []int {
	var periods []int
	for t := range plan {
		if 0 < plan[t] && plan[t] < limits[t] {
			periods = append(periods, t)
		}
	}
	return periods
}

// regularBySteps looks between any two periods with partial amounts for a stock of 0.
func regularBySteps(c impl.Case, limits, plan []int) bool {
	stocks, _ := stocksBySteps(c, plan)
	partials := partialsBySteps(limits, plan)
	for _, p := range partials {
		for _, q := range partials {
			empty := false
			for s := p; s < q; s++ {
				empty = empty || stocks[s] == 0
			}
			if p < q && !empty {
				return false
			}
		}
	}
	return true
}

// latestBySteps gives the amounts that come as late as possible, by the document's words.
func latestBySteps(c impl.Case, limits []int) []int {
	plan := make([]int, len(limits))
	for t := len(limits) - 1; t >= 0; t-- {
		still := 0
		for s := t; s < len(limits); s++ {
			still += c.Need[s] - plan[s]
		}
		plan[t] = min(limits[t], still)
	}
	return plan
}

// balancesBySteps gives the balances of a list, and whether it is a late plan.
func balancesBySteps(c impl.Case, plan []int) ([]int, bool) {
	balance := 0
	var balances []int
	for t, amount := range plan {
		if t >= len(c.Need) || amount < 0 || amount > 1000 {
			return nil, false
		}
		balance = balance + amount - c.Need[t]
		balances = append(balances, balance)
	}
	return balances, len(plan) == len(c.Need) && balance == 0
}

// lateCostBySteps gives the cost of a late plan.
func lateCostBySteps(c impl.Case, rates, plan []int) int {
	cost := 0
	balances, _ := balancesBySteps(c, plan)
	for t, balance := range balances {
		if plan[t] > 0 {
			cost += c.Setup[t]
		}
		cost += c.Unit[t] * plan[t]
		if balance > 0 {
			cost += c.Hold[t] * balance
		}
		if balance < 0 {
			cost += rates[t] * -balance
		}
	}
	return cost
}

// owedBySteps gives the periods after which a late plan owes something.
func owedBySteps(c impl.Case, plan []int) []int {
	var periods []int
	balances, _ := balancesBySteps(c, plan)
	for t, balance := range balances {
		if balance < 0 {
			periods = append(periods, t)
		}
	}
	return periods
}

// allLatePlans gives each late plan of a Case.
func allLatePlans(c impl.Case) [][]int {
	var plans [][]int
	total := needBySteps(c, 0, len(c.Need))
	var grow func(plan []int, open int)
	grow = func(plan []int, open int) {
		if len(plan) == len(c.Need) {
			if open == 0 {
				plans = append(plans, slices.Clone(plan))
			}
			return
		}
		for amount := range open + 1 {
			grow(append(slices.Clip(plan), amount), open-amount)
		}
	}
	grow(nil, total)
	return plans
}

// firstBest gives the lexicographically first list with the least cost of those that are right,
// this cost, and whether there is one.
func firstBest(lists [][]int, right func([]int) bool, cost func([]int) int) ([]int, int, bool) {
	var best []int
	least, found := 0, false
	for _, list := range lists {
		if !right(list) {
			continue
		}
		x := cost(list)
		if !found || x < least || x == least && slices.Compare(list, best) < 0 {
			best, least, found = list, x, true
		}
	}
	return best, least, found
}

// limited is what chapter 4 finds for a Case and limits.
type limited struct {
	can                bool
	short, by          int
	plan, regular, lag []int
	cost               int
}

// limitedByAll finds it by looking at all plans.
func limitedByAll(c impl.Case, limits []int, plans [][]int) limited {
	var x limited
	var short bool
	x.short, x.by, short = shortBySteps(c, limits)
	keeps := func(plan []int) bool { return keepsBySteps(limits, plan) }
	cost := func(plan []int) int { return costBySteps(c, plan) }
	x.plan, x.cost, x.can = firstBest(plans, keeps, cost)
	if x.can == short {
		panic("the Case can be met just if no period is short")
	}
	if x.can {
		x.regular, _, _ = firstBest(plans, func(plan []int) bool { return keeps(plan) && regularBySteps(c, limits, plan) }, cost)
		x.lag = latestBySteps(c, limits)
	}
	return x
}

// ahead is the least cost of the amounts up to a period, and the first of the lists that have it.
type ahead struct {
	cost int
	list []int
}

// rulesAhead tells which amounts of a Case count, and what they cost.
type rulesAhead struct {
	c             impl.Case
	limits, rates []int
	late, regular bool
}

// step gives the spot that an amount leads to, the stock and whether a partial amount has come
// since it was 0, its cost, and whether it may be.
func (x rulesAhead) step(t int, from [2]int, amount int) ([2]int, int, bool) {
	stock := from[0] + amount - x.c.Need[t]
	to := [2]int{stock, from[1]}
	if x.regular && amount > 0 && amount < x.limits[t] {
		to[1]++
	}
	cost := x.c.Unit[t] * amount
	if amount > 0 {
		cost += x.c.Setup[t]
	}
	switch {
	case to[1] > 1 || stock < 0 && !x.late:
		return to, 0, false
	case stock == 0:
		to[1] = 0
	case stock > 0:
		cost += x.c.Hold[t] * stock
	default:
		cost -= x.rates[t] * stock
	}
	return to, cost, true
}

// bestAhead finds the first list with the least cost from the first period on, with all spots that
// can be reached.
func (x rulesAhead) bestAhead() ([]int, int, bool) {
	spots := map[[2]int]ahead{{}: {}}
	open := needBySteps(x.c, 0, len(x.c.Need))
	for t := range x.c.Need {
		next := map[[2]int]ahead{}
		for from, before := range spots {
			for amount := 0; amount <= min(x.limits[t], open-from[0]); amount++ {
				to, cost, ok := x.step(t, from, amount)
				cost += before.cost
				old, known := next[to]
				if !ok || known && cost > old.cost {
					continue
				}
				list := append(slices.Clip(before.list), amount)
				if !known || cost < old.cost || slices.Compare(list, old.list) < 0 {
					next[to] = ahead{cost, list}
				}
			}
		}
		spots = next
		open -= x.c.Need[t]
	}
	best, found := spots[[2]int{}]
	return best.list, best.cost, found
}

// limitedByTable finds what limitedByAll finds for Cases of any size.
func limitedByTable(c impl.Case, limits []int) limited {
	var x limited
	x.short, x.by, _ = shortBySteps(c, limits)
	x.plan, x.cost, x.can = rulesAhead{c: c, limits: limits}.bestAhead()
	if x.can {
		x.regular, _, _ = rulesAhead{c: c, limits: limits, regular: true}.bestAhead()
		x.lag = latestBySteps(c, limits)
	}
	return x
}

// checkLimits compares all the functions of a Case and limits.
func checkLimits(t *testing.T, c impl.Case, limits []int, want limited) {
	t.Helper()
	what := fmt.Sprintf("(%v, %v)", c, limits)
	can, ok := impl.CanMeet(c, limits)
	checkAnswer(t, "CanMeet"+what, can, ok, want.can, true)
	short, by, ok := impl.FirstShort(c, limits)
	checkNumber(t, "FirstShort"+what, short, ok, want.short, !want.can)
	checkNumber(t, "the difference of FirstShort"+what, by, ok, want.by, !want.can)
	plan, ok := impl.LimitedPlan(c, limits)
	checkList(t, "LimitedPlan"+what, plan, ok, want.plan, want.can)
	cost, ok := impl.LimitedCost(c, limits)
	checkNumber(t, "LimitedCost"+what, cost, ok, want.cost, want.can)
	regular, ok := impl.RegularPlan(c, limits)
	checkList(t, "RegularPlan"+what, regular, ok, want.regular, want.can)
	lag, ok := impl.LatestStart(c, limits)
	checkList(t, "LatestStart"+what, lag, ok, want.lag, want.can)
}

// checkKept compares the functions of two lists of any numbers as limits and a plan.
func checkKept(t *testing.T, c impl.Case, limits, plan []int) {
	t.Helper()
	_, is := stocksBySteps(c, plan)
	is = is && areWithin(c, limits, 160)
	keeps := is && keepsBySteps(limits, plan)
	var partials []int
	regular := false
	if keeps {
		partials, regular = partialsBySteps(limits, plan), regularBySteps(c, limits, plan)
	}
	what := fmt.Sprintf("(%v, %v, %v)", c, limits, plan)
	answer, ok := impl.KeepsLimits(c, limits, plan)
	checkAnswer(t, "KeepsLimits"+what, answer, ok, keeps, is)
	got, ok := impl.PartialPeriods(c, limits, plan)
	checkList(t, "PartialPeriods"+what, got, ok, partials, keeps)
	answer, ok = impl.IsRegular(c, limits, plan)
	checkAnswer(t, "IsRegular"+what, answer, ok, regular, keeps)
}

// checkLate compares the functions of two lists of any numbers as rates and a late plan.
func checkLate(t *testing.T, c impl.Case, rates, plan []int) {
	t.Helper()
	_, is := balancesBySteps(c, plan)
	var owed []int
	cost := 0
	if is {
		owed = owedBySteps(c, plan)
	}
	fine := is && areWithin(c, rates, 9)
	if fine {
		cost = lateCostBySteps(c, rates, plan)
	}
	what := fmt.Sprintf("(%v, %v, %v)", c, rates, plan)
	answer, ok := impl.IsLatePlan(c, plan)
	checkAnswer(t, "IsLatePlan"+what, answer, ok, is, true)
	got, ok := impl.OwedPeriods(c, plan)
	checkList(t, "OwedPeriods"+what, got, ok, owed, is)
	value, ok := impl.LateCost(c, rates, plan)
	checkNumber(t, "LateCost"+what, value, ok, cost, fine)
}

// checkBestLate compares the two functions of the best late plan.
func checkBestLate(t *testing.T, c impl.Case, rates, want []int, cost int) {
	t.Helper()
	what := fmt.Sprintf("(%v, %v)", c, rates)
	plan, ok := impl.BestLatePlan(c, rates)
	checkList(t, "BestLatePlan"+what, plan, ok, want, true)
	least, ok := impl.LeastLate(c, rates)
	checkNumber(t, "LeastLate"+what, least, ok, cost, true)
}

// thrownLimits gives limits of a Case of several kinds: around the Needs, some of them 0 and some
// MaxLimit; just those of a plan; and those less 1 in one period.
func (d *dice) thrownLimits(c impl.Case) [][]int {
	near, wide, just := slices.Clone(c.Need), slices.Clone(c.Need), d.thrownPlan(c)
	for t := range near {
		near[t] += d.throw(4) - 1
		near[t] = max(near[t], 0)
		wide[t] = d.throw(needBySteps(c, t, len(c.Need)) + 1)
		switch d.throw(6) {
		case 0:
			near[t], wide[t] = 0, 160
		case 1:
			near[t], wide[t] = 160, 0
		}
	}
	less := slices.Clone(just)
	if len(less) > 0 {
		t := d.throw(len(less) - 1)
		less[t] = max(less[t]-1, 0)
	}
	return [][]int{near, wide, just, less}
}

// thrownRates gives rates of a Case, a third of them 0.
func (d *dice) thrownRates(c impl.Case, most int) []int {
	rates := make([]int, len(c.Need))
	for t := range rates {
		rates[t] = d.throw(2) * d.throw(most) / 2
		rates[t] = min(rates[t], 9)
	}
	return rates
}

// sameList gives a list with the same number for each period of a Case.
func sameList(c impl.Case, x int) []int {
	return slices.Repeat([]int{x}, len(c.Need))
}

func TestLimitBounds(t *testing.T) {
	if impl.MaxLimit != 160 {
		t.Error("bounds", impl.MaxLimit)
	}
}

func TestP4WithoutPeriods(t *testing.T) {
	for _, none := range [][]int{nil, {}} {
		checkLimits(t, impl.Case{}, none, limited{can: true})
		checkBestLate(t, impl.Case{}, none, nil, 0)
		checkKept(t, impl.Case{}, none, none)
		checkLate(t, impl.Case{}, none, none)
		keeps, ok := impl.KeepsLimits(impl.Case{}, none, none)
		checkAnswer(t, "KeepsLimits", keeps, ok, true, true)
		regular, ok := impl.IsRegular(impl.Case{}, none, none)
		checkAnswer(t, "IsRegular", regular, ok, true, true)
		partials, ok := impl.PartialPeriods(impl.Case{}, none, none)
		checkList(t, "PartialPeriods", partials, ok, nil, true)
		is, ok := impl.IsLatePlan(impl.Case{}, none)
		checkAnswer(t, "IsLatePlan", is, ok, true, true)
		cost, ok := impl.LateCost(impl.Case{}, none, none)
		checkNumber(t, "LateCost", cost, ok, 0, true)
		owed, ok := impl.OwedPeriods(impl.Case{}, none)
		checkList(t, "OwedPeriods", owed, ok, nil, true)
		for _, period := range farNumbers {
			saves, ok := impl.LimitSaves(impl.Case{}, none, period)
			checkNumber(t, fmt.Sprint("LimitSaves ", period), saves, ok, 0, false)
		}
		checkKept(t, impl.Case{}, []int{0}, none)
		checkKept(t, impl.Case{}, none, []int{0})
		checkLate(t, impl.Case{}, []int{0}, none)
		checkLate(t, impl.Case{}, none, []int{0})
	}
}

func TestP4ShortExamples(t *testing.T) {
	c := caseOf([4]int{3, 5, 1, 1}, [4]int{2, 5, 1, 1}, [4]int{4, 5, 1, 1})
	for _, x := range []struct {
		limits     []int
		period, by int
		short      bool
	}{
		// Just the Needs, and one less, in the first, in a middle and in the last period.
		{[]int{3, 2, 4}, 0, 0, false}, {[]int{2, 3, 4}, 0, 1, true}, {[]int{3, 1, 5}, 1, 1, true}, {[]int{3, 2, 3}, 2, 1, true},
		{[]int{2, 160, 160}, 0, 1, true}, {[]int{4, 0, 160}, 1, 1, true}, {[]int{5, 0, 3}, 2, 1, true}, {[]int{8, 0, 0}, 2, 1, true},
		{[]int{3, 160, 0}, 0, 0, false}, {[]int{5, 0, 4}, 0, 0, false}, {[]int{9, 0, 0}, 0, 0, false}, {[]int{3, 6, 0}, 0, 0, false}, {[]int{4, 1, 4}, 0, 0, false},
		{[]int{0, 0, 0}, 0, 3, true}, {[]int{160, 0, 0}, 0, 0, false}, {[]int{160, 160, 160}, 0, 0, false}, {[]int{0, 160, 160}, 0, 3, true},
		{[]int{3, 0, 0}, 1, 2, true}, {[]int{5, 0, 0}, 2, 4, true}, {[]int{0, 0, 160}, 0, 3, true}, {[]int{1, 1, 160}, 0, 2, true},
	} {
		period, by, ok := impl.FirstShort(c, x.limits)
		checkNumber(t, fmt.Sprint("FirstShort ", x.limits), period, ok, x.period, x.short)
		checkNumber(t, fmt.Sprint("the difference of FirstShort ", x.limits), by, ok, x.by, x.short)
		can, ok := impl.CanMeet(c, x.limits)
		checkAnswer(t, fmt.Sprint("CanMeet ", x.limits), can, ok, !x.short, true)
	}
	for n := range 9 {
		checkLimits(t, sameRows(n, [4]int{0, 99, 9, 9}), make([]int, n), limited{can: true, plan: make([]int, n), regular: make([]int, n), lag: make([]int, n)})
	}
	period, by, ok := impl.FirstShort(sameRows(8, [4]int{20, 99, 9, 9}), []int{159, 0, 0, 0, 0, 0, 0, 0})
	checkNumber(t, "FirstShort in the last period", period, ok, 7, true)
	checkNumber(t, "the difference of FirstShort in the last period", by, ok, 1, true)
}

func TestP4LimitedExamples(t *testing.T) {
	c := caseOf([4]int{3, 5, 1, 1}, [4]int{2, 5, 1, 1}, [4]int{4, 5, 1, 1})
	for _, x := range []struct {
		c      impl.Case
		limits []int
		want   limited
	}{
		{c, []int{5, 5, 3}, limited{can: true, plan: []int{4, 5, 0}, regular: []int{4, 5, 0}, lag: []int{3, 3, 3}, cost: 24}},
		{c, []int{160, 160, 160}, limited{can: true, plan: []int{5, 0, 4}, regular: []int{5, 0, 4}, lag: []int{3, 2, 4}, cost: 21}},
		{c, []int{3, 2, 4}, limited{can: true, plan: []int{3, 2, 4}, regular: []int{3, 2, 4}, lag: []int{3, 2, 4}, cost: 24}},
		{c, []int{9, 0, 0}, limited{can: true, plan: []int{9, 0, 0}, regular: []int{9, 0, 0}, lag: []int{9, 0, 0}, cost: 24}},
		{c, []int{4, 160, 0}, limited{can: true, plan: []int{3, 6, 0}, regular: []int{3, 6, 0}, lag: []int{3, 6, 0}, cost: 23}},
		{c, []int{3, 1, 160}, limited{short: 1, by: 1}},
		{c, []int{2, 9, 9}, limited{by: 1}},
		{c, []int{3, 2, 3}, limited{short: 2, by: 1}},
		{c, []int{0, 0, 0}, limited{by: 3}},
		// A limit of 0 where nothing is needed, and where an order would be best.
		{caseOf([4]int{0, 0, 0, 0}, [4]int{2, 9, 1, 0}), []int{0, 2}, limited{can: true, plan: []int{0, 2}, regular: []int{0, 2}, lag: []int{0, 2}, cost: 11}},
		{caseOf([4]int{0, 0, 0, 0}, [4]int{2, 9, 1, 0}), []int{2, 0}, limited{can: true, plan: []int{2, 0}, regular: []int{2, 0}, lag: []int{2, 0}}},
		{caseOf([4]int{0, 0, 0, 0}, [4]int{2, 9, 1, 0}), []int{1, 2}, limited{can: true, plan: []int{1, 1}, regular: []int{1, 1}, lag: []int{0, 2}, cost: 10}},
		// The best plan orders while there is stock.
		{caseOf([4]int{1, 3, 0, 0}, [4]int{3, 3, 0, 0}), []int{2, 3}, limited{can: true, plan: []int{1, 3}, regular: []int{1, 3}, lag: []int{1, 3}, cost: 6}},
		{caseOf([4]int{1, 3, 0, 0}, [4]int{3, 3, 0, 0}), []int{3, 2}, limited{can: true, plan: []int{2, 2}, regular: []int{2, 2}, lag: []int{2, 2}, cost: 6}},
	} {
		checkLimits(t, x.c, x.limits, x.want)
		if found := limitedByAll(x.c, x.limits, allPlans(x.c)); fmt.Sprint(found) != fmt.Sprint(x.want) {
			t.Error("the example is wrong", x.c, x.limits, found)
		}
	}
}

func TestP4LimitedPlansOfEqualCosts(t *testing.T) {
	free := sameRows(3, [4]int{2, 0, 1, 0})
	late := caseOf([4]int{1, 0, 0, 0}, [4]int{1, 0, 0, 0}, [4]int{9, 0, 0, 0})
	for _, x := range []struct {
		c      impl.Case
		limits []int
		want   []int
		best   int
	}{
		// All plans that keep the limits cost the same: the one whose amounts come last.
		{free, []int{160, 160, 160}, []int{2, 2, 2}, 12}, {free, []int{160, 160, 0}, []int{2, 4, 0}, 5}, {free, []int{3, 3, 1}, []int{2, 3, 1}, 3},
		{free, []int{4, 2, 1}, []int{3, 2, 1}, 3}, {free, []int{4, 3, 1}, []int{2, 3, 1}, 5}, {free, []int{5, 3, 2}, []int{2, 2, 2}, 10},
		{late, []int{6, 4, 5}, []int{2, 4, 5}, 15}, {late, []int{6, 5, 5}, []int{1, 5, 5}, 21}, {late, []int{6, 5, 6}, []int{1, 4, 6}, 26},
		{caseOf([4]int{0, 0, 0, 0}, [4]int{4, 0, 0, 0}), []int{3, 3}, []int{1, 3}, 3},
		// Some of them cost the same, and others more.
		{caseOf([4]int{0, 2, 0, 0}, [4]int{0, 2, 0, 0}, [4]int{4, 9, 0, 0}), []int{3, 3, 4}, []int{1, 3, 0}, 3},
		{caseOf([4]int{1, 0, 0, 0}, [4]int{2, 9, 0, 0}, [4]int{3, 0, 0, 0}), []int{5, 0, 5}, []int{3, 0, 3}, 3},
		{caseOf([4]int{1, 4, 0, 0}, [4]int{2, 0, 1, 0}), []int{3, 2}, []int{3, 0}, 1},
		{caseOf([4]int{1, 4, 0, 1}, [4]int{2, 0, 1, 0}), []int{3, 2}, []int{1, 2}, 3},
	} {
		plans := allPlans(x.c)
		all := limitedByAll(x.c, x.limits, plans)
		best := 0
		for _, plan := range plans {
			if keepsBySteps(x.limits, plan) && costBySteps(x.c, plan) == all.cost {
				best++
			}
		}
		if !slices.Equal(all.plan, x.want) || !slices.Equal(all.regular, x.want) || best != x.best {
			t.Error("the example is wrong", x.c, x.limits, all, best)
		}
		checkLimits(t, x.c, x.limits, all)
	}
}

func TestP4LimitsOfSmallCases(t *testing.T) {
	var d dice = 53
	met, short, apart := 0, 0, 0
	for _, c := range smallCases() {
		plans := allPlans(c)
		for _, limits := range append(d.thrownLimits(c), make([]int, len(c.Need)), sameList(c, 160)) {
			want := limitedByAll(c, limits, plans)
			checkLimits(t, c, limits, want)
			if !want.can {
				short++
				continue
			}
			met++
			for _, plan := range plans {
				if keepsBySteps(limits, plan) && costBySteps(c, plan) == want.cost && !regularBySteps(c, limits, plan) {
					apart++
					break
				}
			}
		}
		if t.Failed() {
			return
		}
	}
	if met < 2000 || short < 1000 || apart < 100 {
		t.Error("too few limits of one kind", met, short, apart)
	}
}

func TestP4AllSmallLimits(t *testing.T) {
	cases := []impl.Case{
		caseOf([4]int{2, 3, 1, 1}), caseOf([4]int{0, 3, 1, 1}), caseOf([4]int{1, 4, 1, 0}, [4]int{2, 3, 2, 1}), caseOf([4]int{0, 1, 0, 0}, [4]int{3, 1, 1, 0}),
		caseOf([4]int{1, 2, 0, 1}, [4]int{0, 1, 0, 0}, [4]int{2, 2, 1, 0}), sameRows(3, [4]int{1, 0, 1, 0}), caseOf([4]int{0, 0, 1, 0}, [4]int{2, 0, 1, 0}, [4]int{2, 1, 1, 0}),
	}
	for _, c := range cases {
		plans := allPlans(c)
		lists := [][]int{{}}
		for i := 0; i < len(lists); i++ {
			if len(lists[i]) == len(c.Need) {
				checkLimits(t, c, lists[i], limitedByAll(c, lists[i], plans))
				for _, plan := range plans {
					checkKept(t, c, lists[i], plan)
				}
				continue
			}
			for x := range 6 {
				lists = append(lists, append(slices.Clone(lists[i]), x))
			}
		}
	}
}

func TestP4LimitsOfFullCases(t *testing.T) {
	var d dice = 59
	met := 0
	for _, c := range fullCases() {
		for _, limits := range d.thrownLimits(c) {
			want := limitedByTable(c, limits)
			checkLimits(t, c, limits, want)
			if want.can {
				met++
			}
		}
		if t.Failed() {
			return
		}
	}
	if met < 2000 {
		t.Error("too few Cases that can be met", met)
	}
}

func TestP4TheGreatestCase(t *testing.T) {
	c := sameRows(8, [4]int{20, 99, 9, 9})
	for _, limits := range [][]int{sameList(c, 20), {160, 0, 0, 0, 0, 0, 0, 0}, {80, 0, 0, 0, 80, 0, 0, 0}, {159, 0, 0, 0, 0, 0, 0, 1}, {30, 30, 30, 30, 30, 30, 30, 30}} {
		checkLimits(t, c, limits, limitedByTable(c, limits))
	}
	cost, ok := impl.LimitedCost(c, []int{160, 0, 0, 0, 0, 0, 0, 0})
	checkNumber(t, "LimitedCost", cost, ok, 6579, true)
	cost, ok = impl.LimitedCost(c, sameList(c, 20))
	checkNumber(t, "LimitedCost", cost, ok, 2232, true)
}

func TestP4LimitsNeverMakeTheLeastCostLess(t *testing.T) {
	var d dice = 61
	greater := 0
	for _, c := range allCases() {
		best, _ := impl.BestCost(c)
		free, ok := impl.LimitedCost(c, sameList(c, 160))
		checkNumber(t, fmt.Sprint("LimitedCost ", c), free, ok, best, true)
		total := sameList(c, needBySteps(c, 0, len(c.Need)))
		free, ok = impl.LimitedCost(c, total)
		checkNumber(t, fmt.Sprint("LimitedCost ", c, total), free, ok, best, true)
		for _, limits := range d.thrownLimits(c) {
			cost, ok := impl.LimitedCost(c, limits)
			if ok && cost < best {
				t.Fatal("limits make the least cost less", c, limits, cost, best)
			}
			if ok && cost > best {
				greater++
			}
		}
		if t.Failed() {
			return
		}
	}
	if greater < 1000 {
		t.Error("too few limits that count", greater)
	}
}

func TestP4RegularPlansAreBest(t *testing.T) {
	var d dice = 67
	for _, c := range allCases() {
		for _, limits := range d.thrownLimits(c) {
			least, ok := impl.LimitedCost(c, limits)
			plan, one := impl.RegularPlan(c, limits)
			first, two := impl.LimitedPlan(c, limits)
			if one != ok || two != ok {
				t.Fatal("not all of them can be met", c, limits, ok, one, two)
			}
			if !ok {
				continue
			}
			regular, one := impl.IsRegular(c, limits, plan)
			cost, two := impl.PlanCost(c, plan)
			if !one || !two || !regular || cost != least {
				t.Fatal("not a regular plan that is best", c, limits, plan, cost, least)
			}
			keeps, one := impl.KeepsLimits(c, limits, first)
			cost, two = impl.PlanCost(c, first)
			if !one || !two || !keeps || cost != least || slices.Compare(first, plan) > 0 {
				t.Fatal("not the first best plan", c, limits, first, cost, least)
			}
		}
	}
}

func TestP4KeptExamples(t *testing.T) {
	c := sameRows(4, [4]int{2, 1, 1, 1})
	for _, x := range []struct {
		limits, plan    []int
		keeps           bool
		partial         []int
		regular, fitted bool
	}{
		// Amounts of 0, of just the limit and between, and greater by 1.
		{[]int{2, 2, 2, 2}, []int{2, 2, 2, 2}, true, nil, true, true}, {[]int{8, 0, 0, 0}, []int{8, 0, 0, 0}, true, nil, true, true},
		{[]int{8, 3, 3, 3}, []int{8, 0, 0, 0}, true, nil, true, true}, {[]int{9, 0, 0, 0}, []int{8, 0, 0, 0}, true, []int{0}, true, true},
		{[]int{7, 9, 9, 9}, []int{8, 0, 0, 0}, false, nil, false, true}, {[]int{2, 2, 2, 1}, []int{2, 2, 2, 2}, false, nil, false, true},
		{[]int{1, 2, 2, 2}, []int{2, 2, 2, 2}, false, nil, false, true}, {[]int{2, 1, 2, 2}, []int{2, 2, 2, 2}, false, nil, false, true},
		{[]int{160, 160, 160, 160}, []int{8, 0, 0, 0}, true, []int{0}, true, true}, {[]int{8, 8, 8, 0}, []int{2, 2, 2, 2}, false, nil, false, true},
		// One partial amount; two with a stock of 0 after the first one, between both, and after the second one alone.
		{[]int{4, 9, 4, 9}, []int{4, 0, 4, 0}, true, nil, true, true}, {[]int{4, 2, 4, 9}, []int{4, 1, 3, 0}, true, []int{1, 2}, false, true},
		{[]int{3, 3, 3, 3}, []int{2, 2, 2, 2}, true, []int{0, 1, 2, 3}, true, true}, {[]int{5, 5, 5, 5}, []int{4, 0, 4, 0}, true, []int{0, 2}, true, true},
		{[]int{5, 5, 5, 5}, []int{4, 0, 2, 2}, true, []int{0, 2, 3}, true, true}, {[]int{5, 5, 5, 5}, []int{3, 1, 2, 2}, true, []int{0, 1, 2, 3}, false, true},
		{[]int{5, 5, 5, 5}, []int{3, 3, 0, 2}, true, []int{0, 1, 3}, false, true}, {[]int{5, 3, 5, 2}, []int{3, 3, 0, 2}, true, []int{0}, true, true},
		{[]int{5, 3, 5, 5}, []int{3, 3, 0, 2}, true, []int{0, 3}, true, true}, {[]int{3, 3, 5, 5}, []int{3, 3, 0, 2}, true, []int{3}, true, true},
		{[]int{5, 5, 2, 5}, []int{3, 2, 2, 1}, true, []int{0, 1, 3}, false, true}, {[]int{5, 2, 2, 5}, []int{3, 2, 2, 1}, true, []int{0, 3}, false, true},
		{[]int{3, 5, 2, 5}, []int{3, 2, 2, 1}, true, []int{1, 3}, false, true}, {[]int{3, 2, 5, 5}, []int{3, 2, 2, 1}, true, []int{2, 3}, false, true},
		{[]int{5, 5, 4, 5}, []int{2, 2, 3, 1}, true, []int{0, 1, 2, 3}, false, true}, {[]int{5, 5, 3, 5}, []int{2, 2, 3, 1}, true, []int{0, 1, 3}, true, true},
		// Lists that are no plans, and no limits.
		{[]int{8, 8, 8, 8}, []int{2, 2, 2, 1}, false, nil, false, false}, {[]int{8, 8, 8, 8}, []int{2, 2, 2, 3}, false, nil, false, false},
		{[]int{8, 8, 8, 8}, []int{0, 4, 2, 2}, false, nil, false, false}, {[]int{8, 8, 8, 8}, []int{2, 2, 4}, false, nil, false, false},
		{[]int{8, 8, 8}, []int{2, 2, 2, 2}, false, nil, false, false}, {[]int{8, 8, 8, 8, 8}, []int{2, 2, 2, 2}, false, nil, false, false},
		{[]int{8, 8, 8, 161}, []int{2, 2, 2, 2}, false, nil, false, false}, {[]int{-1, 8, 8, 8}, []int{2, 2, 2, 2}, false, nil, false, false},
		{[]int{8, 8, -1, 8}, []int{8, 0, 0, 0}, false, nil, false, false}, {nil, []int{2, 2, 2, 2}, false, nil, false, false}, {[]int{8, 8, 8, 8}, nil, false, nil, false, false},
	} {
		what := fmt.Sprint(x.limits, x.plan)
		keeps, ok := impl.KeepsLimits(c, x.limits, x.plan)
		checkAnswer(t, "KeepsLimits"+what, keeps, ok, x.keeps, x.fitted)
		partial, ok := impl.PartialPeriods(c, x.limits, x.plan)
		checkList(t, "PartialPeriods"+what, partial, ok, x.partial, x.keeps)
		regular, ok := impl.IsRegular(c, x.limits, x.plan)
		checkAnswer(t, "IsRegular"+what, regular, ok, x.regular, x.keeps)
		checkKept(t, c, x.limits, x.plan)
	}
}

func TestP4KeptOfAllPlans(t *testing.T) {
	var d dice = 71
	for _, c := range smallCases() {
		lists := d.thrownLimits(c)
		for _, plan := range allPlans(c) {
			for _, limits := range append(lists, slices.Clone(plan)) {
				checkKept(t, c, limits, plan)
			}
			if len(plan) > 0 {
				limits := slices.Clone(plan)
				limits[d.throw(len(limits)-1)] += d.throw(2) - 1
				checkKept(t, c, limits, plan)
			}
		}
		if t.Failed() {
			return
		}
	}
}

func TestP4ThrownKeptPlans(t *testing.T) {
	var d dice = 73
	for _, c := range fullCases() {
		for range 5 {
			plan := d.thrownPlan(c)
			limits := slices.Clone(plan)
			for i := range limits {
				limits[i] = min(160, max(0, limits[i]+d.throw(4)*d.throw(1)-d.throw(8)/8))
			}
			checkKept(t, c, limits, plan)
		}
	}
}

func TestP4LimitSavesExamples(t *testing.T) {
	c := caseOf([4]int{3, 5, 1, 1}, [4]int{2, 5, 1, 1}, [4]int{4, 5, 1, 1})
	for _, x := range []struct {
		limits       []int
		period, want int
		ok           bool
	}{
		{[]int{5, 5, 3}, 0, 1, true}, {[]int{5, 5, 3}, 1, 1, true}, {[]int{5, 5, 3}, 2, 3, true},
		{[]int{9, 9, 9}, 0, 0, true}, {[]int{159, 160, 160}, 0, 0, true}, {[]int{160, 159, 160}, 1, 0, true},
		{[]int{3, 2, 4}, 0, 0, true}, {[]int{4, 2, 4}, 0, 3, true}, {[]int{3, 5, 4}, 1, 1, true}, {[]int{9, 0, 0}, 0, 0, true},
		// A limit of MaxLimit, with others that are less.
		{[]int{160, 5, 3}, 0, 0, false}, {[]int{5, 160, 3}, 1, 0, false}, {[]int{5, 5, 160}, 2, 0, false}, {[]int{160, 160, 160}, 2, 0, false},
		{[]int{160, 5, 3}, 1, 0, true}, {[]int{160, 5, 3}, 2, 2, true},
		// Periods that do not exist.
		{[]int{5, 5, 3}, -1, 0, false}, {[]int{5, 5, 3}, 3, 0, false}, {[]int{5, 5, 3}, math.MinInt, 0, false}, {[]int{5, 5, 3}, math.MaxInt, 0, false}, {[]int{5, 5, 3}, 1 << 32, 0, false},
		// A Case that cannot be met, even if it can with the greater limit; and limits that are none.
		{[]int{3, 2, 3}, 2, 0, false}, {[]int{2, 3, 4}, 0, 0, false}, {[]int{3, 1, 5}, 1, 0, false}, {[]int{0, 0, 0}, 0, 0, false},
		{[]int{5, 5, 161}, 0, 0, false}, {[]int{5, 5, -1}, 2, 0, false}, {[]int{9, 9}, 0, 0, false}, {[]int{9, 9, 9, 9}, 3, 0, false}, {nil, 0, 0, false},
	} {
		saves, ok := impl.LimitSaves(c, x.limits, x.period)
		checkNumber(t, fmt.Sprint("LimitSaves ", x.limits, x.period), saves, ok, x.want, x.ok)
	}
}

func TestP4LimitSavesOfManyCases(t *testing.T) {
	var d dice = 79
	saved := 0
	for _, c := range allCases() {
		if len(c.Need) == 0 || needBySteps(c, 0, len(c.Need)) > 60 {
			continue
		}
		for _, limits := range d.thrownLimits(c)[:3] {
			period := d.throw(len(limits) - 1)
			before := limitedByTable(c, limits)
			right := before.can && limits[period] < 160
			want := 0
			if right {
				more := slices.Clone(limits)
				more[period]++
				want = before.cost - limitedByTable(c, more).cost
			}
			saves, ok := impl.LimitSaves(c, limits, period)
			checkNumber(t, fmt.Sprint("LimitSaves ", c, limits, period), saves, ok, want, right)
			if saves < 0 {
				t.Fatal("a greater limit costs more", c, limits, period, saves)
			}
			if saves > 0 {
				saved++
			}
		}
		if t.Failed() {
			return
		}
	}
	if saved < 200 {
		t.Error("too few limits that save something", saved)
	}
}

func TestP4LatestStartIsLate(t *testing.T) {
	var d dice = 83
	for _, c := range smallCases() {
		plans := allPlans(c)
		for _, limits := range d.thrownLimits(c) {
			lag, ok := impl.LatestStart(c, limits)
			if !ok {
				continue
			}
			least, fine := impl.StocksOf(c, lag)
			if keeps, good := impl.KeepsLimits(c, limits, lag); !fine || !good || !keeps {
				t.Fatal("not a plan that keeps limits", c, limits, lag)
			}
			for _, plan := range plans {
				stocks, _ := stocksBySteps(c, plan)
				for i := range plan {
					if keepsBySteps(limits, plan) && stocks[i] < least[i] {
						t.Fatal("another plan comes later", c, limits, lag, plan)
					}
				}
			}
		}
		lag, ok := impl.LatestStart(c, sameList(c, 160))
		checkList(t, fmt.Sprint("LatestStart ", c), lag, ok, c.Need, true)
	}
}

func TestP4ListsThatAreNoLimits(t *testing.T) {
	c := caseOf([4]int{3, 5, 1, 1}, [4]int{0, 5, 1, 1}, [4]int{4, 5, 1, 1})
	for _, limits := range [][]int{
		nil, {}, {9}, {9, 9}, {9, 9, 9, 9}, {-1, 9, 9}, {9, -1, 9}, {9, 9, -1}, {161, 9, 9}, {9, 161, 9}, {9, 9, 161}, {math.MaxInt, 9, 9}, {9, 9, math.MinInt},
		{9, math.MaxInt, math.MaxInt}, {1<<32 + 9, 9, 9}, make([]int, 5000), {160, 160, 160, 0}, {161, 161, 161},
	} {
		checkFailing(t, limitCalls(c, limits), "CanMeet", "FirstShort", "LimitedPlan", "LimitedCost", "LimitSaves", "RegularPlan", "LatestStart")
		checkKept(t, c, limits, []int{3, 0, 4})
		checkFailing(t, limitCalls(impl.Case{}, append([]int{0}, limits...)), "CanMeet", "FirstShort", "LimitedPlan", "LimitedCost", "LimitSaves", "RegularPlan", "LatestStart")
	}
	for _, limits := range [][]int{{160, 160, 160}, {160, 0, 0}, {3, 0, 4}, {7, 0, 0}} {
		checkLimits(t, c, limits, limitedByAll(c, limits, allPlans(c)))
	}
}

// checkFailing looks for calls of some functions that do not fail.
func checkFailing(t *testing.T, calls []lotCall, names ...string) {
	t.Helper()
	failed := 0
	for _, call := range calls {
		if !slices.Contains(names, call.name) {
			continue
		}
		checkZeroBesideFalse(t, []lotCall{call}, true)
		failed++
	}
	if failed < len(names) {
		t.Error("too few calls", names, failed)
	}
}

func TestP4LateExamples(t *testing.T) {
	c := caseOf([4]int{3, 5, 1, 2}, [4]int{2, 6, 2, 1}, [4]int{4, 7, 3, 9})
	for _, x := range []struct {
		rates, plan []int
		cost        int
		owed        []int
	}{
		{[]int{1, 2, 3}, []int{3, 2, 4}, 37, nil}, {[]int{1, 2, 3}, []int{9, 0, 0}, 30, nil}, {[]int{0, 0, 0}, []int{0, 0, 9}, 34, []int{0, 1}},
		{[]int{1, 2, 3}, []int{0, 0, 9}, 47, []int{0, 1}}, {[]int{9, 9, 9}, []int{0, 0, 9}, 106, []int{0, 1}}, {[]int{1, 2, 3}, []int{0, 9, 0}, 31, []int{0}},
		{[]int{1, 2, 3}, []int{2, 0, 7}, 42, []int{0, 1}}, {[]int{1, 2, 3}, []int{4, 0, 5}, 35, []int{1}}, {[]int{1, 2, 3}, []int{4, 5, 0}, 31, nil},
		{[]int{9, 0, 9}, []int{3, 0, 6}, 33, []int{1}}, {[]int{0, 9, 9}, []int{3, 0, 6}, 51, []int{1}}, {[]int{1, 2, 9}, []int{2, 3, 4}, 39, []int{0}},
	} {
		what := fmt.Sprint(x.rates, x.plan)
		cost, ok := impl.LateCost(c, x.rates, x.plan)
		checkNumber(t, "LateCost"+what, cost, ok, x.cost, true)
		owed, ok := impl.OwedPeriods(c, x.plan)
		checkList(t, "OwedPeriods"+what, owed, ok, x.owed, true)
		checkLate(t, c, x.rates, x.plan)
	}
	big := sameRows(8, [4]int{20, 99, 9, 9})
	cost, ok := impl.LateCost(big, sameList(big, 9), []int{0, 0, 0, 0, 0, 0, 0, 160})
	checkNumber(t, "LateCost", cost, ok, 99+1440+5040, true)
	cost, ok = impl.LateCost(big, sameList(big, 0), []int{0, 0, 0, 0, 0, 0, 0, 160})
	checkNumber(t, "LateCost", cost, ok, 99+1440, true)
}

func TestP4BestLateExamples(t *testing.T) {
	c := caseOf([4]int{3, 5, 1, 1}, [4]int{2, 5, 1, 1}, [4]int{4, 5, 1, 1})
	for _, x := range []struct {
		c           impl.Case
		rates, best []int
		cost        int
	}{
		{c, []int{1, 1, 1}, []int{0, 9, 0}, 21}, {c, []int{0, 0, 0}, []int{0, 0, 9}, 14}, {c, []int{0, 0, 9}, []int{0, 0, 9}, 14}, {c, []int{9, 9, 9}, []int{5, 0, 4}, 21},
		{c, []int{0, 9, 9}, []int{0, 9, 0}, 18}, {c, []int{9, 0, 9}, []int{3, 0, 6}, 19}, {c, []int{1, 0, 0}, []int{0, 0, 9}, 17},
		{caseOf([4]int{4, 5, 2, 1}), []int{9}, []int{4}, 13}, {caseOf([4]int{0, 5, 2, 1}), []int{0}, []int{0}, 0},
		// Several late plans that cost the same: the one whose amounts come last.
		{sameRows(3, [4]int{2, 0, 1, 0}), []int{0, 0, 0}, []int{0, 0, 6}, 6}, {sameRows(3, [4]int{2, 0, 1, 0}), []int{0, 1, 9}, []int{0, 4, 2}, 6},
		{sameRows(3, [4]int{2, 0, 1, 0}), []int{1, 0, 9}, []int{2, 0, 4}, 6}, {sameRows(3, [4]int{2, 0, 1, 0}), []int{1, 1, 0}, []int{2, 2, 2}, 6},
		// To owe all is best, whatever comes after.
		{caseOf([4]int{20, 0, 9, 9}, [4]int{0, 9, 1, 9}), []int{7, 9}, []int{0, 20}, 169}, {caseOf([4]int{20, 0, 9, 9}, [4]int{0, 9, 1, 9}), []int{8, 9}, []int{20, 0}, 180},
	} {
		plan, least, _ := firstBest(allLatePlans(x.c), func([]int) bool { return true }, func(plan []int) int { return lateCostBySteps(x.c, x.rates, plan) })
		if !slices.Equal(plan, x.best) || least != x.cost {
			t.Error("the example is wrong", x.c, x.rates, plan, least)
		}
		checkBestLate(t, x.c, x.rates, x.best, x.cost)
	}
}

func TestP4BestLatePlansOfSmallCases(t *testing.T) {
	var d dice = 89
	for _, c := range smallCases() {
		plans := allLatePlans(c)
		if len(plans) > 20000 {
			continue
		}
		for _, rates := range [][]int{d.thrownRates(c, 3), d.thrownRates(c, 9), sameList(c, 0)} {
			want, cost, _ := firstBest(plans, func([]int) bool { return true }, func(plan []int) int { return lateCostBySteps(c, rates, plan) })
			checkBestLate(t, c, rates, want, cost)
		}
		if t.Failed() {
			return
		}
	}
}

func TestP4BestLatePlansOfFullCases(t *testing.T) {
	var d dice = 97
	owed := 0
	for _, c := range fullCases() {
		if needBySteps(c, 0, len(c.Need)) > 90 {
			continue
		}
		for _, rates := range [][]int{d.thrownRates(c, 4), d.thrownRates(c, 9), sameList(c, 9)} {
			want, cost, _ := rulesAhead{c: c, limits: sameList(c, 160), rates: rates, late: true}.bestAhead()
			checkBestLate(t, c, rates, want, cost)
			if len(owedBySteps(c, want)) > 0 {
				owed++
			}
		}
		if t.Failed() {
			return
		}
	}
	if owed < 500 {
		t.Error("too few late plans that owe something", owed)
	}
}

func TestP4LeastLateIsAtMostBestCost(t *testing.T) {
	var d dice = 101
	less := 0
	for _, c := range allCases() {
		best, _ := impl.BestCost(c)
		for _, rates := range [][]int{d.thrownRates(c, 9), sameList(c, 0), sameList(c, 9)} {
			least, ok := impl.LeastLate(c, rates)
			plan, fine := impl.BestLatePlan(c, rates)
			cost, good := impl.LateCost(c, rates, plan)
			if !ok || !fine || !good || least > best || cost != least {
				t.Fatal("not the least cost", c, rates, least, best, plan, cost)
			}
			if least < best {
				less++
			}
		}
	}
	if less < 1000 {
		t.Error("too few Cases in which it is better to owe", less)
	}
}

func TestP4ALatePlanThatIsAPlanOwesNothing(t *testing.T) {
	var d dice = 103
	plans, others := 0, 0
	for _, c := range smallCases() {
		rates := d.thrownRates(c, 9)
		for _, plan := range allLatePlans(c) {
			checkLate(t, c, rates, plan)
			is, _ := impl.IsPlan(c, plan)
			owed, ok := impl.OwedPeriods(c, plan)
			if !ok || is != (len(owed) == 0) {
				t.Fatal("what a plan owes", c, plan, owed)
			}
			if !is {
				others++
				continue
			}
			plans++
			cost, _ := impl.PlanCost(c, plan)
			late, ok := impl.LateCost(c, rates, plan)
			checkNumber(t, fmt.Sprint("LateCost ", c, rates, plan), late, ok, cost, true)
		}
		if t.Failed() {
			return
		}
	}
	if plans < 1000 || others < 1000 {
		t.Error("too few late plans of one kind", plans, others)
	}
}

func TestP4ListsThatAreNoLatePlans(t *testing.T) {
	c := caseOf([4]int{3, 5, 1, 1}, [4]int{2, 5, 1, 1}, [4]int{4, 5, 1, 1})
	for _, plan := range [][]int{
		nil, {}, {9}, {5, 4}, {3, 2, 4, 0}, {0, 0, 0, 9}, {3, 2, 5}, {3, 2, 3}, {0, 0, 8}, {0, 0, 10}, {0, 0, 0}, {10, 0, 0}, {8, 0, 0}, {0, 10, 0},
		{-1, 6, 4}, {4, -1, 6}, {10, 0, -1}, {10, -1, 0}, {-1, 0, 10}, {math.MaxInt, 0, 0}, {math.MinInt, 0, 0}, {0, math.MinInt, math.MinInt}, {9, 0, math.MinInt},
		{math.MaxInt, math.MaxInt, 11}, {math.MaxInt, math.MinInt, 10}, {0, 0, 1<<32 + 9}, {1 << 62, 1 << 62, 9 - 1<<63}, {9, 1 << 63 >> 1, 1 << 62},
		make([]int, 5000), slices.Repeat([]int{3, 2, 4}, 2),
	} {
		if _, is := balancesBySteps(c, plan); is {
			t.Fatal("this is a late plan", plan)
		}
		checkLate(t, c, []int{1, 1, 1}, plan)
		checkLate(t, impl.Case{}, nil, append([]int{0}, plan...))
	}
}

func TestP4ListsThatAreNoRates(t *testing.T) {
	c := caseOf([4]int{3, 5, 1, 1}, [4]int{0, 5, 1, 1}, [4]int{4, 5, 1, 1})
	for _, rates := range [][]int{
		nil, {}, {1}, {1, 1}, {1, 1, 1, 1}, {-1, 1, 1}, {1, -1, 1}, {1, 1, -1}, {10, 1, 1}, {1, 10, 1}, {1, 1, 10}, {math.MaxInt, 1, 1}, {1, 1, math.MinInt}, {1<<32 + 1, 1, 1}, make([]int, 5000),
	} {
		checkFailing(t, limitCalls(c, rates), "BestLatePlan", "LeastLate")
		checkFailing(t, limitCalls(impl.Case{}, append([]int{0}, rates...)), "BestLatePlan", "LeastLate")
		for _, plan := range [][]int{{3, 0, 4}, {0, 0, 7}, {7, 0, 0}} {
			checkLate(t, c, rates, plan)
		}
	}
	for _, rates := range [][]int{{0, 0, 0}, {9, 9, 9}, {0, 9, 0}, {9, 0, 9}} {
		for _, plan := range allLatePlans(c) {
			checkLate(t, c, rates, plan)
		}
	}
}

func TestP4AllShortListsAsLimitsAndPlans(t *testing.T) {
	cases := []impl.Case{{}, caseOf([4]int{0, 1, 1, 1}), caseOf([4]int{2, 3, 1, 1}), caseOf([4]int{1, 4, 1, 2}, [4]int{2, 3, 2, 1})}
	for _, c := range cases {
		lists := [][]int{{}}
		for i := 0; i < len(lists); i++ {
			for _, other := range lists[:i+1] {
				checkKept(t, c, lists[i], other)
				checkKept(t, c, other, lists[i])
				checkLate(t, c, lists[i], other)
				checkLate(t, c, other, lists[i])
			}
			for x := -1; x <= 4 && len(lists[i]) < 3; x++ {
				lists = append(lists, append(slices.Clone(lists[i]), x))
			}
		}
	}
}

// limitCalls calls each function of the chapter with a Case, a list and several numbers.
func limitCalls(c impl.Case, list []int) []lotCall {
	var calls []lotCall
	add := func(name string, ok bool, results ...any) { calls = append(calls, lotCall{name, results, ok}) }
	can, ok := impl.CanMeet(c, list)
	add("CanMeet", ok, can)
	short, by, ok := impl.FirstShort(c, list)
	add("FirstShort", ok, short, by)
	plan, ok := impl.LimitedPlan(c, list)
	add("LimitedPlan", ok, plan)
	cost, ok := impl.LimitedCost(c, list)
	add("LimitedCost", ok, cost)
	for _, period := range []int{math.MinInt, -1, 0, 1, len(c.Need) - 1, len(c.Need), math.MaxInt} {
		saves, ok := impl.LimitSaves(c, list, period)
		add("LimitSaves", ok, saves)
	}
	regular, ok := impl.RegularPlan(c, list)
	add("RegularPlan", ok, regular)
	lag, ok := impl.LatestStart(c, list)
	add("LatestStart", ok, lag)
	is, ok := impl.IsLatePlan(c, list)
	add("IsLatePlan", ok, is)
	owed, ok := impl.OwedPeriods(c, list)
	add("OwedPeriods", ok, owed)
	late, ok := impl.BestLatePlan(c, list)
	add("BestLatePlan", ok, late)
	least, ok := impl.LeastLate(c, list)
	add("LeastLate", ok, least)
	for _, other := range [][]int{slices.Clone(plan), c.Need, list} {
		calls = append(calls, pairCalls(c, list, other)...)
		calls = append(calls, pairCalls(c, other, list)...)
	}
	return calls
}

// pairCalls calls the functions that take two lists.
func pairCalls(c impl.Case, one, two []int) []lotCall {
	keeps, ok1 := impl.KeepsLimits(c, one, two)
	partials, ok2 := impl.PartialPeriods(c, one, two)
	regular, ok3 := impl.IsRegular(c, one, two)
	cost, ok4 := impl.LateCost(c, one, two)
	return []lotCall{{"KeepsLimits", []any{keeps}, ok1}, {"PartialPeriods", []any{partials}, ok2}, {"IsRegular", []any{regular}, ok3}, {"LateCost", []any{cost}, ok4}}
}

// limitLists gives lists of numbers that may be limits or rates of a Case, or a plan, or neither.
func limitLists(c impl.Case) [][]int {
	var d dice = 107
	lists := append(lotLists(c), sameList(c, 160), sameList(c, 161), sameList(c, 9), sameList(c, 10))
	if impl.IsCase(c) {
		lists = append(lists, d.thrownLimits(c)...)
		lists = append(lists, d.thrownRates(c, 9))
	}
	return lists
}

func TestP13LimitFunctionsFailWithoutACase(t *testing.T) {
	for _, c := range noCases() {
		for _, list := range limitLists(c) {
			checkZeroBesideFalse(t, limitCalls(c, list), true)
		}
	}
}

func TestP13WhereLimitFunctionsFailAllResultsAreZero(t *testing.T) {
	for _, c := range fullCases() {
		for _, list := range limitLists(c) {
			checkZeroBesideFalse(t, limitCalls(c, list), false)
		}
	}
}

func TestP13LimitFunctionsLeaveTheirArguments(t *testing.T) {
	for _, c := range append(fullCases()[:400], noCases()...) {
		for _, list := range limitLists(c) {
			checkLeavesArguments(t, limitCalls, c, list)
		}
	}
}

func TestP13LimitFunctionsReturnTheSameAgain(t *testing.T) {
	for _, c := range append(fullCases()[:300], noCases()...) {
		for _, list := range limitLists(c) {
			checkSameAgain(t, limitCalls, c, list)
		}
	}
}
