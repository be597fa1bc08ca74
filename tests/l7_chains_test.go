package tests

import (
	"fmt"
	"math"
	"reflect"
	"slices"
	"testing"

	"loop.example/g01111/impl"
)

// chainOf gives the Chain with a Setup and a Hold for each stage.
func chainOf(need []int, stages ...[2]int) impl.Chain {
	c := impl.Chain{Need: need}
	for _, x := range stages {
		c.Setup, c.Hold = append(c.Setup, x[0]), append(c.Hold, x[1])
	}
	return c
}

func copyChain(c impl.Chain) impl.Chain {
	return impl.Chain{Need: slices.Clone(c.Need), Setup: slices.Clone(c.Setup), Hold: slices.Clone(c.Hold)}
}

// thrownChain gives a Chain of some periods and stages. A third of the Needs and of the Setups are 0.
func (d *dice) thrownChain(n, stages, need, setup, rate int) impl.Chain {
	c := impl.Chain{Need: make([]int, n), Setup: make([]int, stages), Hold: make([]int, stages)}
	for t := range c.Need {
		c.Need[t] = d.throw(need) * min(1, d.throw(2))
	}
	for stage := range c.Setup {
		c.Setup[stage], c.Hold[stage] = d.throw(setup)*min(1, d.throw(2)), d.throw(rate)
	}
	slices.Sort(c.Hold)
	return c
}

// stageLists are stages of small Chains: without holds, with equal ones, and with others.
var stageLists = [][][2]int{
	{{0, 0}}, {{2, 0}}, {{0, 1}}, {{3, 1}}, {{7, 2}},
	{{0, 0}, {0, 0}}, {{1, 0}, {1, 0}}, {{3, 0}, {2, 1}}, {{0, 1}, {4, 1}}, {{5, 1}, {0, 1}}, {{3, 1}, {2, 2}}, {{2, 1}, {3, 3}}, {{6, 0}, {1, 3}},
	{{0, 0}, {0, 0}, {0, 0}}, {{1, 0}, {1, 0}, {1, 0}}, {{2, 0}, {2, 0}, {2, 1}}, {{3, 1}, {2, 1}, {1, 1}}, {{1, 1}, {2, 2}, {3, 3}}, {{4, 0}, {0, 1}, {2, 1}}, {{0, 1}, {0, 1}, {5, 2}}, {{4, 1}, {3, 2}, {1, 4}},
}

// smallChains gives Chains with so few plans that one can look at all of them.
func smallChains() []impl.Chain {
	var found []impl.Chain
	needs := [][]int{nil}
	for i := range 3 {
		needs = append(needs, []int{i})
		for j := range 3 {
			needs = append(needs, []int{i, j})
			for k := range 3 {
				needs = append(needs, []int{i, j, k})
			}
		}
	}
	for _, need := range needs {
		for _, stages := range stageLists {
			found = append(found, chainOf(need, stages...))
		}
	}
	var d dice = 301
	for i := range 120 {
		found = append(found, d.thrownChain(4, 1+i%3, 2, 6, 3), d.thrownChain(4, 1+i%3, 1, 3, 1))
	}
	for i := range 20 {
		found = append(found, d.thrownChain(5, 1+i%3, 1, 4, 2), d.thrownChain(6, 1+i%3, 1, 4, 2))
	}
	return found
}

// fullChains gives Chains of all numbers of periods and stages, with numbers up to the limits.
func fullChains() []impl.Chain {
	var found []impl.Chain
	var d dice = 307
	for i := range 84 {
		n, stages := i%7, 1+i/7%3
		found = append(found, d.thrownChain(n, stages, 20, 99, 9), d.thrownChain(n, stages, 20, 99, 1), d.thrownChain(n, stages, 5, 30, 3), d.thrownChain(n, stages, 2, 3, 1))
	}
	for n := range 7 {
		for stages := 1; stages <= 3; stages++ {
			for i := range 8 {
				found = append(found, chainOf(slices.Repeat([]int{i & 1 * 20}, n), slices.Repeat([][2]int{{i >> 1 & 1 * 99, i >> 2 * 9}}, stages)...))
			}
		}
	}
	return found
}

// gapChains gives Chains without Needs at the beginning, in the middle, at the end and everywhere.
func gapChains() []impl.Chain {
	var found []impl.Chain
	for _, need := range [][]int{
		{0}, {0, 0}, {0, 0, 0, 0, 0, 0}, {0, 3}, {3, 0}, {0, 0, 3, 2}, {3, 0, 0, 2}, {3, 2, 0, 0}, {0, 3, 0, 2, 0}, {0, 0, 4, 0, 0, 0}, {5, 0, 0, 0, 0, 5}, {0, 0, 0, 0, 0, 20}, {20, 0, 0, 0, 0, 0},
		{1, 0, 2, 0, 3, 0}, {0, 1, 0, 2, 0, 3}, {0, 4, 4, 0, 4, 0},
	} {
		for _, stages := range stageLists {
			found = append(found, chainOf(need, stages...))
		}
	}
	return found
}

// noChains gives Chains of which one part is not valid.
func noChains() []impl.Chain {
	bad := []impl.Chain{{}, {Need: []int{1}}, {Setup: []int{1}}, {Hold: []int{1}}, {Need: []int{0}, Setup: []int{0}}, {Need: []int{0}, Hold: []int{0}}}
	good := []impl.Chain{chainOf(nil, [2]int{1, 1}), chainOf([]int{1, 0, 2}, [2]int{3, 1}, [2]int{2, 2}), chainOf([]int{20, 20, 20, 20, 20, 20}, [2]int{99, 0}, [2]int{99, 9}, [2]int{99, 9})}
	for _, c := range good {
		for row, most := range []int{20, 99, 9} {
			for at := range [][]int{c.Need, c.Setup, c.Hold}[row] {
				for _, x := range beyond(most) {
					d := copyChain(c)
					[][]int{d.Need, d.Setup, d.Hold}[row][at] = x
					bad = append(bad, d)
				}
			}
		}
		for _, lists := range [][2][]int{
			{nil, nil}, {c.Setup, nil}, {nil, c.Hold}, {append(slices.Clone(c.Setup), 1), c.Hold}, {c.Setup, append(slices.Clone(c.Hold), 9)}, {c.Setup[1:], c.Hold}, {c.Setup, c.Hold[1:]},
			{{1, 1, 1, 1}, {1, 1, 1, 1}}, {{0, 0, 0, 0}, {0, 0, 0, 0}}, {make([]int, 5000), make([]int, 5000)}, {make([]int, 5000), c.Hold}, {c.Setup, make([]int, 5000)},
			{{1, 1}, {1, 0}}, {{1, 1}, {9, 8}}, {{1, 1, 1}, {2, 2, 1}}, {{1, 1, 1}, {2, 1, 2}}, {{1, 1, 1}, {0, 9, 8}}, {{1, 1, 1}, {5, 4, 3}}, {{1, 1}, {9, 0}},
		} {
			bad = append(bad, impl.Chain{Need: c.Need, Setup: lists[0], Hold: lists[1]})
		}
		bad = append(bad, impl.Chain{Need: make([]int, 7), Setup: c.Setup, Hold: c.Hold}, impl.Chain{Need: slices.Repeat([]int{20}, 7), Setup: c.Setup, Hold: c.Hold}, impl.Chain{Need: make([]int, 5000), Setup: c.Setup, Hold: c.Hold})
	}
	return bad
}

// chainStocksBySteps gives the stocks of a list of lists, and whether it is a chain plan, period by
// period.
func chainStocksBySteps(c impl.Chain, plan [][]int) ([][]int, bool) {
	if len(plan) != len(c.Setup) {
		return nil, false
	}
	stocks := make([][]int, len(plan))
	for _, amounts := range plan {
		if len(amounts) != len(c.Need) || slices.ContainsFunc(amounts, func(x int) bool { return x < 0 || x > 1000 }) {
			return nil, false
		}
	}
	now := make([]int, len(plan))
	for t, need := range c.Need {
		for stage, amounts := range plan {
			now[stage] += amounts[t]
			if stage > 0 {
				now[stage-1] -= amounts[t]
			}
		}
		now[len(now)-1] -= need
		for stage, stock := range now {
			if stock < 0 {
				return nil, false
			}
			stocks[stage] = append(stocks[stage], stock)
		}
	}
	return stocks, !slices.ContainsFunc(now, func(x int) bool { return x != 0 })
}

// chainCostBySteps adds up the cost of a chain plan.
func chainCostBySteps(c impl.Chain, plan [][]int) int {
	cost := 0
	stocks, _ := chainStocksBySteps(c, plan)
	for t := range c.Need {
		for stage := range plan {
			cost += c.Hold[stage] * stocks[stage][t]
			if plan[stage][t] != 0 {
				cost += c.Setup[stage]
			}
		}
	}
	return cost
}

// nestedBySteps reports whether a chain plan is nested.
func nestedBySteps(plan [][]int) bool {
	for i := range plan {
		for t := range plan[i] {
			if i+1 < len(plan) && plan[i][t] > 0 && plan[i+1][t] == 0 {
				return false
			}
		}
	}
	return true
}

// nestedPlanBySteps gives the nested plan from lists, and whether there is one.
func nestedPlanBySteps(c impl.Chain, periods [][]int) ([][]int, bool) {
	if len(periods) != len(c.Setup) {
		return nil, false
	}
	var plan [][]int
	for stage, list := range periods {
		amounts, ok := planBySteps(impl.Case{Need: c.Need}, list)
		if !ok {
			return nil, false
		}
		for _, p := range list {
			if stage+1 < len(periods) && !slices.Contains(periods[stage+1], p) {
				return nil, false
			}
		}
		plan = append(plan, amounts)
	}
	return plan, true
}

// compareLists compares chain periods by the document's words.
func compareLists(a, b [][]int) int {
	size := func(lists [][]int) int {
		all := 0
		for _, list := range lists {
			all += len(list)
		}
		return all
	}
	if size(a) != size(b) {
		return size(a) - size(b)
	}
	for i := range a {
		if order := slices.Compare(a[i], b[i]); order != 0 {
			return order
		}
	}
	return 0
}

// nestedLists gives all lists of stages, each with all periods of the one before: each period is in
// those of the last stages, from none to all.
func nestedLists(n, stages int) [][][]int {
	found := [][][]int{make([][]int, stages)}
	for t := range n {
		var next [][][]int
		for _, lists := range found {
			for last := range stages + 1 {
				more := slices.Clone(lists)
				for stage := stages - last; stage < stages; stage++ {
					more[stage] = append(slices.Clip(more[stage]), t)
				}
				next = append(next, more)
			}
		}
		found = next
	}
	return found
}

// nestFound is the least cost of nested plans, the first chain periods that have it, and how many others with
// as many periods have it.
type nestFound struct {
	cost    int
	periods [][]int
	others  int
}

// nestByAll looks at all chain periods.
func nestByAll(c impl.Chain) nestFound {
	var all [][][]int
	least := math.MaxInt
	for _, lists := range nestedLists(len(c.Need), len(c.Setup)) {
		plan, ok := nestedPlanBySteps(c, lists)
		if !ok {
			continue
		}
		cost := chainCostBySteps(c, plan)
		if cost < least {
			least, all = cost, nil
		}
		if cost == least {
			all = append(all, lists)
		}
	}
	first := slices.MinFunc(all, compareLists)
	found := nestFound{cost: least, periods: first, others: -1}
	for _, lists := range all {
		if len(slices.Concat(lists...)) == len(slices.Concat(first...)) {
			found.others++
		}
	}
	return found
}

// allChainPlans gives each chain plan of some stages that meets Needs.
func allChainPlans(need []int, stages int) [][][]int {
	if stages == 0 {
		return [][][]int{nil}
	}
	var found [][][]int
	for _, last := range allPlans(impl.Case{Need: need}) {
		for _, before := range allChainPlans(last, stages-1) {
			found = append(found, append(slices.Clone(before), last))
		}
	}
	return found
}

// leftBehind tells what is left of each good, if so many are ordered of each up to a period and so
// many are due: less than 0 if there cannot be so many.
type leftBehind func(ordered [3]int, due int) [3]int

// leftInChain is for a Chain of some stages.
func leftInChain(stages int) leftBehind {
	return func(ordered [3]int, due int) [3]int {
		for stage := range stages - 1 {
			ordered[stage] -= ordered[stage+1]
		}
		ordered[stages-1] -= due
		return ordered
	}
}

// leftInAssembly is for an assembly of some goods.
func leftInAssembly(goods int) leftBehind {
	return func(ordered [3]int, due int) [3]int {
		for good := 1; good < goods; good++ {
			ordered[good] -= ordered[0]
		}
		ordered[0] -= due
		return ordered
	}
}

// leastByTable gives the least cost of all plans, by a table of what can have been ordered of each
// good up to each period.
func leastByTable(need, setups, holds []int, left leftBehind) int {
	const never = 1 << 40
	side, size := 1, 1
	for _, x := range need {
		side += x
	}
	for range setups {
		size *= side
	}
	table := slices.Repeat([]int{never}, size)
	table[0] = 0
	due := 0
	for _, x := range need {
		due += x
		stride := 1
		for _, setup := range setups {
			raise(table, side, stride, setup)
			stride *= side
		}
		for i := range table {
			var ordered [3]int
			for good, rest := 0, i; good < len(setups); good, rest = good+1, rest/side {
				ordered[good] = rest % side
			}
			for good, stock := range left(ordered, due) {
				switch {
				case stock < 0:
					table[i] = never
				case stock > 0:
					table[i] += holds[good] * stock
				}
			}
		}
	}
	return table[size-1]
}

// raise allows one order of a good, of any amount.
func raise(table []int, side, stride, setup int) {
	for i := range table {
		if i/stride%side > 0 {
			continue
		}
		least := table[i]
		for x := 1; x < side; x++ {
			spot := &table[i+x*stride]
			before := *spot
			*spot = min(before, least+setup)
			least = min(least, before)
		}
	}
}

// stageCaseBySteps gives the Case of a stage.
func stageCaseBySteps(c impl.Chain, stage int) impl.Case {
	hold := c.Hold[stage]
	if stage > 0 {
		hold -= c.Hold[stage-1]
	}
	var k impl.Case
	for _, need := range c.Need {
		k.Need, k.Setup = append(k.Need, need), append(k.Setup, c.Setup[stage])
		k.Unit, k.Hold = append(k.Unit, 0), append(k.Hold, hold)
	}
	return k
}

// stagewiseBySteps makes a plan stage by stage, and tells whether there is one.
func stagewiseBySteps(c impl.Chain) ([][]int, bool) {
	var plan [][]int
	need := c.Need
	for stage := len(c.Setup) - 1; stage >= 0; stage-- {
		var k impl.Case
		for _, x := range need {
			if x > 20 {
				return nil, false
			}
			k.Need, k.Setup = append(k.Need, x), append(k.Setup, c.Setup[stage])
			k.Unit, k.Hold = append(k.Unit, 0), append(k.Hold, c.Hold[stage])
		}
		periods, _ := bestByAll(k)
		need, _ = planBySteps(k, periods)
		plan = append([][]int{need}, plan...)
	}
	return plan, true
}

// checkChainPlan compares all that is told of a list of lists that is a chain plan, or that is none.
func checkChainPlan(t *testing.T, c impl.Chain, plan [][]int) {
	t.Helper()
	stocks, is := chainStocksBySteps(c, plan)
	var echelons [][]int
	cost := 0
	if is {
		cost = chainCostBySteps(c, plan)
		for stage := range stocks {
			sum := make([]int, len(c.Need))
			for _, later := range stocks[stage:] {
				for at, stock := range later {
					sum[at] += stock
				}
			}
			echelons = append(echelons, sum)
		}
	} else {
		stocks = nil
	}
	what := fmt.Sprint(" ", c, plan)
	answer, ok := impl.IsChainPlan(c, plan)
	checkAnswer(t, "IsChainPlan"+what, answer, ok, is, true)
	got, ok := impl.ChainStocks(c, plan)
	checkTable(t, "ChainStocks"+what, got, ok, stocks, is)
	got, ok = impl.EchelonStocks(c, plan)
	checkTable(t, "EchelonStocks"+what, got, ok, echelons, is)
	number, ok := impl.ChainCost(c, plan)
	checkNumber(t, "ChainCost"+what, number, ok, cost, is)
	answer, ok = impl.IsNestedPlan(c, plan)
	checkAnswer(t, "IsNestedPlan"+what, answer, ok, is && nestedBySteps(plan), is)
}

// checkNestedPlan compares the nested plan from lists, or that there is none.
func checkNestedPlan(t *testing.T, c impl.Chain, periods [][]int) bool {
	t.Helper()
	want, is := nestedPlanBySteps(c, periods)
	if !is {
		want = nil
	}
	got, ok := impl.NestedPlan(c, periods)
	checkTable(t, fmt.Sprint("NestedPlan ", c, periods), got, ok, want, is)
	return is
}

// checkStages compares all that is told of a Chain stage by stage, and the Chain's order of costs.
func checkStages(t *testing.T, c impl.Chain) {
	t.Helper()
	what := fmt.Sprint(" ", c)
	if !impl.IsChain(c) {
		t.Error("no Chain", c)
	}
	var holds []int
	bound := 0
	for stage := range c.Setup {
		want := stageCaseBySteps(c, stage)
		k, ok := impl.StageCase(c, stage)
		checkCase(t, fmt.Sprint("StageCase", what, stage), k, ok, want, true)
		_, least := bestByAll(want)
		bound += least
		hold := c.Hold[stage]
		for before := range stage {
			hold -= holds[before]
		}
		holds = append(holds, hold)
	}
	got, ok := impl.EchelonHolds(c)
	checkList(t, "EchelonHolds"+what, got, ok, holds, true)
	sum, ok := impl.ChainBound(c)
	checkNumber(t, "ChainBound"+what, sum, ok, bound, true)
	plan, ok := impl.StagewisePlan(c)
	want, is := stagewiseBySteps(c)
	checkTable(t, "StagewisePlan"+what, plan, ok, want, is)
	best, _ := impl.BestChainCost(c)
	if cost, _ := impl.ChainCost(c, plan); sum > best || is && best > cost {
		t.Error("not in this order", c, sum, best, cost)
	}
}

// checkBestNested compares the best chain periods and their cost, and tells how many others are as good.
func checkBestNested(t *testing.T, c impl.Chain) int {
	t.Helper()
	want := nestByAll(c)
	periods, ok := impl.BestNested(c)
	checkTable(t, fmt.Sprint("BestNested ", c), periods, ok, want.periods, true)
	least, ok := impl.BestChainCost(c)
	checkNumber(t, fmt.Sprint("BestChainCost ", c), least, ok, want.cost, true)
	plan, ok := impl.NestedPlan(c, periods)
	if cost, fine := impl.ChainCost(c, plan); !ok || !fine || cost != least {
		t.Error("another cost", c, periods, plan, cost, least)
	}
	return want.others
}

func checkAssembly(t *testing.T, need, setups, holds []int, want int, wantOK bool) {
	t.Helper()
	got, ok := impl.BestAssembly(need, setups, holds)
	checkNumber(t, fmt.Sprint("BestAssembly ", need, setups, holds), got, ok, want, wantOK)
}

// thrownChainPlan gives a chain plan whose amounts lie anywhere before they are taken.
func (d *dice) thrownChainPlan(c impl.Chain) [][]int {
	plan := make([][]int, len(c.Setup))
	need := c.Need
	for stage := len(plan) - 1; stage >= 0; stage-- {
		plan[stage] = d.thrownPlan(impl.Case{Need: need})
		need = plan[stage]
	}
	return plan
}

// thrownChainPeriods gives chain periods of which there is often a nested plan, and often none.
func (d *dice) thrownChainPeriods(c impl.Chain) [][]int {
	lists := make([][]int, len(c.Setup))
	for t := range c.Need {
		from := d.throw(len(lists))
		if t == 0 && d.throw(3) > 0 {
			from = 0
		}
		for stage := from; stage < len(lists); stage++ {
			lists[stage] = append(lists[stage], t)
		}
	}
	return lists
}

// spoiledLists gives lists of lists that differ from some lists in one number, or in their shape.
func spoiledLists(lists [][]int) [][][]int {
	found := [][][]int{nil, {}, append(copyTable(lists), nil), append(copyTable(lists), []int{0}), append([][]int{{0}}, copyTable(lists)...), make([][]int, 5000)}
	if len(lists) > 0 {
		found = append(found, lists[1:], lists[:len(lists)-1])
		found = append(found, append(copyTable(lists), lists[0]), append(copyTable(lists), lists[len(lists)-1]))
	}
	for stage := range lists {
		change := func(list []int) {
			other := copyTable(lists)
			other[stage] = list
			found = append(found, other)
		}
		list := lists[stage]
		change(nil)
		change(append(slices.Clone(list), 0))
		change(append(slices.Clone(list), 1))
		change(append([]int{0}, list...))
		change(make([]int, 5000))
		for at := range list {
			change(slices.Delete(slices.Clone(list), at, at+1))
			for _, x := range []int{-1, list[at] - 1, list[at] + 1, math.MaxInt, math.MinInt, list[at] + 1<<32, list[at] | math.MinInt, 6, 7} {
				other := slices.Clone(list)
				other[at] = x
				change(other)
			}
		}
	}
	return found
}

func TestChainLimits(t *testing.T) {
	if impl.MaxStages != 3 || impl.MaxLinks != 6 {
		t.Error("bounds", impl.MaxStages, impl.MaxLinks)
	}
}

func TestP7IsChain(t *testing.T) {
	for _, c := range slices.Concat(smallChains(), fullChains(), gapChains(), []impl.Chain{
		{Setup: []int{0}, Hold: []int{0}}, {Need: []int{0}, Setup: []int{0}, Hold: []int{0}}, {Need: []int{20, 20, 20, 20, 20, 20}, Setup: []int{99, 99, 99}, Hold: []int{9, 9, 9}},
		{Need: []int{}, Setup: []int{99, 0, 99}, Hold: []int{0, 0, 9}}, {Need: []int{1}, Setup: []int{0, 0, 0}, Hold: []int{0, 1, 1}}, {Need: []int{1}, Setup: []int{3, 2, 1}, Hold: []int{7, 8, 9}}, {Setup: []int{1, 1}, Hold: []int{8, 8}},
	}) {
		if !impl.IsChain(c) {
			t.Error("no Chain", c)
		}
	}
	for _, c := range noChains() {
		if impl.IsChain(c) {
			t.Error("a Chain", c)
		}
	}
}

func TestP7PlanExamples(t *testing.T) {
	two := chainOf([]int{1, 0, 2}, [2]int{3, 1}, [2]int{2, 2})
	three := chainOf([]int{2, 3, 0, 4}, [2]int{9, 0}, [2]int{5, 1}, [2]int{1, 4})
	idle := chainOf([]int{0, 0}, [2]int{7, 3}, [2]int{8, 4})
	for _, x := range []struct {
		c                      impl.Chain
		plan, stocks, echelons [][]int
		cost                   int
		nested                 bool
	}{
		{two, [][]int{{3, 0, 0}, {1, 0, 2}}, [][]int{{2, 2, 0}, {0, 0, 0}}, [][]int{{2, 2, 0}, {0, 0, 0}}, 11, true},
		{two, [][]int{{1, 2, 0}, {1, 0, 2}}, [][]int{{0, 2, 0}, {0, 0, 0}}, [][]int{{0, 2, 0}, {0, 0, 0}}, 12, false},
		{two, [][]int{{1, 0, 2}, {1, 0, 2}}, [][]int{{0, 0, 0}, {0, 0, 0}}, [][]int{{0, 0, 0}, {0, 0, 0}}, 10, true},
		{two, [][]int{{3, 0, 0}, {3, 0, 0}}, [][]int{{0, 0, 0}, {2, 2, 0}}, [][]int{{2, 2, 0}, {2, 2, 0}}, 13, true},
		{two, [][]int{{3, 0, 0}, {2, 1, 0}}, [][]int{{1, 0, 0}, {1, 2, 0}}, [][]int{{2, 2, 0}, {1, 2, 0}}, 3 + 4 + 1 + 6, true},
		{two, [][]int{{2, 0, 1}, {1, 1, 1}}, [][]int{{1, 0, 0}, {0, 1, 0}}, [][]int{{1, 1, 0}, {0, 1, 0}}, 6 + 6 + 1 + 2, true},
		{three, [][]int{{9, 0, 0, 0}, {5, 0, 0, 4}, {2, 3, 0, 4}}, [][]int{{4, 4, 4, 0}, {3, 0, 0, 0}, {0, 0, 0, 0}}, [][]int{{7, 4, 4, 0}, {3, 0, 0, 0}, {0, 0, 0, 0}}, 9 + 10 + 3 + 3, true},
		{three, [][]int{{4, 5, 0, 0}, {4, 1, 4, 0}, {3, 2, 0, 4}}, [][]int{{0, 4, 0, 0}, {1, 0, 4, 0}, {1, 0, 0, 0}}, [][]int{{2, 4, 4, 0}, {2, 0, 4, 0}, {1, 0, 0, 0}}, 18 + 15 + 3 + 5 + 4, false},
		{three, [][]int{{9, 0, 0, 0}, {9, 0, 0, 0}, {9, 0, 0, 0}}, [][]int{{0, 0, 0, 0}, {0, 0, 0, 0}, {7, 4, 4, 0}}, [][]int{{7, 4, 4, 0}, {7, 4, 4, 0}, {7, 4, 4, 0}}, 15 + 60, true},
		{idle, [][]int{{0, 0}, {0, 0}}, [][]int{{0, 0}, {0, 0}}, [][]int{{0, 0}, {0, 0}}, 0, true},
		{chainOf(nil, [2]int{7, 3}, [2]int{8, 4}), [][]int{{}, {}}, [][]int{nil, nil}, [][]int{nil, nil}, 0, true},
		{chainOf([]int{4}, [2]int{7, 3}), [][]int{{4}}, [][]int{{0}}, [][]int{{0}}, 7, true},
	} {
		stocks, ok := impl.ChainStocks(x.c, x.plan)
		checkTable(t, fmt.Sprint("ChainStocks ", x.c, x.plan), stocks, ok, x.stocks, true)
		echelons, ok := impl.EchelonStocks(x.c, x.plan)
		checkTable(t, fmt.Sprint("EchelonStocks ", x.c, x.plan), echelons, ok, x.echelons, true)
		cost, ok := impl.ChainCost(x.c, x.plan)
		checkNumber(t, fmt.Sprint("ChainCost ", x.c, x.plan), cost, ok, x.cost, true)
		nested, ok := impl.IsNestedPlan(x.c, x.plan)
		checkAnswer(t, fmt.Sprint("IsNestedPlan ", x.c, x.plan), nested, ok, x.nested, true)
		is, ok := impl.IsChainPlan(x.c, x.plan)
		checkAnswer(t, fmt.Sprint("IsChainPlan ", x.c, x.plan), is, ok, true, true)
	}
}

func TestP7TheDearestChainPlan(t *testing.T) {
	c := chainOf([]int{0, 0, 0, 0, 0, 20}, [2]int{99, 9}, [2]int{99, 9}, [2]int{99, 9})
	plan := [][]int{{15, 1, 1, 1, 1, 1}, {15, 1, 1, 1, 1, 1}, {15, 1, 1, 1, 1, 1}}
	cost, ok := impl.ChainCost(c, plan)
	checkNumber(t, "ChainCost", cost, ok, 18*99+9*(15+16+17+18+19), true)
}

func TestP7AllPlansOfSmallChains(t *testing.T) {
	for i, c := range smallChains() {
		for j, plan := range allChainPlans(c.Need, len(c.Setup)) {
			if j%5 != i%5 {
				continue
			}
			checkChainPlan(t, c, plan)
			stocks, _ := impl.ChainStocks(c, plan)
			echelons, _ := impl.EchelonStocks(c, plan)
			holds, _ := impl.EchelonHolds(c)
			one, two := 0, 0
			for stage := range stocks {
				for at := range c.Need {
					one += c.Hold[stage] * stocks[stage][at]
					two += holds[stage] * echelons[stage][at]
				}
			}
			if one != two {
				t.Fatal("not the same holds", c, plan, one, two)
			}
		}
	}
}

func TestP7AllShortListsAsChainPlans(t *testing.T) {
	digits := func(i, n int) []int {
		var list []int
		for ; n > 0; n-- {
			list = append(list, i%4-1)
			i /= 4
		}
		return list
	}
	for _, need := range [][]int{{1}, {0, 1}, {1, 1}, {0, 0}, {2, 0}} {
		n := len(need)
		for _, stages := range [][][2]int{{{3, 1}}, {{3, 1}, {2, 2}}} {
			c := chainOf(need, stages...)
			for i := range 1 << (2 * n * len(stages)) {
				all := digits(i, n*len(stages))
				checkChainPlan(t, c, slices.Collect(slices.Chunk(all, n)))
			}
		}
	}
}

func TestP7ThrownChainPlansAndTheirNeighbours(t *testing.T) {
	var d dice = 311
	for _, c := range append(fullChains(), gapChains()...) {
		plan := d.thrownChainPlan(c)
		checkChainPlan(t, c, plan)
		for _, other := range spoiledLists(plan) {
			checkChainPlan(t, c, other)
		}
		if len(c.Need) > 1 {
			other := copyTable(plan)
			stage, from, to := d.throw(len(plan)-1), d.throw(len(c.Need)-1), d.throw(len(c.Need)-1)
			other[stage][from]--
			other[stage][to]++
			checkChainPlan(t, c, other)
		}
	}
}

func TestP7AmountsThatWrapAround(t *testing.T) {
	one := chainOf([]int{1, 2}, [2]int{3, 1})
	two := chainOf([]int{1, 2}, [2]int{3, 1}, [2]int{2, 2})
	for _, x := range [][]int{{math.MaxInt, math.MinInt + 4}, {math.MinInt + 3, math.MinInt}, {1 << 62, -1<<62 + 3}, {4, -1}, {3 + 1<<32, -1 << 32}, {math.MinInt, math.MinInt + 3}, {1<<62 + 1, 1<<62 + 2}} {
		checkChainPlan(t, one, [][]int{x})
		checkChainPlan(t, two, [][]int{x, {1, 2}})
		checkChainPlan(t, two, [][]int{{1, 2}, x})
		checkChainPlan(t, two, [][]int{x, x})
	}
	four := chainOf([]int{1, 0, 0, 0}, [2]int{3, 1})
	checkChainPlan(t, four, [][]int{{1 << 62, 1 << 62, 1 << 62, 1<<62 + 1}})
	checkChainPlan(t, four, [][]int{{1, 0, 0, 0}})
}

func TestP7NestedPlanExamples(t *testing.T) {
	two := chainOf([]int{1, 0, 2}, [2]int{3, 1}, [2]int{2, 2})
	late := chainOf([]int{0, 4, 0, 2}, [2]int{3, 1}, [2]int{2, 2}, [2]int{0, 2})
	idle := chainOf([]int{0, 0}, [2]int{7, 3}, [2]int{8, 4})
	none := chainOf(nil, [2]int{7, 3}, [2]int{8, 4})
	for _, x := range []struct {
		c       impl.Chain
		periods [][]int
		want    [][]int
		ok      bool
	}{
		{two, [][]int{{0}, {0, 2}}, [][]int{{3, 0, 0}, {1, 0, 2}}, true}, {two, [][]int{{0}, {0}}, [][]int{{3, 0, 0}, {3, 0, 0}}, true}, {two, [][]int{{0, 1}, {0, 1, 2}}, [][]int{{1, 2, 0}, {1, 0, 2}}, true}, {two, [][]int{{0, 1}, {0, 1}}, [][]int{{1, 2, 0}, {1, 2, 0}}, true},
		{two, [][]int{{0, 1}, {0, 2}}, nil, false}, {two, [][]int{{0, 2}, {0}}, nil, false}, {two, [][]int{{1}, {0, 1}}, nil, false}, {two, [][]int{{0}, {1}}, nil, false}, {two, [][]int{{}, {0}}, nil, false}, {two, [][]int{{0}, {}}, nil, false}, {two, [][]int{{}, {}}, nil, false},
		{two, [][]int{{0}}, nil, false}, {two, nil, nil, false}, {two, [][]int{{0}, {0}, {0}}, nil, false}, {two, [][]int{{0}, {0, 0}}, nil, false}, {two, [][]int{{0, 0}, {0}}, nil, false}, {two, [][]int{{0}, {2, 0}}, nil, false}, {two, [][]int{{2, 0}, {0, 2}}, nil, false}, {two, [][]int{{0}, {0, 3}}, nil, false}, {two, [][]int{{0, 3}, {0, 3}}, nil, false}, {two, [][]int{{0}, {-1, 0}}, nil, false}, {two, [][]int{{-1, 0}, {-1, 0}}, nil, false},
		{late, [][]int{{1}, {1}, {1}}, [][]int{{0, 6, 0, 0}, {0, 6, 0, 0}, {0, 6, 0, 0}}, true}, {late, [][]int{{0}, {0}, {0}}, [][]int{{6, 0, 0, 0}, {6, 0, 0, 0}, {6, 0, 0, 0}}, true}, {late, [][]int{{1}, {0, 1}, {0, 1, 2, 3}}, [][]int{{0, 6, 0, 0}, {0, 6, 0, 0}, {0, 4, 0, 2}}, true}, {late, [][]int{{0}, {0, 2}, {0, 1, 2}}, [][]int{{6, 0, 0, 0}, {4, 0, 2, 0}, {0, 4, 2, 0}}, true},
		{late, [][]int{{2}, {1, 2}, {1, 2}}, nil, false}, {late, [][]int{{1}, {2}, {1, 2}}, nil, false}, {late, [][]int{{1, 3}, {1, 2}, {1, 2, 3}}, nil, false}, {late, [][]int{{1}, {1, 3}, {1, 2}}, nil, false}, {late, [][]int{{1}, {1, 2}, {1, 2, 3}}, [][]int{{0, 6, 0, 0}, {0, 4, 2, 0}, {0, 4, 0, 2}}, true},
		{idle, [][]int{{}, {}}, [][]int{{0, 0}, {0, 0}}, true}, {idle, [][]int{{}, {1}}, [][]int{{0, 0}, {0, 0}}, true}, {idle, [][]int{{0, 1}, {0, 1}}, [][]int{{0, 0}, {0, 0}}, true}, {idle, [][]int{{1}, {}}, nil, false}, {idle, [][]int{{2}, {2}}, nil, false}, {idle, nil, nil, false},
		{none, [][]int{{}, {}}, [][]int{{}, {}}, true}, {none, [][]int{nil, nil}, [][]int{{}, {}}, true}, {none, [][]int{{}, {0}}, nil, false}, {none, [][]int{{}}, nil, false}, {none, nil, nil, false},
	} {
		plan, ok := impl.NestedPlan(x.c, x.periods)
		checkTable(t, fmt.Sprint("NestedPlan ", x.c, x.periods), plan, ok, x.want, x.ok)
	}
}

func TestP7NestedPlansOfAllLists(t *testing.T) {
	found := 0
	for _, need := range [][]int{{}, {0}, {3}, {1, 2}, {0, 2}, {2, 0}, {0, 0}, {1, 0, 2}, {0, 3, 1}, {0, 0, 0}, {0, 0, 2}} {
		lists := orderLists(len(need))
		one, two := chainOf(need, [2]int{3, 1}), chainOf(need, [2]int{3, 1}, [2]int{2, 2})
		three := chainOf(need, [2]int{3, 1}, [2]int{2, 2}, [2]int{4, 2})
		for _, a := range lists {
			checkNestedPlan(t, one, [][]int{a})
			for _, b := range lists {
				checkNestedPlan(t, two, [][]int{a, b})
				for _, c := range lists {
					if checkNestedPlan(t, three, [][]int{a, b, c}) {
						found++
					}
				}
			}
		}
	}
	if found < 100 {
		t.Error("too few nested plans", found)
	}
}

func TestP7ThrownChainPeriodsAndTheirNeighbours(t *testing.T) {
	var d dice = 313
	found := 0
	for _, c := range append(fullChains(), gapChains()...) {
		periods := d.thrownChainPeriods(c)
		if checkNestedPlan(t, c, periods) {
			found++
		}
		for _, other := range spoiledLists(periods) {
			checkNestedPlan(t, c, other)
		}
	}
	if found < 100 {
		t.Error("too few nested plans", found)
	}
}

func TestP7ANestedPlanIsAChainPlan(t *testing.T) {
	for _, c := range gapChains() {
		if len(c.Need) > 4 {
			continue
		}
		for _, lists := range nestedLists(len(c.Need), len(c.Setup)) {
			plan, ok := impl.NestedPlan(c, lists)
			if is, fine := impl.IsChainPlan(c, plan); !fine || is != ok {
				t.Fatal("no chain plan", c, lists, plan, ok)
			}
		}
	}
}

func TestP7BestExamples(t *testing.T) {
	for _, x := range []struct {
		c           impl.Chain
		periods     [][]int
		cost, bound int
	}{
		{chainOf([]int{1, 0, 2}, [2]int{3, 1}, [2]int{2, 2}), [][]int{{0, 2}, {0, 2}}, 10, 10},
		{chainOf(nil, [2]int{3, 1}), [][]int{{}}, 0, 0},
		{chainOf(nil, [2]int{3, 1}, [2]int{3, 1}, [2]int{3, 1}), [][]int{{}, {}, {}}, 0, 0},
		{chainOf([]int{0, 0, 0}, [2]int{3, 1}, [2]int{3, 1}), [][]int{{}, {}}, 0, 0},
		{chainOf([]int{0, 0, 0, 0, 0, 0}, [2]int{0, 0}, [2]int{0, 0}, [2]int{0, 0}), [][]int{{}, {}, {}}, 0, 0},
		{chainOf([]int{4}, [2]int{3, 1}, [2]int{2, 2}, [2]int{1, 9}), [][]int{{0}, {0}, {0}}, 6, 6},
		{chainOf([]int{0, 0, 5}, [2]int{3, 1}, [2]int{2, 2}), [][]int{{2}, {2}}, 5, 5},
		{chainOf([]int{5, 0, 0}, [2]int{3, 1}, [2]int{2, 2}), [][]int{{0}, {0}}, 5, 5},
		{chainOf([]int{0, 0, 5}, [2]int{3, 0}, [2]int{2, 0}), [][]int{{0}, {0}}, 5, 5},         // without holds the first period does as well
		{chainOf([]int{0, 0, 5}, [2]int{3, 0}, [2]int{2, 1}), [][]int{{2}, {2}}, 5, 5},         // one would have to hold, or to order in a further period
		{chainOf([]int{1, 1, 1}, [2]int{9, 0}, [2]int{1, 2}), [][]int{{0}, {0, 1, 2}}, 12, 12}, // the stage without holds orders once
		{chainOf([]int{1, 1, 1}, [2]int{1, 2}, [2]int{9, 2}), [][]int{{0}, {0}}, 16, 12},       // alone the stage 0 would order in each period
		{chainOf([]int{1, 1, 1}, [2]int{0, 0}, [2]int{0, 0}), [][]int{{0}, {0}}, 0, 0},
		{chainOf([]int{1, 1, 1}, [2]int{2, 1}, [2]int{0, 1}), [][]int{{0}, {0}}, 5, 5}, // {0, 1}, {0, 1} and {0, 2}, {0, 2} cost as much
		{chainOf([]int{2, 2}, [2]int{1, 1}, [2]int{1, 1}), [][]int{{0}, {0}}, 4, 3},
		{chainOf([]int{3, 3}, [2]int{1, 1}, [2]int{1, 1}), [][]int{{0, 1}, {0, 1}}, 4, 3},
		{chainOf([]int{20, 20, 20, 20, 20, 20}, [2]int{99, 9}, [2]int{99, 9}, [2]int{99, 9}), [][]int{{0, 2, 4}, {0, 2, 4}, {0, 2, 4}}, 1431, 792},
		{chainOf([]int{20, 20, 20, 20, 20, 20}, [2]int{99, 9}), [][]int{{0, 1, 2, 3, 4, 5}}, 594, 594},
		{chainOf([]int{0, 1, 0, 1, 0, 1}, [2]int{4, 1}, [2]int{1, 3}), [][]int{{1}, {1, 3, 5}}, 13, 13},
	} {
		periods, ok := impl.BestNested(x.c)
		checkTable(t, fmt.Sprint("BestNested ", x.c), periods, ok, x.periods, true)
		cost, ok := impl.BestChainCost(x.c)
		checkNumber(t, fmt.Sprint("BestChainCost ", x.c), cost, ok, x.cost, true)
		bound, ok := impl.ChainBound(x.c)
		checkNumber(t, fmt.Sprint("ChainBound ", x.c), bound, ok, x.bound, true)
	}
}

func TestP7BestNestedOfEqualCosts(t *testing.T) {
	for _, x := range []struct {
		c       impl.Chain
		periods [][]int
	}{
		{chainOf([]int{1, 1, 1}, [2]int{1, 1}, [2]int{0, 2}), [][]int{{0, 1}, {0, 1, 2}}}, // {0, 2}, {0, 1, 2} comes behind it
		{chainOf([]int{2, 1, 1}, [2]int{1, 0}, [2]int{1, 1}), [][]int{{0}, {0, 1}}},       // {0}, {0, 2} comes behind it
		{chainOf([]int{2, 1, 1}, [2]int{1, 1}, [2]int{0, 1}), [][]int{{0, 1}, {0, 1}}},
		{chainOf([]int{1, 1, 1, 1}, [2]int{2, 1}, [2]int{0, 1}), [][]int{{0, 2}, {0, 2}}},
		{chainOf([]int{2, 1, 1, 0}, [2]int{1, 0}, [2]int{1, 0}, [2]int{1, 1}), [][]int{{0}, {0}, {0, 1}}},
		{chainOf([]int{0, 0, 1, 0}, [2]int{1, 0}, [2]int{1, 0}, [2]int{1, 0}), [][]int{{0}, {0}, {0}}},
		{chainOf([]int{0, 0, 1, 0}, [2]int{0, 0}, [2]int{0, 0}, [2]int{0, 1}), [][]int{{2}, {2}, {2}}},
		// As many periods, and the first list that differs is not the one of the last stage.
		{chainOf([]int{2, 3, 3, 3, 3}, [2]int{3, 0}, [2]int{6, 1}, [2]int{5, 2}), [][]int{{0}, {0, 2}, {0, 2, 3}}},                   // {0}, {0, 3}, {0, 1, 3} comes behind it
		{chainOf([]int{1, 1, 1, 0, 1, 0}, [2]int{2, 1}, [2]int{1, 1}, [2]int{2, 3}), [][]int{{0, 2}, {0, 2}, {0, 2, 4}}},             // {0, 4}, {0, 4}, {0, 1, 4}
		{chainOf([]int{3, 3, 1, 1, 2}, [2]int{3, 1}, [2]int{1, 2}, [2]int{0, 3}), [][]int{{0, 1, 3}, {0, 1, 3, 4}, {0, 1, 2, 3, 4}}}, // {0, 1, 4}, {0, 1, 2, 4}, {0, 1, 2, 3, 4}
		// Fewer periods, though as many in the last stage.
		{chainOf([]int{2, 3, 1, 1, 2}, [2]int{4, 0}, [2]int{4, 1}, [2]int{3, 2}), [][]int{{0}, {0, 3}, {0, 1, 3}}}, // {0}, {0, 1, 4}, {0, 1, 4}
		{chainOf([]int{1, 3, 2, 2}, [2]int{3, 2}, [2]int{3, 2}, [2]int{2, 3}), [][]int{{0, 2}, {0, 2}, {0, 1, 2}}}, // three times {0, 1, 3}
		{chainOf([]int{3, 2, 2, 3}, [2]int{6, 0}, [2]int{6, 2}, [2]int{2, 3}), [][]int{{0}, {0, 2}, {0, 2, 3}}},    // {0}, {0, 1, 3}, {0, 1, 3}
	} {
		periods, ok := impl.BestNested(x.c)
		checkTable(t, fmt.Sprint("BestNested ", x.c), periods, ok, x.periods, true)
		checkBestNested(t, x.c)
	}
}

func TestP7BestNestedOfAllChainPeriods(t *testing.T) {
	ties := 0
	for _, c := range slices.Concat(smallChains(), gapChains()) {
		if checkBestNested(t, c) > 0 {
			ties++
		}
	}
	for i, c := range fullChains() {
		if len(c.Need) < 5 || len(c.Setup) < 3 || i%3 == 0 {
			checkBestNested(t, c)
		}
	}
	var d dice = 317
	for i := range 1500 {
		if checkBestNested(t, d.thrownChain(2+i%3, 2+i%2, 4, 5, 2)) > 0 {
			ties++
		}
	}
	if ties < 100 {
		t.Error("too few Chains with several best chain periods", ties)
	}
}

func TestP7NoPlanOfSmallChainsCostsLess(t *testing.T) {
	for _, c := range smallChains() {
		least := math.MaxInt
		for _, plan := range allChainPlans(c.Need, len(c.Setup)) {
			least = min(least, chainCostBySteps(c, plan))
		}
		cost, ok := impl.BestChainCost(c)
		checkNumber(t, fmt.Sprint("BestChainCost ", c), cost, ok, least, true)
		if bound, ok := impl.ChainBound(c); !ok || bound > least {
			t.Error("no bound", c, bound, least)
		}
	}
}

// greatChains are the Chains with the greatest tables that the tests fill.
func greatChains() []impl.Chain {
	return []impl.Chain{
		chainOf([]int{20, 20, 20, 20, 20, 20}, [2]int{99, 9}, [2]int{99, 9}, [2]int{99, 9}),
		chainOf([]int{20, 0, 20, 13, 20, 17}, [2]int{99, 1}, [2]int{40, 2}, [2]int{13, 4}),
		chainOf([]int{7, 20, 3, 20, 0, 20}, [2]int{60, 0}, [2]int{0, 3}, [2]int{99, 3}),
	}
}

func TestP7NoPlanOfFullChainsCostsLess(t *testing.T) {
	chains := append(gapChains(), greatChains()...)
	for _, c := range fullChains() {
		if len(c.Setup) < 3 || allNeeds(c.Need) <= 40 {
			chains = append(chains, c)
		}
	}
	for _, c := range chains {
		want := leastByTable(c.Need, c.Setup, c.Hold, leftInChain(len(c.Setup)))
		cost, ok := impl.BestChainCost(c)
		checkNumber(t, fmt.Sprint("BestChainCost ", c), cost, ok, want, true)
	}
}

// allNeeds gives the sum of all Needs.
func allNeeds(need []int) int {
	return needBySteps(impl.Case{Need: need}, 0, len(need))
}

func TestP7NoThrownChainPlanCostsLess(t *testing.T) {
	var d dice = 331
	for _, c := range fullChains() {
		bound, _ := impl.ChainBound(c)
		least, ok := impl.BestChainCost(c)
		for range 20 {
			plan := d.thrownChainPlan(c)
			if cost, fine := impl.ChainCost(c, plan); !ok || !fine || cost < least || cost < bound {
				t.Fatal("costs less", c, plan, cost, least, bound)
			}
		}
	}
}

func TestP7StageByStage(t *testing.T) {
	plans := 0
	for _, c := range slices.Concat(smallChains(), fullChains(), gapChains()) {
		checkStages(t, c)
		if _, ok := impl.StagewisePlan(c); ok && len(c.Setup) > 1 {
			plans++
		}
	}
	if plans < 100 {
		t.Error("too few plans stage by stage", plans)
	}
}

func TestP7WithOneStageItIsTheCase(t *testing.T) {
	seen := 0
	for _, c := range slices.Concat(smallChains(), fullChains(), gapChains()) {
		if len(c.Setup) > 1 {
			continue
		}
		seen++
		k, _ := impl.StageCase(c, 0)
		want, _ := impl.BestCost(k)
		least, ok := impl.BestChainCost(c)
		checkNumber(t, fmt.Sprint("BestChainCost ", c), least, ok, want, true)
		bound, ok := impl.ChainBound(c)
		checkNumber(t, fmt.Sprint("ChainBound ", c), bound, ok, want, true)
		list, _ := impl.BestPeriods(k)
		periods, ok := impl.BestNested(c)
		checkTable(t, fmt.Sprint("BestNested ", c), periods, ok, [][]int{list}, true)
	}
	if seen < 300 {
		t.Error("too few Chains", seen)
	}
}

func TestP7EchelonHoldExamples(t *testing.T) {
	for _, x := range [][2][]int{
		{{0}, {0}}, {{9}, {9}}, {{0, 0}, {0, 0}}, {{3, 3}, {3, 0}}, {{1, 2}, {1, 1}}, {{0, 9}, {0, 9}}, {{0, 0, 0}, {0, 0, 0}}, {{1, 2, 4}, {1, 1, 2}}, {{9, 9, 9}, {9, 0, 0}}, {{0, 4, 4}, {0, 4, 0}}, {{2, 2, 9}, {2, 0, 7}},
	} {
		c := impl.Chain{Need: []int{1, 2}, Setup: make([]int, len(x[0])), Hold: x[0]}
		holds, ok := impl.EchelonHolds(c)
		checkList(t, fmt.Sprint("EchelonHolds ", c), holds, ok, x[1], true)
	}
}

func TestP7StageCaseExamples(t *testing.T) {
	c := chainOf([]int{1, 0, 20}, [2]int{3, 1}, [2]int{2, 2}, [2]int{99, 2})
	for stage, want := range []impl.Case{
		caseOf([4]int{1, 3, 0, 1}, [4]int{0, 3, 0, 1}, [4]int{20, 3, 0, 1}), caseOf([4]int{1, 2, 0, 1}, [4]int{0, 2, 0, 1}, [4]int{20, 2, 0, 1}), caseOf([4]int{1, 99, 0, 0}, [4]int{0, 99, 0, 0}, [4]int{20, 99, 0, 0}),
	} {
		k, ok := impl.StageCase(c, stage)
		checkCase(t, fmt.Sprint("StageCase ", c, stage), k, ok, want, true)
	}
	k, ok := impl.StageCase(chainOf(nil, [2]int{1, 1}), 0)
	checkCase(t, "StageCase without periods", k, ok, impl.Case{}, true)
}

func TestP7StagesThatAreNone(t *testing.T) {
	for _, c := range append(gapChains(), fullChains()...) {
		n := len(c.Setup)
		for _, stage := range []int{-1, -2, -n, n, n + 1, 3, 4, 1 << 32, -1 << 32, math.MinInt, math.MaxInt} {
			k, ok := impl.StageCase(c, stage)
			checkCase(t, fmt.Sprint("StageCase ", c, stage), k, ok, impl.Case{}, false)
		}
	}
}

func TestP7StagewiseExamples(t *testing.T) {
	for _, x := range []struct {
		c    impl.Chain
		want [][]int
		ok   bool
	}{
		{chainOf([]int{1, 0, 2}, [2]int{3, 1}, [2]int{2, 2}), [][]int{{1, 0, 2}, {1, 0, 2}}, true},
		{chainOf([]int{1, 0, 2}, [2]int{5, 1}, [2]int{2, 2}), [][]int{{3, 0, 0}, {1, 0, 2}}, true},
		{chainOf([]int{1, 0, 2}, [2]int{4, 1}, [2]int{9, 1}), [][]int{{3, 0, 0}, {3, 0, 0}}, true},
		{chainOf(nil, [2]int{5, 1}, [2]int{2, 2}), [][]int{{}, {}}, true},
		{chainOf([]int{0, 0}, [2]int{5, 1}, [2]int{2, 2}, [2]int{2, 2}), [][]int{{0, 0}, {0, 0}, {0, 0}}, true},
		{chainOf([]int{10, 10}, [2]int{5, 1}, [2]int{99, 2}), [][]int{{20, 0}, {20, 0}}, true},  // 20 is a Need
		{chainOf([]int{10, 11}, [2]int{5, 1}, [2]int{99, 2}), nil, false},                       // 21 is none
		{chainOf([]int{10, 11}, [2]int{99, 1}, [2]int{1, 2}), [][]int{{21, 0}, {10, 11}}, true}, // but the first stage may order as many
		{chainOf([]int{20, 20}, [2]int{99, 1}), [][]int{{40, 0}}, true},                         // and also a stage that is the first one and the last one
		{chainOf([]int{20, 20}, [2]int{99, 1}, [2]int{99, 1}), nil, false},                      // the last stage orders 40
		{chainOf([]int{11, 10}, [2]int{0, 0}, [2]int{99, 1}, [2]int{1, 1}), nil, false},         // the middle one 21
		{chainOf([]int{11, 9}, [2]int{0, 0}, [2]int{99, 1}, [2]int{1, 1}), [][]int{{20, 0}, {20, 0}, {11, 9}}, true},
		{chainOf([]int{11, 10}, [2]int{99, 0}, [2]int{1, 1}, [2]int{1, 1}), [][]int{{21, 0}, {11, 10}, {11, 10}}, true},
		{chainOf([]int{0, 3}, [2]int{9, 0}, [2]int{1, 0}), [][]int{{3, 0}, {3, 0}}, true}, // without holds the first period is the first list
		{chainOf([]int{1, 1, 1}, [2]int{1, 2}, [2]int{9, 2}), [][]int{{3, 0, 0}, {3, 0, 0}}, true},
		{chainOf([]int{2, 2, 2}, [2]int{3, 1}, [2]int{5, 2}), [][]int{{2, 4, 0}, {2, 4, 0}}, true},
	} {
		plan, ok := impl.StagewisePlan(x.c)
		checkTable(t, fmt.Sprint("StagewisePlan ", x.c), plan, ok, x.want, x.ok)
	}
}

func TestP7TheStagewisePlanMayCostMore(t *testing.T) {
	c := chainOf([]int{1, 1, 1}, [2]int{9, 2}, [2]int{1, 2})
	plan, one := impl.StagewisePlan(c)
	cost, two := impl.ChainCost(c, plan)
	least, three := impl.BestChainCost(c)
	if !one || !two || !three || cost != 18 || least != 16 {
		t.Error("costs", plan, cost, least)
	}
}

func TestP7AssemblyExamples(t *testing.T) {
	for _, x := range []struct {
		need, setups, holds []int
		want                int
		ok                  bool
	}{
		{[]int{1, 0, 2}, []int{2, 3}, []int{2, 1}, 10, true},
		{nil, []int{2}, []int{2}, 0, true}, {nil, []int{2, 3, 4}, []int{2, 1, 1}, 0, true}, {[]int{0, 0}, []int{2, 3, 4}, []int{2, 1, 1}, 0, true},
		{[]int{5}, []int{2}, []int{9}, 2, true}, {[]int{5}, []int{2, 3}, []int{9, 9}, 5, true}, {[]int{5}, []int{2, 3, 4}, []int{9, 4, 5}, 9, true}, {[]int{0, 5}, []int{2, 3, 4}, []int{9, 4, 5}, 9, true},
		{[]int{1, 1}, []int{0, 5, 1}, []int{5, 1, 3}, 5 + 1 + 2, true}, // the good 1 is ordered once and held, the good 2 twice
		{[]int{1, 1}, []int{0, 5, 5}, []int{5, 1, 3}, 10 + 4, true},    // both are ordered once and held
		{[]int{1, 1}, []int{9, 5, 5}, []int{5, 1, 3}, 19 + 5, true},    // and the good 0, too
		{[]int{1, 1}, []int{9, 5, 5}, []int{9, 1, 3}, 28, true},        // this is what all three cost, held together
		{[]int{1, 1}, []int{0, 0, 0}, []int{0, 0, 0}, 0, true},
		{[]int{1}, nil, nil, 0, false}, {[]int{1}, []int{1, 1, 1, 1}, []int{9, 1, 1, 1}, 0, false}, {nil, nil, nil, 0, false}, {[]int{1}, []int{1}, nil, 0, false}, {[]int{1}, nil, []int{1}, 0, false}, {[]int{1}, []int{1, 1}, []int{1}, 0, false}, {[]int{1}, []int{1}, []int{1, 1}, 0, false},
		{[]int{1}, []int{1, 1}, []int{1, 1}, 2, true}, {[]int{1}, []int{1, 1}, []int{0, 1}, 0, false}, {[]int{1}, []int{1, 1, 1}, []int{3, 1, 2}, 3, true}, {[]int{1}, []int{1, 1, 1}, []int{2, 1, 2}, 0, false}, {[]int{1}, []int{1, 1, 1}, []int{9, 9, 0}, 3, true}, {[]int{1}, []int{1, 1, 1}, []int{9, 5, 5}, 0, false}, {[]int{1}, []int{1, 1, 1}, []int{8, 9, 0}, 0, false},
		{[]int{1}, []int{1, 1, 1}, []int{9, 0, 9}, 3, true}, {[]int{1}, []int{1, 1, 1}, []int{8, 0, 9}, 0, false}, {[]int{1}, []int{1, 1}, []int{10, 1}, 0, false}, {[]int{1}, []int{100, 1}, []int{9, 1}, 0, false}, {[]int{1}, []int{99, 99}, []int{9, 9}, 198, true}, {[]int{1}, []int{1, -1}, []int{9, 1}, 0, false}, {[]int{1}, []int{1, 1}, []int{9, -1}, 0, false},
		{[]int{20, 20, 20, 20, 20, 20}, []int{99}, []int{9}, 594, true}, {[]int{21}, []int{1}, []int{1}, 0, false}, {[]int{-1}, []int{1}, []int{1}, 0, false}, {make([]int, 7), []int{1}, []int{1}, 0, false}, {make([]int, 6), []int{1}, []int{1}, 0, true},
	} {
		checkAssembly(t, x.need, x.setups, x.holds, x.want, x.ok)
	}
}

// assembly is the arguments of BestAssembly.
type assembly struct {
	need, setups, holds []int
}

// thrownAssembly gives an assembly of some goods, whose good 0 is often held at just the holds of the others.
func (d *dice) thrownAssembly(n, goods, need, setup int) assembly {
	c := d.thrownChain(n, goods, need, setup, 9/max(1, goods-1))
	for i := range c.Hold {
		j := d.throw(i)
		c.Hold[i], c.Hold[j] = c.Hold[j], c.Hold[i]
	}
	least := 0
	for _, hold := range c.Hold[1:] {
		least += hold
	}
	c.Hold[0] = least + d.throw(9-least)*d.throw(1)
	return assembly{c.Need, c.Setup, c.Hold}
}

// manyAssemblies gives assemblies of all numbers of periods and goods.
func manyAssemblies() []assembly {
	var found []assembly
	var d dice = 337
	for i := range 210 {
		n, goods := i%7, 1+i/7%3
		found = append(found, d.thrownAssembly(n, goods, 6, 30), d.thrownAssembly(n, goods, 2, 5), d.thrownAssembly(n, goods, 3, 99))
	}
	for _, need := range [][]int{{}, {0}, {0, 0, 0}, {0, 3, 1}, {3, 0, 2}, {3, 1, 0}, {0, 0, 0, 0, 0, 20}, {20, 0, 0, 0, 0, 0}} {
		for goods := 1; goods <= 3; goods++ {
			found = append(found, d.thrownAssembly(0, goods, 0, 0), assembly{need, make([]int, goods), make([]int, goods)}, assembly{need, slices.Repeat([]int{99}, goods), append([]int{9}, make([]int, goods-1)...)}, assembly{need, d.thrownAssembly(0, goods, 0, 20).setups, append([]int{9}, slices.Repeat([]int{4}, goods-1)...)})
		}
	}
	return found
}

func TestP7NoPlanOfAssembliesCostsLess(t *testing.T) {
	great := []assembly{{[]int{20, 20, 20, 20, 20, 20}, []int{99, 99, 99}, []int{9, 4, 5}}, {[]int{20, 0, 20, 13, 20, 17}, []int{13, 99, 40}, []int{7, 1, 4}}, {[]int{9, 20, 3, 20, 0, 20}, []int{0, 99, 30}, []int{3, 0, 3}}}
	for _, x := range append(manyAssemblies(), great...) {
		want := leastByTable(x.need, x.setups, x.holds, leftInAssembly(len(x.setups)))
		checkAssembly(t, x.need, x.setups, x.holds, want, true)
	}
}

// assemblyByAll looks at all plans of an assembly.
func assemblyByAll(x assembly) int {
	least := math.MaxInt
	for _, plan := range allPlans(impl.Case{Need: x.need}) {
		cost := stockCost(x.need, plan, x.setups[0], x.holds[0])
		for good := 1; good < len(x.setups); good++ {
			part := math.MaxInt
			for _, amounts := range allPlans(impl.Case{Need: plan}) {
				part = min(part, stockCost(plan, amounts, x.setups[good], x.holds[good]))
			}
			cost += part
		}
		least = min(least, cost)
	}
	return least
}

// stockCost tells what it costs to have what is taken from a stock with these amounts.
func stockCost(taken, amounts []int, setup, hold int) int {
	cost, stock := 0, 0
	for t := range taken {
		stock += amounts[t] - taken[t]
		cost += hold * stock
		if amounts[t] > 0 {
			cost += setup
		}
	}
	return cost
}

func TestP7NoPlanOfSmallAssembliesCostsLess(t *testing.T) {
	var d dice = 347
	for i := range 600 {
		x := d.thrownAssembly(i%5, 1+i%3, 2, 3+i%9)
		checkAssembly(t, x.need, x.setups, x.holds, assemblyByAll(x), true)
	}
}

func TestP7AnAssemblyOfTwoIsAChain(t *testing.T) {
	for _, c := range slices.Concat(smallChains(), fullChains(), gapChains()) {
		want, _ := impl.BestChainCost(c)
		if len(c.Setup) < 3 {
			setups, holds := slices.Clone(c.Setup), slices.Clone(c.Hold)
			slices.Reverse(setups)
			slices.Reverse(holds)
			checkAssembly(t, c.Need, setups, holds, want, true)
		}
	}
}

func TestP7TheOrderOfThePartsIsNothing(t *testing.T) {
	for _, x := range manyAssemblies() {
		if len(x.setups) == 3 {
			one, _ := impl.BestAssembly(x.need, x.setups, x.holds)
			checkAssembly(t, x.need, []int{x.setups[0], x.setups[2], x.setups[1]}, []int{x.holds[0], x.holds[2], x.holds[1]}, one, true)
		}
	}
}

// noAssemblies gives lists that are no assemblies.
func noAssemblies() []assembly {
	bad := []assembly{{}, {need: []int{1}}, {setups: []int{1}}, {holds: []int{1}}}
	good := []assembly{{nil, []int{1}, []int{1}}, {[]int{1, 0, 2}, []int{2, 3}, []int{2, 1}}, {[]int{20, 20, 20, 20, 20, 20}, []int{99, 99, 99}, []int{9, 4, 5}}, {[]int{3}, []int{0, 0, 0}, []int{0, 0, 0}}}
	for _, x := range good {
		for row, most := range []int{20, 99, 9} {
			for at := range [][]int{x.need, x.setups, x.holds}[row] {
				for _, number := range beyond(most) {
					y := assembly{slices.Clone(x.need), slices.Clone(x.setups), slices.Clone(x.holds)}
					[][]int{y.need, y.setups, y.holds}[row][at] = number
					if number != 0 {
						bad = append(bad, y)
					}
				}
			}
		}
		for _, lists := range [][2][]int{
			{nil, nil}, {x.setups, nil}, {nil, x.holds}, {append(slices.Clone(x.setups), 1), x.holds}, {x.setups, append(slices.Clone(x.holds), 0)}, {x.setups[1:], x.holds}, {x.setups, x.holds[1:]}, {{1, 1, 1, 1}, {9, 1, 1, 1}}, {make([]int, 4), make([]int, 4)}, {make([]int, 5000), make([]int, 5000)},
			{{1, 1}, {0, 1}}, {{1, 1}, {8, 9}}, {{1, 1, 1}, {8, 4, 5}}, {{1, 1, 1}, {0, 0, 1}}, {{1, 1, 1}, {0, 1, 0}}, {{1, 1, 1}, {9, 9, 9}}, {{1, 1, 1}, {9, 9, 1}}, {{1, 1, 1}, {9, 1, 9}},
		} {
			bad = append(bad, assembly{x.need, lists[0], lists[1]})
		}
		bad = append(bad, assembly{make([]int, 7), x.setups, x.holds}, assembly{slices.Repeat([]int{20}, 7), x.setups, x.holds}, assembly{make([]int, 5000), x.setups, x.holds})
	}
	return bad
}

func TestP7ListsThatAreNoAssemblies(t *testing.T) {
	for _, x := range noAssemblies() {
		checkAssembly(t, x.need, x.setups, x.holds, 0, false)
	}
}

func TestP7AllHoldsOfAssemblies(t *testing.T) {
	for i := range 11 {
		for j := range 11 {
			_, ok := impl.BestAssembly([]int{1, 2}, []int{1, 1}, []int{i, j})
			checkAnswer(t, fmt.Sprint("BestAssembly of the holds ", i, j), ok, ok, i <= 9 && j <= i, i <= 9 && j <= i)
			for k := range 11 {
				_, ok := impl.BestAssembly([]int{1, 2}, []int{1, 1, 1}, []int{i, j, k})
				want := i <= 9 && j+k <= i
				checkAnswer(t, fmt.Sprint("BestAssembly of the holds ", i, j, k), ok, ok, want, want)
			}
		}
	}
}

// chainArgs are arguments of the functions of the chapter.
type chainArgs struct {
	c             impl.Chain
	plan, periods [][]int
	stages        []int
	parts         assembly
}

// chainCalls calls each function of the chapter.
func chainCalls(x chainArgs) []lotCall {
	var calls []lotCall
	add := func(name string, result any, ok bool) { calls = append(calls, lotCall{name, []any{result}, ok}) }
	add("IsChain", impl.IsChain(x.c), true)
	stocks, ok := impl.ChainStocks(x.c, x.plan)
	add("ChainStocks", stocks, ok)
	is, ok := impl.IsChainPlan(x.c, x.plan)
	add("IsChainPlan", is, ok)
	cost, ok := impl.ChainCost(x.c, x.plan)
	add("ChainCost", cost, ok)
	holds, ok := impl.EchelonHolds(x.c)
	add("EchelonHolds", holds, ok)
	echelons, ok := impl.EchelonStocks(x.c, x.plan)
	add("EchelonStocks", echelons, ok)
	nested, ok := impl.IsNestedPlan(x.c, x.plan)
	add("IsNestedPlan", nested, ok)
	plan, ok := impl.NestedPlan(x.c, x.periods)
	add("NestedPlan", plan, ok)
	best, ok := impl.BestNested(x.c)
	add("BestNested", best, ok)
	least, ok := impl.BestChainCost(x.c)
	add("BestChainCost", least, ok)
	bound, ok := impl.ChainBound(x.c)
	add("ChainBound", bound, ok)
	stagewise, ok := impl.StagewisePlan(x.c)
	add("StagewisePlan", stagewise, ok)
	for _, stage := range x.stages {
		k, ok := impl.StageCase(x.c, stage)
		add("StageCase", k, ok)
	}
	assembled, ok := impl.BestAssembly(x.parts.need, x.parts.setups, x.parts.holds)
	add("BestAssembly", assembled, ok)
	return calls
}

// manyChainArgs gives arguments of which all are valid, and others of which some are not.
func manyChainArgs() []chainArgs {
	var d dice = 349
	far := []int{math.MinInt, -1, 0, 1, 2, 3, 4, 1 << 32, math.MaxInt}
	noChain, noParts := noChains(), noAssemblies()
	var found []chainArgs
	for i, c := range append(fullChains(), gapChains()...) {
		good := chainArgs{c, d.thrownChainPlan(c), d.thrownChainPeriods(c), []int{0, len(c.Setup) - 1}, d.thrownAssembly(i%7, 1+i%3, 20, 99)}
		found = append(found, good)
		plans, lists := spoiledLists(good.plan), spoiledLists(good.periods)
		for range 4 {
			x := good
			x.plan, x.periods, x.stages = plans[d.throw(len(plans)-1)], lists[d.throw(len(lists)-1)], far
			found = append(found, x)
		}
		x := good
		x.c, x.parts = noChain[i%len(noChain)], noParts[i%len(noParts)]
		found = append(found, x)
	}
	return append(found, chainArgs{}, chainArgs{stages: far}, chainArgs{plan: [][]int{{0}}, periods: [][]int{{0}}, stages: far})
}

func TestP13ChainFunctionsFailWithoutAChain(t *testing.T) {
	for i, c := range noChains() {
		for _, x := range []chainArgs{
			{c, nil, nil, []int{0, 1}, noAssemblies()[0]}, {c, make([][]int, len(c.Setup)), make([][]int, len(c.Setup)), []int{0, -1}, noAssemblies()[1]},
			{c, [][]int{c.Need, c.Need}, [][]int{{0}, {0}}, []int{0}, noAssemblies()[i%len(noAssemblies())]}, {c, slices.Repeat([][]int{c.Need}, len(c.Setup)), slices.Repeat([][]int{{0}}, len(c.Setup)), []int{0, len(c.Setup) - 1}, noAssemblies()[2]},
		} {
			for _, call := range chainCalls(x) {
				if call.name != "IsChain" {
					checkAllFail(t, []lotCall{call})
				} else if call.results[0] != false {
					t.Error("a Chain", c)
				}
			}
		}
	}
}

func TestP13WhereChainFunctionsFailAllResultsAreZero(t *testing.T) {
	var calls []lotCall
	for _, x := range manyChainArgs() {
		calls = append(calls, chainCalls(x)...)
	}
	checkEachFailsAndDoesNot(t, calls, 14, "IsChain")
}

// roomyChain gives the same arguments in memory that goes on behind them, and all this memory.
func roomyChain(x chainArgs) (chainArgs, [][]int) {
	var memory [][]int
	for _, list := range []*[]int{&x.c.Need, &x.c.Setup, &x.c.Hold, &x.stages, &x.parts.need, &x.parts.setups, &x.parts.holds} {
		roomy, all := withRoom(*list)
		*list = roomy
		memory = append(memory, all)
	}
	for _, lists := range []*[][]int{&x.plan, &x.periods} {
		roomy := make([][]int, len(*lists), len(*lists)+3)
		for i, list := range *lists {
			var all []int
			roomy[i], all = withRoom(list)
			memory = append(memory, all)
		}
		_ = append(roomy, []int{81}, []int{82}, []int{83})
		*lists = roomy
	}
	return x, memory
}

// behindChain gives what is behind the lists of lists.
func behindChain(x chainArgs) [][][]int {
	return [][][]int{copyTable(x.plan[:cap(x.plan)]), copyTable(x.periods[:cap(x.periods)])}
}

func TestP13ChainFunctionsLeaveTheirArguments(t *testing.T) {
	for _, x := range manyChainArgs() {
		given, memory := roomyChain(x)
		before, lists := behindChain(given), copyTable(memory)
		calls := chainCalls(given)
		checkResultsAreApart(t, calls)
		if !slices.EqualFunc(memory, lists, slices.Equal[[]int]) || !reflect.DeepEqual(behindChain(given), before) {
			t.Fatal("changed", x, given, memory)
		}
		for i, call := range chainCalls(x) {
			if call.ok != calls[i].ok {
				t.Fatal("another answer", x, call, calls[i])
			}
		}
	}
}

func TestP13ChainFunctionsReturnTheSameAgain(t *testing.T) {
	for _, x := range manyChainArgs() {
		first := fmt.Sprint(chainCalls(x))
		checkResultsAreApart(t, chainCalls(x))
		if second := fmt.Sprint(chainCalls(x)); first != second {
			t.Fatal("another result", first, second)
		}
	}
}

func TestP13NilAndEmptyListsOfChains(t *testing.T) {
	stages := []int{-1, 0, 1}
	one := []int{1}
	none := chainCalls(chainArgs{impl.Chain{Setup: one, Hold: one}, [][]int{nil}, [][]int{nil}, stages, assembly{nil, one, one}})
	empty := chainCalls(chainArgs{impl.Chain{Need: []int{}, Setup: one, Hold: one}, [][]int{{}}, [][]int{{}}, stages, assembly{[]int{}, one, one}})
	if fmt.Sprint(none) != fmt.Sprint(empty) {
		t.Error("not the same", none, empty)
	}
	for _, call := range none {
		if !call.ok && call.name != "StageCase" {
			t.Error("fails", call)
		}
	}
	for _, x := range []chainArgs{{stages: stages}, {impl.Chain{Need: []int{}, Setup: []int{}, Hold: []int{}}, [][]int{}, [][]int{}, stages, assembly{[]int{}, []int{}, []int{}}}} {
		for _, call := range chainCalls(x)[1:] {
			checkAllFail(t, []lotCall{call})
		}
	}
}
