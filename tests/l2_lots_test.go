package tests

import (
	"fmt"
	"math"
	"slices"
	"strings"
	"testing"

	"loop.example/g01111/impl"
)

// caseOf gives the Case with a row of Need, Setup, Unit and Hold for each period.
func caseOf(rows ...[4]int) impl.Case {
	var c impl.Case
	for _, x := range rows {
		c.Need, c.Setup = append(c.Need, x[0]), append(c.Setup, x[1])
		c.Unit, c.Hold = append(c.Unit, x[2]), append(c.Hold, x[3])
	}
	return c
}

// sameRows gives the Case with n equal periods.
func sameRows(n int, row [4]int) impl.Case {
	return caseOf(slices.Repeat([][4]int{row}, n)...)
}

// rowsOf gives the lists of a Case, in the order of their declaration.
func rowsOf(c impl.Case) [][]int {
	return [][]int{c.Need, c.Setup, c.Unit, c.Hold}
}

func sameCase(a, b impl.Case) bool {
	return slices.EqualFunc(rowsOf(a), rowsOf(b), slices.Equal[[]int])
}

func copyCase(c impl.Case) impl.Case {
	return impl.Case{Need: slices.Clone(c.Need), Setup: slices.Clone(c.Setup), Unit: slices.Clone(c.Unit), Hold: slices.Clone(c.Hold)}
}

// dice gives numbers that look like thrown ones and are the same in each run.
type dice uint64

func (d *dice) throw(most int) int {
	*d = *d*6364136223846793005 + 1442695040888963407
	return int(uint64(*d>>33) % uint64(most+1))
}

// thrownCase gives a Case with n periods. A third of the Needs and of the Setups are 0.
func (d *dice) thrownCase(n, need, setup, rate int) impl.Case {
	rows := make([][4]int, n)
	for t := range rows {
		rows[t] = [4]int{d.throw(need), d.throw(setup), d.throw(rate), d.throw(rate)}
		if d.throw(2) == 0 {
			rows[t][0] = 0
		}
		if d.throw(2) == 0 {
			rows[t][1] = 0
		}
	}
	return caseOf(rows...)
}

// smallCases gives many Cases with so few plans that one can look at all of them.
func smallCases() []impl.Case {
	cases := []impl.Case{{}}
	var rows [][4]int
	for i := range 24 {
		rows = append(rows, [4]int{i % 3, i / 3 % 2 * 3, i / 6 % 2 * 2, i / 12})
	}
	for _, a := range rows {
		cases = append(cases, caseOf(a))
		for _, b := range rows {
			cases = append(cases, caseOf(a, b))
		}
	}
	var d dice = 5
	for i := range 1500 {
		cases = append(cases, d.thrownCase(3+i%2, 3, 6, 3))
	}
	for i := range 60 {
		cases = append(cases, d.thrownCase(5+i%4, 2, 5, 2))
	}
	return cases
}

// fullCases gives Cases of all lengths with numbers up to the limits.
func fullCases() []impl.Case {
	cases := []impl.Case{{}}
	var d dice = 11
	for i := range 600 {
		cases = append(cases, d.thrownCase(i%9, 20, 99, 9))
	}
	for i := range 600 {
		cases = append(cases, d.thrownCase(i%9, 4, 8, 1))
	}
	for n := range 9 {
		for i := range 16 {
			cases = append(cases, sameRows(n, [4]int{i & 1 * 20, i >> 1 & 1 * 99, i >> 2 & 1 * 9, i >> 3 * 9}))
		}
	}
	return cases
}

// stocksBySteps gives the stocks of a list, and whether it is a plan, by the document's words.
func stocksBySteps(c impl.Case, plan []int) ([]int, bool) {
	stock := 0
	var stocks []int
	for t, amount := range plan {
		if t >= len(c.Need) || amount < 0 || amount > 1000 {
			return nil, false
		}
		stock = stock + amount - c.Need[t]
		stocks = append(stocks, stock)
		if stock < 0 {
			return nil, false
		}
	}
	return stocks, len(plan) == len(c.Need) && stock == 0
}

// partsBySteps gives the three sums of the cost of a plan.
func partsBySteps(c impl.Case, plan []int) [3]int {
	var parts [3]int
	stocks, _ := stocksBySteps(c, plan)
	for t := range plan {
		if plan[t] > 0 {
			parts[0] += c.Setup[t]
		}
		parts[1] += c.Unit[t] * plan[t]
		parts[2] += c.Hold[t] * stocks[t]
	}
	return parts
}

func costBySteps(c impl.Case, plan []int) int {
	parts := partsBySteps(c, plan)
	return parts[0] + parts[1] + parts[2]
}

// earlyBySteps gives the first period with an order while there is stock, or -1.
func earlyBySteps(c impl.Case, plan []int) int {
	stocks, _ := stocksBySteps(c, plan)
	for t := range plan {
		if t > 0 && plan[t] > 0 && stocks[t-1] > 0 {
			return t
		}
	}
	return -1
}

// smoothBySteps makes a plan smooth by the document's words.
func smoothBySteps(c impl.Case, plan []int) []int {
	for p := earlyBySteps(c, plan); p >= 0; p = earlyBySteps(c, plan) {
		q := p - 1
		for ; plan[q] == 0; q-- {
		}
		stocks, _ := stocksBySteps(c, plan)
		m := stocks[p-1]
		split, joined := slices.Clone(plan), slices.Clone(plan)
		split[q], split[p] = split[q]-m, split[p]+m
		joined[q], joined[p] = joined[q]+joined[p], 0
		if costBySteps(c, split) > costBySteps(c, plan) {
			plan = joined
		} else {
			plan = split
		}
	}
	return slices.Clone(plan)
}

// planBySteps gives the plan from order periods, and whether there is one: each Need is met from
// the last order period that is not behind it.
func planBySteps(c impl.Case, periods []int) ([]int, bool) {
	for i, p := range periods {
		if p < 0 || p >= len(c.Need) || i > 0 && p <= periods[i-1] {
			return nil, false
		}
	}
	plan := make([]int, len(c.Need))
	for t, need := range c.Need {
		from := -1
		for _, p := range periods {
			if p <= t {
				from = p
			}
		}
		if from < 0 && need > 0 {
			return nil, false
		}
		if from >= 0 {
			plan[from] += need
		}
	}
	return plan, true
}

// orderLists gives all strictly ascending lists of numbers less than n, the shorter ones first,
// those of one length in lexicographic order.
func orderLists(n int) [][]int {
	var lists [][]int
	for mask := range 1 << n {
		list := []int{}
		for t := range n {
			if mask>>t&1 == 1 {
				list = append(list, t)
			}
		}
		lists = append(lists, list)
	}
	slices.SortFunc(lists, func(a, b []int) int {
		if len(a) != len(b) {
			return len(a) - len(b)
		}
		return slices.Compare(a, b)
	})
	return lists
}

// bestByAll gives the first of all lists of order periods with the least cost, and this cost.
func bestByAll(c impl.Case) ([]int, int) {
	var best []int
	least := math.MaxInt
	for _, list := range orderLists(len(c.Need)) {
		plan, ok := planBySteps(c, list)
		if ok && costBySteps(c, plan) < least {
			best, least = list, costBySteps(c, plan)
		}
	}
	return best, least
}

// allPlans gives each plan of a Case.
func allPlans(c impl.Case) [][]int {
	var plans [][]int
	ahead := 0
	for _, need := range c.Need {
		ahead += need
	}
	var grow func(plan []int, stock, ahead int)
	grow = func(plan []int, stock, ahead int) {
		t := len(plan)
		if t == len(c.Need) {
			if stock == 0 {
				plans = append(plans, slices.Clone(plan))
			}
			return
		}
		for amount := max(0, c.Need[t]-stock); stock+amount <= ahead; amount++ {
			grow(append(slices.Clip(plan), amount), stock+amount-c.Need[t], ahead-c.Need[t])
		}
	}
	grow(nil, 0, ahead)
	return plans
}

func checkNumber(t *testing.T, what string, got int, ok bool, want int, wantOK bool) {
	t.Helper()
	if got != want || ok != wantOK {
		t.Errorf("%s = %d, %t, want %d, %t", what, got, ok, want, wantOK)
	}
}

func checkList(t *testing.T, what string, got []int, ok bool, want []int, wantOK bool) {
	t.Helper()
	if !slices.Equal(got, want) || ok != wantOK {
		t.Errorf("%s = %v, %t, want %v, %t", what, got, ok, want, wantOK)
	}
}

func checkAnswer(t *testing.T, what string, got, ok, want, wantOK bool) {
	t.Helper()
	if got != want || ok != wantOK {
		t.Errorf("%s = %t, %t, want %t, %t", what, got, ok, want, wantOK)
	}
}

func checkCase(t *testing.T, what string, got impl.Case, ok bool, want impl.Case, wantOK bool) {
	t.Helper()
	if !sameCase(got, want) || ok != wantOK {
		t.Errorf("%s = %v, %t, want %v, %t", what, got, ok, want, wantOK)
	}
}

func checkText(t *testing.T, what string, got string, ok bool, want string, wantOK bool) {
	t.Helper()
	if got != want || ok != wantOK {
		t.Errorf("%s = %q, %t, want %q, %t", what, got, ok, want, wantOK)
	}
}

// checkPlanLists compares the functions of a list that is a plan, or that is none, that return lists.
func checkPlanLists(t *testing.T, c impl.Case, plan []int) {
	t.Helper()
	stocks, is := stocksBySteps(c, plan)
	var want, empty, orders, smooth []int
	if is {
		want, smooth = stocks, smoothBySteps(c, plan)
		for i := range plan {
			if stocks[i] == 0 {
				empty = append(empty, i)
			}
			if plan[i] > 0 {
				orders = append(orders, i)
			}
		}
	}
	what := fmt.Sprintf("(%v, %v)", c, plan)
	got, ok := impl.StocksOf(c, plan)
	checkList(t, "StocksOf"+what, got, ok, want, is)
	got, ok = impl.EmptyPeriods(c, plan)
	checkList(t, "EmptyPeriods"+what, got, ok, empty, is)
	got, ok = impl.OrderPeriods(c, plan)
	checkList(t, "OrderPeriods"+what, got, ok, orders, is)
	got, ok = impl.SmoothPlan(c, plan)
	checkList(t, "SmoothPlan"+what, got, ok, smooth, is)
}

// checkPlan compares all the functions of a list that is a plan, or that is none.
func checkPlan(t *testing.T, c impl.Case, plan []int) {
	t.Helper()
	_, is := stocksBySteps(c, plan)
	var parts [3]int
	if is {
		parts = partsBySteps(c, plan)
	}
	what := fmt.Sprintf("(%v, %v)", c, plan)
	answer, ok := impl.IsPlan(c, plan)
	checkAnswer(t, "IsPlan"+what, answer, ok, is, true)
	answer, ok = impl.OrdersAtEmpty(c, plan)
	checkAnswer(t, "OrdersAtEmpty"+what, answer, ok, is && earlyBySteps(c, plan) < 0, is)
	cost, ok := impl.PlanCost(c, plan)
	checkNumber(t, "PlanCost"+what, cost, ok, parts[0]+parts[1]+parts[2], is)
	setups, units, holds, ok := impl.CostParts(c, plan)
	if got := [3]int{setups, units, holds}; got != parts || ok != is {
		t.Errorf("CostParts%s = %v, %t, want %v, %t", what, got, ok, parts, is)
	}
	checkPlanLists(t, c, plan)
}

// noCases gives lists that are no Case, each with one fault.
func noCases() []impl.Case {
	var bad []impl.Case
	good := []impl.Case{caseOf([4]int{0, 0, 0, 0}), caseOf([4]int{3, 5, 1, 1}, [4]int{2, 5, 1, 1}, [4]int{4, 5, 1, 1}), sameRows(8, [4]int{20, 99, 9, 9})}
	for _, c := range good {
		for row, most := range []int{20, 99, 9, 9} {
			for at := range c.Need {
				for _, x := range []int{-1, most + 1, math.MaxInt, math.MinInt, 1 << 32} {
					d := copyCase(c)
					rowsOf(d)[row][at] = x
					bad = append(bad, d)
				}
			}
			for _, list := range [][]int{nil, append(slices.Clone(rowsOf(c)[row]), 0), rowsOf(c)[row][1:], make([]int, 5000)} {
				if len(list) == len(c.Need) {
					continue
				}
				d := copyCase(c)
				*[]*[]int{&d.Need, &d.Setup, &d.Unit, &d.Hold}[row] = list
				bad = append(bad, d)
			}
		}
	}
	bad = append(bad, sameRows(9, [4]int{}), sameRows(9, [4]int{20, 99, 9, 9}), sameRows(5000, [4]int{}))
	return append(bad, impl.Case{Need: []int{0}}, impl.Case{Setup: []int{0}}, impl.Case{Unit: []int{0}}, impl.Case{Hold: []int{0}})
}

func TestLotBounds(t *testing.T) {
	if impl.MaxPeriods != 8 || impl.MaxNeed != 20 || impl.MaxSetup != 99 || impl.MaxRate != 9 {
		t.Error("bounds", impl.MaxPeriods, impl.MaxNeed, impl.MaxSetup, impl.MaxRate)
	}
}

func TestP2IsCase(t *testing.T) {
	for _, c := range append(smallCases(), fullCases()...) {
		if !impl.IsCase(c) {
			t.Fatal("a Case that is none", c)
		}
	}
	empty := impl.Case{Need: []int{}, Setup: []int{}, Unit: []int{}, Hold: []int{}}
	if !impl.IsCase(impl.Case{}) || !impl.IsCase(empty) || !impl.IsCase(sameRows(8, [4]int{20, 99, 9, 9})) {
		t.Error("no periods, or as many as there may be")
	}
	for _, c := range noCases() {
		if impl.IsCase(c) {
			t.Error("no Case", c)
		}
	}
}

func TestP2PlanExamples(t *testing.T) {
	c := caseOf([4]int{3, 5, 1, 1}, [4]int{2, 7, 2, 3}, [4]int{4, 6, 3, 2})
	plan := []int{6, 0, 3}
	stocks, ok := impl.StocksOf(c, plan)
	checkList(t, "StocksOf", stocks, ok, []int{3, 1, 0}, true)
	setups, units, holds, ok := impl.CostParts(c, plan)
	if setups != 11 || units != 15 || holds != 6 || !ok {
		t.Error("CostParts", setups, units, holds, ok)
	}
	cost, ok := impl.PlanCost(c, plan)
	checkNumber(t, "PlanCost", cost, ok, 32, true)
	empty, ok := impl.EmptyPeriods(c, plan)
	checkList(t, "EmptyPeriods", empty, ok, []int{2}, true)
	orders, ok := impl.OrderPeriods(c, plan)
	checkList(t, "OrderPeriods", orders, ok, []int{0, 2}, true)
	calm, ok := impl.OrdersAtEmpty(c, plan)
	checkAnswer(t, "OrdersAtEmpty", calm, ok, false, true)
	is, ok := impl.IsPlan(c, plan)
	checkAnswer(t, "IsPlan", is, ok, true, true)
}

func TestP2DearestPlan(t *testing.T) {
	c := sameRows(8, [4]int{20, 99, 9, 9})
	setups, units, holds, ok := impl.CostParts(c, []int{153, 1, 1, 1, 1, 1, 1, 1})
	if setups != 792 || units != 1440 || holds != 4788 || !ok {
		t.Error("CostParts", setups, units, holds, ok)
	}
	cost, ok := impl.PlanCost(c, []int{153, 1, 1, 1, 1, 1, 1, 1})
	checkNumber(t, "PlanCost", cost, ok, 7020, true)
}

func TestP2AllPlansOfSmallCases(t *testing.T) {
	for _, c := range smallCases() {
		for _, plan := range allPlans(c) {
			checkPlan(t, c, plan)
		}
		if t.Failed() {
			return
		}
	}
}

func TestP2AllShortListsAsPlans(t *testing.T) {
	cases := []impl.Case{{}, caseOf([4]int{0, 1, 1, 1}), caseOf([4]int{2, 3, 1, 1}), caseOf([4]int{1, 4, 1, 2}, [4]int{2, 3, 2, 1}), caseOf([4]int{0, 2, 1, 0}, [4]int{1, 0, 0, 1}, [4]int{1, 1, 1, 1})}
	for _, c := range cases {
		lists := [][]int{{}}
		for i := 0; i < len(lists); i++ {
			checkPlan(t, c, lists[i])
			for x := -1; x <= 4 && len(lists[i]) < 4; x++ {
				lists = append(lists, append(slices.Clone(lists[i]), x))
			}
		}
	}
}

func TestP2NoPlans(t *testing.T) {
	c := caseOf([4]int{3, 5, 1, 1}, [4]int{2, 5, 1, 1}, [4]int{4, 5, 1, 1})
	for _, plan := range [][]int{
		nil, {}, {9}, {5, 4}, {3, 2, 4, 0}, {0, 3, 2, 4}, {9, 0, 0, 0}, {3, 2, 5}, {10, 0, 0}, {3, 2, 3}, {0, 0, 0}, {2, 3, 4}, {0, 0, 9}, {3, 1, 5}, {0, 9, 0},
		{-1, 6, 4}, {4, -1, 6}, {10, 0, -1}, {10, -1, 0}, {math.MaxInt, 0, 0}, {math.MinInt, 0, 0}, {0, math.MinInt, math.MinInt}, {9, 0, math.MinInt},
		{math.MaxInt, math.MaxInt, 11}, {math.MaxInt, math.MinInt, 10}, {3, math.MaxInt, math.MinInt + 7}, {1<<62 + 3, 1<<62 + 2, 4}, {9, 1 << 63 >> 1, 1 << 62},
		make([]int, 5000), slices.Repeat([]int{3, 2, 4}, 2),
	} {
		if _, is := stocksBySteps(c, plan); is {
			t.Fatal("this is a plan", plan)
		}
		checkPlan(t, c, plan)
		checkPlan(t, impl.Case{}, append([]int{0}, plan...))
	}
}

func TestP2NoPeriods(t *testing.T) {
	var c impl.Case
	for _, plan := range [][]int{nil, {}} {
		is, ok := impl.IsPlan(c, plan)
		checkAnswer(t, "IsPlan", is, ok, true, true)
		calm, ok := impl.OrdersAtEmpty(c, plan)
		checkAnswer(t, "OrdersAtEmpty", calm, ok, true, true)
		checkPlan(t, c, plan)
	}
	for _, periods := range [][]int{nil, {}} {
		plan, ok := impl.PlanFrom(c, periods)
		checkList(t, "PlanFrom", plan, ok, nil, true)
	}
	for _, periods := range [][]int{{0}, {-1}, {1}, {0, 1}} {
		plan, ok := impl.PlanFrom(c, periods)
		checkList(t, "PlanFrom", plan, ok, nil, false)
	}
	best, ok := impl.BestPeriods(c)
	checkList(t, "BestPeriods", best, ok, nil, true)
	least, ok := impl.BestCost(c)
	checkNumber(t, "BestCost", least, ok, 0, true)
	lots, ok := impl.LotForLot(c)
	checkList(t, "LotForLot", lots, ok, nil, true)
	never, ok := impl.WaitsNever(c)
	checkAnswer(t, "WaitsNever", never, ok, true, true)
}

func TestP2PlanFromExamples(t *testing.T) {
	c := caseOf([4]int{0, 5, 1, 1}, [4]int{2, 5, 1, 1}, [4]int{0, 5, 1, 1}, [4]int{4, 5, 1, 1}, [4]int{0, 5, 1, 1})
	for _, x := range []struct {
		periods, want []int
		ok            bool
	}{
		{[]int{0}, []int{6, 0, 0, 0, 0}, true}, {[]int{1}, []int{0, 6, 0, 0, 0}, true}, {[]int{0, 1}, []int{0, 6, 0, 0, 0}, true},
		{[]int{1, 2}, []int{0, 2, 4, 0, 0}, true}, {[]int{1, 3}, []int{0, 2, 0, 4, 0}, true}, {[]int{0, 3}, []int{2, 0, 0, 4, 0}, true},
		{[]int{1, 4}, []int{0, 6, 0, 0, 0}, true}, {[]int{0, 1, 2, 3, 4}, []int{0, 2, 0, 4, 0}, true},
		{nil, nil, false}, {[]int{2}, nil, false}, {[]int{3}, nil, false}, {[]int{2, 3}, nil, false}, {[]int{4}, nil, false},
		{[]int{1, 1}, nil, false}, {[]int{3, 1}, nil, false}, {[]int{1, 3, 2}, nil, false}, {[]int{0, 0}, nil, false}, {[]int{1, 3, 3}, nil, false},
		{[]int{-1}, nil, false}, {[]int{-1, 1}, nil, false}, {[]int{1, 5}, nil, false}, {[]int{5}, nil, false},
		{[]int{1, math.MaxInt}, nil, false}, {[]int{math.MinInt, 1}, nil, false}, {[]int{math.MaxInt, math.MinInt}, nil, false}, {make([]int, 5000), nil, false},
	} {
		plan, ok := impl.PlanFrom(c, x.periods)
		checkList(t, fmt.Sprint("PlanFrom ", x.periods), plan, ok, x.want, x.ok)
	}
}

func TestP2PlanFromWithoutNeeds(t *testing.T) {
	for n := range 9 {
		c := sameRows(n, [4]int{0, 5, 1, 1})
		for _, periods := range orderLists(n) {
			plan, ok := impl.PlanFrom(c, periods)
			checkList(t, fmt.Sprint("PlanFrom ", periods), plan, ok, make([]int, n), true)
		}
	}
}

func TestP2PlanFromAllLists(t *testing.T) {
	var d dice = 3
	for i := range 200 {
		c := d.thrownCase(i%4, 3, 5, 2)
		lists := [][]int{{}}
		for i := 0; i < len(lists); i++ {
			want, wantOK := planBySteps(c, lists[i])
			plan, ok := impl.PlanFrom(c, lists[i])
			checkList(t, fmt.Sprintf("PlanFrom(%v, %v)", c, lists[i]), plan, ok, want, wantOK)
			for x := -1; x <= 4 && len(lists[i]) < 4; x++ {
				lists = append(lists, append(slices.Clone(lists[i]), x))
			}
		}
	}
}

func TestP2PlanFromIsAPlanThatOrdersAtEmptyStock(t *testing.T) {
	for _, c := range fullCases() {
		for _, periods := range orderLists(len(c.Need)) {
			want, wantOK := planBySteps(c, periods)
			plan, ok := impl.PlanFrom(c, periods)
			if !slices.Equal(plan, want) || ok != wantOK {
				t.Fatalf("PlanFrom(%v, %v) = %v, %t, want %v, %t", c, periods, plan, ok, want, wantOK)
			}
			calm, fine := impl.OrdersAtEmpty(c, plan)
			if ok && (!calm || !fine) {
				t.Fatal("not at empty stock", c, periods, plan)
			}
		}
	}
}

func TestP2BestExamples(t *testing.T) {
	for _, x := range []struct {
		c    impl.Case
		best []int
		cost int
	}{
		{caseOf([4]int{3, 5, 1, 1}, [4]int{2, 5, 1, 1}, [4]int{4, 5, 1, 1}), []int{0, 2}, 21},
		{caseOf([4]int{0, 5, 1, 1}), nil, 0},
		{caseOf([4]int{4, 5, 2, 1}), []int{0}, 13},
		{caseOf([4]int{4, 0, 0, 0}), []int{0}, 0},
		{sameRows(8, [4]int{0, 99, 9, 9}), nil, 0},
		{sameRows(8, [4]int{20, 99, 9, 9}), []int{0, 1, 2, 3, 4, 5, 6, 7}, 2232},
		{sameRows(8, [4]int{20, 99, 9, 0}), []int{0}, 1539},
		{sameRows(8, [4]int{20, 0, 9, 9}), []int{0, 1, 2, 3, 4, 5, 6, 7}, 1440},
		{sameRows(8, [4]int{1, 99, 0, 1}), []int{0}, 127},
		{sameRows(8, [4]int{}), nil, 0},
		{caseOf([4]int{0, 9, 1, 0}, [4]int{3, 5, 1, 1}), []int{1}, 8},
		{caseOf([4]int{0, 2, 1, 0}, [4]int{3, 5, 1, 1}), []int{0}, 5},
		{caseOf([4]int{3, 5, 1, 1}, [4]int{0, 0, 0, 0}, [4]int{4, 9, 9, 9}), []int{0, 1}, 8},
	} {
		best, ok := impl.BestPeriods(x.c)
		checkList(t, fmt.Sprint("BestPeriods ", x.c), best, ok, x.best, true)
		least, ok := impl.BestCost(x.c)
		checkNumber(t, fmt.Sprint("BestCost ", x.c), least, ok, x.cost, true)
	}
}

func TestP2BestPeriodsOfEqualCosts(t *testing.T) {
	for _, x := range []struct {
		c    impl.Case
		best []int
	}{
		// As long: the list that is lexicographically first, even where nothing is needed yet.
		{caseOf([4]int{0, 5, 1, 0}, [4]int{3, 5, 1, 0}), []int{0}},
		{caseOf([4]int{3, 5, 1, 1}, [4]int{0, 5, 1, 0}, [4]int{9, 5, 1, 0}), []int{0, 1}},
		{caseOf([4]int{0, 4, 0, 0}, [4]int{0, 4, 0, 0}, [4]int{2, 9, 0, 0}, [4]int{2, 1, 0, 1}), []int{0}},
		// The shorter list, even if it is lexicographically behind the other one.
		{caseOf([4]int{3, 5, 0, 1}, [4]int{2, 2, 0, 0}), []int{0}},
		{caseOf([4]int{0, 0, 0, 0}, [4]int{1, 0, 0, 9}, [4]int{1, 9, 0, 0}), []int{0}},
		{caseOf([4]int{0, 1, 0, 2}, [4]int{1, 3, 0, 1}, [4]int{1, 1, 0, 0}), []int{1}},
		{caseOf([4]int{1, 0, 0, 9}, [4]int{0, 1, 0, 2}, [4]int{1, 3, 0, 1}, [4]int{1, 1, 0, 0}), []int{0, 2}},
		{sameRows(4, [4]int{1, 0, 0, 0}), []int{0}},
		{sameRows(8, [4]int{20, 0, 9, 0}), []int{0}},
	} {
		want, least := bestByAll(x.c)
		if !slices.Equal(want, x.best) {
			t.Error("the example is wrong", x.c, x.best, want)
		}
		best, ok := impl.BestPeriods(x.c)
		checkList(t, fmt.Sprint("BestPeriods ", x.c), best, ok, x.best, true)
		cost, ok := impl.BestCost(x.c)
		checkNumber(t, fmt.Sprint("BestCost ", x.c), cost, ok, least, true)
	}
}

func TestP2BestOfAllOrderPeriods(t *testing.T) {
	for _, c := range append(smallCases(), fullCases()...) {
		want, least := bestByAll(c)
		best, ok := impl.BestPeriods(c)
		checkList(t, fmt.Sprint("BestPeriods ", c), best, ok, want, true)
		cost, ok := impl.BestCost(c)
		checkNumber(t, fmt.Sprint("BestCost ", c), cost, ok, least, true)
		plan, _ := impl.PlanFrom(c, best)
		cost, ok = impl.PlanCost(c, plan)
		checkNumber(t, fmt.Sprint("PlanCost ", c, plan), cost, ok, least, true)
		if t.Failed() {
			return
		}
	}
}

func TestP2NoPlanCostsLess(t *testing.T) {
	for _, c := range smallCases() {
		least, ok := impl.BestCost(c)
		if !ok {
			t.Fatal("no BestCost", c)
		}
		met := false
		for _, plan := range allPlans(c) {
			cost, ok := impl.PlanCost(c, plan)
			if !ok || cost < least {
				t.Fatal("a plan costs less than BestCost", c, plan, cost, least)
			}
			met = met || cost == least
		}
		if !met {
			t.Fatal("no plan costs as little as BestCost", c, least)
		}
	}
}

func TestP2SmoothPlanExamples(t *testing.T) {
	for _, x := range []struct {
		c          impl.Case
		plan, want []int
	}{
		{caseOf([4]int{3, 5, 1, 1}, [4]int{2, 5, 1, 1}, [4]int{4, 5, 1, 1}), []int{4, 1, 4}, []int{3, 2, 4}},
		// Later costs more: the order is taken back into the one before it.
		{caseOf([4]int{1, 1, 0, 0}, [4]int{2, 1, 9, 0}), []int{2, 1}, []int{3, 0}},
		// As much later as it is: then it is later.
		{caseOf([4]int{1, 1, 1, 1}, [4]int{2, 1, 2, 0}), []int{2, 1}, []int{1, 2}},
		// The order before is all stock still: it goes, with its Setup.
		{caseOf([4]int{0, 7, 0, 0}, [4]int{5, 1, 1, 0}), []int{4, 1}, []int{0, 5}},
		{caseOf([4]int{0, 3, 0, 0}, [4]int{5, 1, 1, 0}), []int{4, 1}, []int{5, 0}},
		{caseOf([4]int{0, 4, 0, 0}, [4]int{5, 1, 1, 0}), []int{4, 1}, []int{0, 5}},
		// The last order before is not in the period before.
		{caseOf([4]int{1, 1, 0, 2}, [4]int{1, 1, 0, 2}, [4]int{2, 1, 0, 0}), []int{3, 0, 1}, []int{2, 0, 2}},
		{caseOf([4]int{1, 1, 0, 0}, [4]int{1, 1, 0, 0}, [4]int{2, 1, 9, 0}), []int{3, 0, 1}, []int{4, 0, 0}},
		// What is later becomes the stock before the next order.
		{caseOf([4]int{1, 1, 0, 1}, [4]int{1, 1, 0, 1}, [4]int{2, 1, 0, 0}), []int{3, 0, 1}, []int{2, 0, 2}},
		{caseOf([4]int{1, 1, 1, 1}, [4]int{1, 1, 1, 1}, [4]int{2, 1, 1, 0}), []int{2, 1, 1}, []int{1, 1, 2}},
	} {
		smooth, ok := impl.SmoothPlan(x.c, x.plan)
		checkList(t, fmt.Sprint("SmoothPlan ", x.c, x.plan), smooth, ok, x.want, true)
	}
}

func TestP2SmoothPlanNeverCostsMore(t *testing.T) {
	for _, c := range smallCases() {
		for _, plan := range allPlans(c) {
			smooth, ok := impl.SmoothPlan(c, plan)
			calm, fine := impl.OrdersAtEmpty(c, smooth)
			if !ok || !fine || !calm {
				t.Fatal("not a plan at empty stock", c, plan, smooth)
			}
			before, _ := impl.PlanCost(c, plan)
			behind, _ := impl.PlanCost(c, smooth)
			if behind > before {
				t.Fatal("costs more", c, plan, smooth)
			}
			if was, _ := impl.OrdersAtEmpty(c, plan); was && !slices.Equal(plan, smooth) {
				t.Fatal("changed a plan that orders at empty stock", c, plan, smooth)
			}
		}
	}
}

// thrownPlan gives a plan of a Case whose amounts lie anywhere before their Needs.
func (d *dice) thrownPlan(c impl.Case) []int {
	plan := make([]int, len(c.Need))
	for t, need := range c.Need {
		for range need {
			plan[d.throw(t)]++
		}
	}
	return plan
}

func TestP2PlansOfFullCases(t *testing.T) {
	var d dice = 17
	for _, c := range fullCases() {
		for range 5 {
			checkPlan(t, c, d.thrownPlan(c))
		}
		lots, ok := impl.LotForLot(c)
		checkList(t, fmt.Sprint("LotForLot ", c), lots, ok, c.Need, true)
		calm, ok := impl.OrdersAtEmpty(c, lots)
		checkAnswer(t, fmt.Sprint("OrdersAtEmpty ", c, lots), calm, ok, true, true)
		if t.Failed() {
			return
		}
	}
}

func TestP2CutCaseExamples(t *testing.T) {
	a, b, e := [4]int{3, 5, 1, 2}, [4]int{2, 6, 4, 7}, [4]int{4, 8, 9, 0}
	c := caseOf(a, b, e)
	for _, x := range []struct {
		from, to int
		want     impl.Case
	}{
		{0, 3, c}, {0, 2, caseOf(a, b)}, {1, 3, caseOf(b, e)}, {1, 2, caseOf(b)}, {2, 3, caseOf(e)},
		{0, 0, impl.Case{}}, {1, 1, impl.Case{}}, {3, 3, impl.Case{}},
	} {
		cut, ok := impl.CutCase(c, x.from, x.to)
		checkCase(t, fmt.Sprint("CutCase ", x.from, x.to), cut, ok, x.want, true)
	}
	cut, ok := impl.CutCase(impl.Case{}, 0, 0)
	checkCase(t, "CutCase of none", cut, ok, impl.Case{}, true)
}

func TestP2CutCaseAllNumbers(t *testing.T) {
	numbers := []int{math.MinInt, math.MinInt32, -9, -8, -2, -1, 0, 1, 2, 3, 4, 5, 6, 7, 8, 9, 10, 1 << 32, math.MaxInt}
	for _, c := range fullCases()[500:620] {
		for _, from := range numbers {
			for _, to := range numbers {
				var want impl.Case
				right := from >= 0 && from <= to && to <= len(c.Need)
				if right {
					want = impl.Case{Need: c.Need[from:to], Setup: c.Setup[from:to], Unit: c.Unit[from:to], Hold: c.Hold[from:to]}
				}
				cut, ok := impl.CutCase(c, from, to)
				checkCase(t, fmt.Sprint("CutCase ", c, from, to), cut, ok, want, right)
			}
		}
	}
}

func TestP2JoinCases(t *testing.T) {
	var d dice = 23
	for n := range 9 {
		for m := range 9 {
			a, b := d.thrownCase(n, 20, 99, 9), d.thrownCase(m, 20, 99, 9)
			var want impl.Case
			if n+m <= 8 {
				want = impl.Case{Need: slices.Concat(a.Need, b.Need), Setup: slices.Concat(a.Setup, b.Setup), Unit: slices.Concat(a.Unit, b.Unit), Hold: slices.Concat(a.Hold, b.Hold)}
			}
			joined, ok := impl.JoinCases(a, b)
			checkCase(t, fmt.Sprint("JoinCases ", a, b), joined, ok, want, n+m <= 8)
			if !ok {
				continue
			}
			first, one := impl.CutCase(joined, 0, n)
			checkCase(t, "the first part", first, one, a, true)
			second, two := impl.CutCase(joined, n, n+m)
			checkCase(t, "the second part", second, two, b, true)
		}
	}
}

func TestP2JoinedCasesCostNoMore(t *testing.T) {
	var d dice = 29
	for i := range 2000 {
		a, b := d.thrownCase(i%5, 6, 20, 3), d.thrownCase(i/5%5, 6, 20, 3)
		joined, _ := impl.JoinCases(a, b)
		one, fine := impl.BestCost(a)
		two, good := impl.BestCost(b)
		both, ok := impl.BestCost(joined)
		if !ok || !fine || !good || both > one+two {
			t.Fatal("both cost more", a, b, one, two, both)
		}
	}
}

func TestP2WaitsNever(t *testing.T) {
	for _, x := range []struct {
		units, holds []int
		want         bool
	}{
		{[]int{9}, []int{0}, true}, {[]int{1, 1}, []int{0, 0}, true}, {[]int{1, 2}, []int{1, 0}, true}, {[]int{1, 2}, []int{0, 9}, false},
		{[]int{1, 3}, []int{1, 9}, false}, {[]int{2, 1}, []int{0, 0}, true}, {[]int{0, 9}, []int{9, 0}, true}, {[]int{0, 9}, []int{8, 9}, false},
		{[]int{9, 0, 1}, []int{0, 1, 0}, true}, {[]int{9, 0, 1}, []int{9, 0, 9}, false}, {[]int{1, 2, 3}, []int{1, 1, 0}, true}, {[]int{1, 3, 3}, []int{1, 1, 1}, false},
		{[]int{9, 9, 9, 9, 9, 9, 0, 9}, []int{0, 0, 0, 0, 0, 0, 9, 0}, true}, {[]int{9, 9, 9, 9, 9, 9, 0, 9}, []int{0, 0, 0, 0, 0, 0, 8, 9}, false},
	} {
		c := impl.Case{Need: make([]int, len(x.units)), Setup: make([]int, len(x.units)), Unit: x.units, Hold: x.holds}
		never, ok := impl.WaitsNever(c)
		checkAnswer(t, fmt.Sprint("WaitsNever ", c), never, ok, x.want, true)
	}
}

func TestP2WhereOneNeverWaitsTheLastOrderIsBest(t *testing.T) {
	yes, no := 0, 0
	for _, c := range smallCases() {
		want := true
		for i := 1; i < len(c.Need); i++ {
			want = want && c.Unit[i-1]+c.Hold[i-1] >= c.Unit[i]
		}
		never, ok := impl.WaitsNever(c)
		checkAnswer(t, fmt.Sprint("WaitsNever ", c), never, ok, want, true)
		if !never {
			no++
			continue
		}
		yes++
		for _, plan := range allPlans(c) {
			orders, _ := impl.OrderPeriods(c, plan)
			late, _ := impl.PlanFrom(c, orders)
			before, _ := impl.PlanCost(c, plan)
			behind, ok := impl.PlanCost(c, late)
			if !ok || behind > before {
				t.Fatal("earlier is better", c, plan, late)
			}
		}
	}
	if yes < 100 || no < 100 {
		t.Error("too few Cases of one kind", yes, no)
	}
}

func TestP2CaseTextExamples(t *testing.T) {
	for text, c := range map[string]impl.Case{
		"none":                    {},
		"0/0/0/0":                 caseOf([4]int{}),
		"20/99/9/8":               caseOf([4]int{20, 99, 9, 8}),
		"3/5/1/1 2/5/1/1 4/5/1/1": caseOf([4]int{3, 5, 1, 1}, [4]int{2, 5, 1, 1}, [4]int{4, 5, 1, 1}),
		"1/2/3/4 5/6/7/8":         caseOf([4]int{1, 2, 3, 4}, [4]int{5, 6, 7, 8}),
		strings.Repeat("20/99/9/9 ", 7) + "20/99/9/9": sameRows(8, [4]int{20, 99, 9, 9}),
		strings.Repeat("0/0/0/0 ", 7) + "0/0/0/0":     sameRows(8, [4]int{}),
	} {
		got, ok := impl.CaseText(c)
		checkText(t, "CaseText", got, ok, text, true)
		back, ok := impl.ParseCase(text)
		checkCase(t, "ParseCase "+text, back, ok, c, true)
	}
}

func TestP2ParseCaseRefuses(t *testing.T) {
	for _, s := range []string{
		"", " ", "/", "///", "none ", " none", "None", "NONE", "non", "nonee", "none none", "none 1/1/1/1", "1/1/1/1 none", "none\n", "0", "1",
		"1/1/1", "1/1/1/", "/1/1/1", "1//1/1", "1/1/1/1/", "1/1/1/1/1", "/1/1/1/1", "1/1 1/1", "1/1/1 1", "1 1 1 1", "1-1-1-1", "1/1/1/1,1/1/1/1",
		" 1/1/1/1", "1/1/1/1 ", "1/1/1/1  1/1/1/1", "1/1/1/1\n", "1/1/1/1\n1/1/1/1", "1/1/1/1\t1/1/1/1", "1/1/1/1\x00", "1 /1/1/1", "1/ 1/1/1",
		"21/1/1/1", "1/100/1/1", "1/1/10/1", "1/1/1/10", "-1/1/1/1", "1/-1/1/1", "1/1/-1/1", "1/1/1/-1", "-0/1/1/1", "1/1/1/-0",
		"01/1/1/1", "1/01/1/1", "1/1/01/1", "1/1/1/01", "00/0/0/0", "+1/1/1/1", "1/1/1/+1", "1.0/1/1/1", "x/1/1/1", "1/x/1/1", "1/1/x/1", "1/1/1/x", "0x1/1/1/1",
		"1/1/1/1 21/1/1/1", "1/1/1/1 1/1/1", "1/1/1/1 1/1/1/1 1/100/1/1", "1000000/1/1/1", "4294967297/1/1/1", "18446744073709551617/1/1/1", "1/1/1/18446744073709551617",
		strings.Repeat("1/1/1/1 ", 8) + "1/1/1/1", strings.Repeat("1/1/1/1 ", 400) + "1/1/1/1", strings.Repeat("1/1/1/1 ", 600) + "1/1/1/1",
		strings.Repeat(" ", 4000), strings.Repeat("/", 4001), strings.Repeat("1/1/1/1 ", 1<<17), strings.Repeat("1", 5000) + "/1/1/1", "\uff11/1/1/1", "\xff",
	} {
		c, ok := impl.ParseCase(s)
		checkCase(t, fmt.Sprintf("ParseCase %.80q", s), c, ok, impl.Case{}, false)
	}
}

func TestP2ParseCaseAllShortTexts(t *testing.T) {
	written := map[string]impl.Case{}
	for i := range 10000 {
		row := [4]int{i % 12, i / 12 % 12, i / 144 % 2, i / 288 % 2}
		written[fmt.Sprintf("%d/%d/%d/%d", row[0], row[1], row[2], row[3])] = caseOf(row)
	}
	for _, s := range slices.Concat(textsOf("01/", 9), textsOf("0/ -", 8), textsOf("none", 5)) {
		want, wantOK := written[s]
		if s == "none" {
			wantOK = true
		}
		c, ok := impl.ParseCase(s)
		checkCase(t, fmt.Sprintf("ParseCase %q", s), c, ok, want, wantOK)
	}
}

func TestP2CaseTextRoundTrip(t *testing.T) {
	for _, c := range append(smallCases(), fullCases()...) {
		var words []string
		for i := range c.Need {
			words = append(words, fmt.Sprintf("%d/%d/%d/%d", c.Need[i], c.Setup[i], c.Unit[i], c.Hold[i]))
		}
		want := strings.Join(words, " ")
		if len(words) == 0 {
			want = "none"
		}
		text, ok := impl.CaseText(c)
		checkText(t, fmt.Sprint("CaseText ", c), text, ok, want, true)
		back, ok := impl.ParseCase(text)
		checkCase(t, "ParseCase "+text, back, ok, c, true)
	}
}

func TestP2ChangedTextsAreReadAsTheyAreWritten(t *testing.T) {
	for _, text := range []string{"none", "0/0/0/0", "20/99/9/9 0/0/0/0", "3/5/1/1 2/50/1/1 14/5/1/1"} {
		for i := range len(text) {
			for b := range 256 {
				changed := []byte(text)
				changed[i] = byte(b)
				for _, s := range []string{string(changed), text[:i] + string(changed[i:i+1]) + text[i:], text[:i] + text[i+1:]} {
					c, ok := impl.ParseCase(s)
					if !ok {
						checkCase(t, fmt.Sprintf("ParseCase %q", s), c, ok, impl.Case{}, false)
						continue
					}
					written, ok := impl.CaseText(c)
					checkText(t, fmt.Sprint("CaseText ", c), written, ok, s, true)
				}
			}
		}
	}
}

// lotCall is a call of a function of the chapter; its results are without their last bool where
// this says that the call fails.
type lotCall struct {
	name    string
	results []any
	ok      bool
}

// callsWith calls each function that takes one Case with it, and with a list.
func callsWith(c impl.Case, list []int) []lotCall {
	one := func(name string, x any, ok bool) lotCall { return lotCall{name, []any{x}, ok} }
	var calls []lotCall
	stocks, ok := impl.StocksOf(c, list)
	calls = append(calls, one("StocksOf", stocks, ok))
	is, ok := impl.IsPlan(c, list)
	calls = append(calls, one("IsPlan", is, ok))
	cost, ok := impl.PlanCost(c, list)
	calls = append(calls, one("PlanCost", cost, ok))
	setups, units, holds, ok := impl.CostParts(c, list)
	calls = append(calls, lotCall{"CostParts", []any{setups, units, holds}, ok})
	empty, ok := impl.EmptyPeriods(c, list)
	calls = append(calls, one("EmptyPeriods", empty, ok))
	calm, ok := impl.OrdersAtEmpty(c, list)
	calls = append(calls, one("OrdersAtEmpty", calm, ok))
	plan, ok := impl.PlanFrom(c, list)
	calls = append(calls, one("PlanFrom", plan, ok))
	orders, ok := impl.OrderPeriods(c, list)
	calls = append(calls, one("OrderPeriods", orders, ok))
	best, ok := impl.BestPeriods(c)
	calls = append(calls, one("BestPeriods", best, ok))
	least, ok := impl.BestCost(c)
	calls = append(calls, one("BestCost", least, ok))
	smooth, ok := impl.SmoothPlan(c, list)
	calls = append(calls, one("SmoothPlan", smooth, ok))
	lots, ok := impl.LotForLot(c)
	calls = append(calls, one("LotForLot", lots, ok))
	never, ok := impl.WaitsNever(c)
	calls = append(calls, one("WaitsNever", never, ok))
	text, ok := impl.CaseText(c)
	calls = append(calls, one("CaseText", text, ok))
	for at := range len(c.Need) + 1 {
		cut, ok := impl.CutCase(c, at/2, at)
		calls = append(calls, one("CutCase", cut, ok))
		cut, ok = impl.CutCase(c, at, at)
		calls = append(calls, one("CutCase", cut, ok))
	}
	joined, ok := impl.JoinCases(c, impl.Case{})
	calls = append(calls, one("JoinCases", joined, ok))
	joined, ok = impl.JoinCases(impl.Case{}, c)
	calls = append(calls, one("JoinCases", joined, ok))
	joined, ok = impl.JoinCases(c, c)
	return append(calls, one("JoinCases", joined, ok))
}

// isZero reports whether a result is a zero value.
func isZero(x any) bool {
	switch v := x.(type) {
	case []int:
		return len(v) == 0
	case [][]int:
		return len(v) == 0
	case [][2]int:
		return len(v) == 0
	case [2]int:
		return v == [2]int{}
	case []impl.Contract:
		return len(v) == 0
	case []impl.Parcel:
		return len(v) == 0
	case impl.Flow:
		return sameFlow(v, impl.Flow{})
	case impl.Ledger:
		return sameLedger(v, impl.Ledger{})
	case impl.Console:
		return sameConsole(v, impl.Console{})
	case impl.Log:
		return v == impl.Log{}
	case []impl.LogRecord:
		return len(v) == 0
	case []string:
		return len(v) == 0
	case impl.Case:
		return sameCase(v, impl.Case{})
	}
	return x == 0 || x == false || x == ""
}

// listsIn gives the lists of a result.
func listsIn(x any) [][]int {
	switch v := x.(type) {
	case []int:
		return [][]int{v}
	case [][]int:
		return v
	case [][2]int:
		var lists [][]int
		for i := range v {
			lists = append(lists, v[i][:])
		}
		return lists
	case impl.Flow:
		return [][]int{v.Under}
	case impl.Ledger:
		return append(rowsOf(v.Case), v.Plan)
	case impl.Console:
		return listsIn(v.Run)
	case impl.Case:
		return rowsOf(v)
	}
	return nil
}

// lotLists gives lists of numbers that may be plans or order periods of a Case, or not.
func lotLists(c impl.Case) [][]int {
	var d dice = 41
	lists := [][]int{nil, {0}, {0, 2}, {2, 0}, {-1}, {math.MaxInt, math.MinInt}, make([]int, len(c.Need)), make([]int, 50), slices.Clone(c.Need)}
	if impl.IsCase(c) {
		lists = append(lists, d.thrownPlan(c), d.thrownPlan(c))
	}
	return lists
}

// callsOf gives calls of the functions of a chapter with a Case and a list.
type callsOf func(c impl.Case, list []int) []lotCall

// checkZeroBesideFalse looks for results beside false that are no zero values, and for calls that
// do not fail although they are to.
func checkZeroBesideFalse(t *testing.T, calls []lotCall, allFail bool) {
	t.Helper()
	for _, call := range calls {
		if call.ok && allFail || !call.ok && slices.ContainsFunc(call.results, func(x any) bool { return !isZero(x) }) {
			t.Fatal("results beside false", call)
		}
	}
}

// checkEachFailsAndDoesNot looks for results beside false that are no zero values, and for functions
// of which too few calls fail, or do not: some of them never fail.
func checkEachFailsAndDoesNot(t *testing.T, calls []lotCall, functions int, never ...string) {
	t.Helper()
	checkZeroBesideFalse(t, calls, false)
	failing, fine := map[string]int{}, map[string]int{}
	for _, call := range calls {
		if call.ok {
			fine[call.name]++
		} else {
			failing[call.name]++
		}
	}
	for name := range fine {
		if fine[name] < 100 || failing[name] < 100 && !slices.Contains(never, name) {
			t.Error("too few calls that fail, or do not", name, failing[name], fine[name])
		}
	}
	if len(fine) != functions {
		t.Error("not all functions", fine)
	}
}

func TestP13AllFailWithoutACase(t *testing.T) {
	bad := noCases()
	for _, c := range bad {
		for _, list := range lotLists(c) {
			checkZeroBesideFalse(t, callsWith(c, list), true)
		}
	}
	for _, c := range bad {
		for _, good := range []impl.Case{{}, caseOf([4]int{1, 2, 3, 4})} {
			joined, ok := impl.JoinCases(c, good)
			checkCase(t, fmt.Sprint("JoinCases ", c, good), joined, ok, impl.Case{}, false)
			joined, ok = impl.JoinCases(good, c)
			checkCase(t, fmt.Sprint("JoinCases ", good, c), joined, ok, impl.Case{}, false)
		}
	}
}

func TestP13WhereLotFunctionsFailAllResultsAreZero(t *testing.T) {
	for _, c := range fullCases() {
		for _, list := range lotLists(c) {
			checkZeroBesideFalse(t, callsWith(c, list), false)
		}
	}
}

// withRoom gives a list with the same numbers and with memory behind them, and all this memory.
func withRoom(list []int) ([]int, []int) {
	all := append(slices.Clone(list), 71, 72, 73, 74, 75, 76, 77, 78, 79)
	return all[:len(list)], all
}

// checkLeavesArguments writes to each result and grows it: the arguments, the memory behind them
// and the other results are to stay what they were.
func checkLeavesArguments(t *testing.T, calls callsOf, c impl.Case, list []int) {
	t.Helper()
	var given impl.Case
	memory := make([][]int, 5)
	given.Need, memory[0] = withRoom(c.Need)
	given.Setup, memory[1] = withRoom(c.Setup)
	given.Unit, memory[2] = withRoom(c.Unit)
	given.Hold, memory[3] = withRoom(c.Hold)
	plan, all := withRoom(list)
	memory[4] = all
	var before [][]int
	for _, m := range memory {
		before = append(before, slices.Clone(m))
	}
	got := calls(given, plan)
	checkResultsAreApart(t, got)
	if !slices.EqualFunc(memory, before, slices.Equal[[]int]) {
		t.Fatal("changed", c, list, memory)
	}
	for i, call := range calls(c, list) {
		if call.ok != got[i].ok {
			t.Fatal("another answer", c, list, call, got[i])
		}
	}
}

func TestP13LotFunctionsLeaveTheirArguments(t *testing.T) {
	for _, c := range append(fullCases()[:400], noCases()...) {
		for _, list := range lotLists(c) {
			checkLeavesArguments(t, callsWith, c, list)
		}
	}
}

// checkResultsAreApart writes to each list of each result and grows it, and looks at all others.
func checkResultsAreApart(t *testing.T, calls []lotCall) {
	t.Helper()
	var lists, before [][]int
	for _, call := range calls {
		for _, x := range call.results {
			lists = append(lists, listsIn(x)...)
		}
	}
	for i, list := range lists {
		for j := range list {
			list[j] = 100 + i
		}
		before = append(before, slices.Repeat([]int{100 + i}, len(list)))
	}
	for i, list := range lists {
		_ = append(list, -1-i)
	}
	if !slices.EqualFunc(lists, before, slices.Equal[[]int]) {
		t.Fatal("results share memory", calls)
	}
}

// checkSameAgain writes to the results of the same calls in between.
func checkSameAgain(t *testing.T, calls callsOf, c impl.Case, list []int) {
	t.Helper()
	first := fmt.Sprint(calls(c, list))
	checkResultsAreApart(t, calls(c, list))
	if second := fmt.Sprint(calls(c, list)); first != second {
		t.Fatal("another result", first, second)
	}
}

func TestP13LotFunctionsReturnTheSameAgain(t *testing.T) {
	for _, c := range append(fullCases()[:300], noCases()...) {
		for _, list := range lotLists(c) {
			checkSameAgain(t, callsWith, c, list)
		}
	}
}

func TestP13ParseCaseResultsAreNew(t *testing.T) {
	for _, s := range []string{"none", "1/1/1/1", "3/5/1/1 3/5/1/1 3/5/1/1", strings.Repeat("1/1/1/1 ", 7) + "1/1/1/1"} {
		a, _ := impl.ParseCase(s)
		b, _ := impl.ParseCase(s)
		checkResultsAreApart(t, []lotCall{{"ParseCase", []any{a}, true}, {"ParseCase", []any{b}, true}})
		want := strings.Count(s, "/") / 3
		if c, ok := impl.ParseCase(s); !ok || len(c.Need) != want || want > 0 && c.Need[0] > 3 {
			t.Error("another result", s, c)
		}
	}
}
