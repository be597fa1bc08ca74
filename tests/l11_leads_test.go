package tests

import (
	"fmt"
	"math"
	"reflect"
	"slices"
	"testing"

	"loop.example/g01111/impl"
)

// flowOf gives the Flow with a Stock and the orders under way.
func flowOf(stock int, under ...int) impl.Flow {
	return impl.Flow{Stock: stock, Under: under}
}

func upToRule(high int) impl.Rule { return impl.Rule{Kind: impl.KindUpTo, High: high} }

func twoRule(low, high int) impl.Rule { return impl.Rule{Kind: impl.KindTwo, Low: low, High: high} }

func lotsRule(low, lot int) impl.Rule { return impl.Rule{Kind: impl.KindLots, Low: low, High: lot} }

// parcelsOf gives the Parcels with a row of Day, Amount and Lead for each one.
func parcelsOf(rows [][3]int) []impl.Parcel {
	var parcels []impl.Parcel
	for _, x := range rows {
		parcels = append(parcels, impl.Parcel{Day: x[0], Amount: x[1], Lead: x[2]})
	}
	return parcels
}

func sameFlow(a, b impl.Flow) bool {
	return a.Stock == b.Stock && slices.Equal(a.Under, b.Under)
}

func totalOf(list []int) int {
	total := 0
	for _, x := range list {
		total += x
	}
	return total
}

// areFrom tells whether a list has at most so many numbers, all of them within bounds.
func areFrom(least, greatest, most int, list []int) bool {
	return len(list) <= most && !slices.ContainsFunc(list, func(x int) bool { return x < least || x > greatest })
}

// isSomeFlow tells by the document's words whether a Flow is valid.
func isSomeFlow(f impl.Flow) bool {
	return f.Stock >= -200 && f.Stock <= 200 && areFrom(0, 40, 4, f.Under)
}

// isSomeRule tells by the document's words whether a Rule is valid.
func isSomeRule(r impl.Rule) bool {
	if !areFrom(-200, 200, 2, []int{r.Low, r.High}) {
		return false
	}
	return r.Kind == 1 || r.Kind == 2 && r.Low <= r.High || r.Kind == 3 && r.High >= 1 && r.High <= 40
}

// toldOrder gives the order of a valid Rule by the position.
func toldOrder(r impl.Rule, position int) int {
	missing := r.Low - position
	switch {
	case r.Kind == 3 && missing > 0:
		return (missing + r.High - 1) / r.High * r.High
	case r.Kind == 1 && r.High > position, r.Kind == 2 && missing > 0:
		return r.High - position
	}
	return 0
}

// flowRun is what comes of a Flow on some days.
type flowRun struct {
	orders, stocks []int
	service        int
	last           impl.Flow
}

// runByQueue gives what comes of a Flow, if all days are possible. All orders stand in a queue, those
// under way first, and on each day one of them arrives; so what has arrived behind some days, and
// what is under way then, is told by their number alone.
func runByQueue(f impl.Flow, asked []int, order func(day, position int) int) (flowRun, bool) {
	run := flowRun{last: impl.Flow{Stock: f.Stock, Under: slices.Clone(f.Under)}}
	queue := slices.Clone(f.Under)
	lead, gone := len(f.Under), 0
	for day, pieces := range asked {
		next := order(day, f.Stock+totalOf(queue)-gone)
		if next < 0 || next > 40 || pieces < 0 || pieces > 20 {
			return flowRun{}, false
		}
		queue = append(queue, next)
		there := f.Stock + totalOf(queue[:day+1]) - gone
		for taken := range pieces {
			if there > taken {
				run.service++
			}
		}
		gone += pieces
		run.last = impl.Flow{Stock: f.Stock + totalOf(queue[:day+1]) - gone, Under: slices.Clone(queue[day+1 : day+1+lead])}
		if run.last.Stock < -200 || run.last.Stock > 200 {
			return flowRun{}, false
		}
		run.orders, run.stocks = append(run.orders, next), append(run.stocks, run.last.Stock)
	}
	return run, true
}

// runOfOrders gives what comes of a Flow with orders, if these are possible.
func runOfOrders(f impl.Flow, orders, asked []int) (flowRun, bool) {
	if !isSomeFlow(f) || len(orders) != len(asked) || len(asked) > 20 {
		return flowRun{}, false
	}
	return runByQueue(f, asked, func(day, position int) int { return orders[day] })
}

// runOfRule gives what comes of a Flow with the orders of a Rule, if these are possible.
func runOfRule(f impl.Flow, r impl.Rule, asked []int) (flowRun, bool) {
	if !isSomeFlow(f) || !isSomeRule(r) || len(asked) > 20 {
		return flowRun{}, false
	}
	return runByQueue(f, asked, func(day, position int) int { return toldOrder(r, position) })
}

// costOfStocks gives the cost of some Stocks, piece by piece.
func costOfStocks(stocks []int, hold, back int) int {
	cost := 0
	for _, stock := range stocks {
		for range stock {
			cost += hold
		}
		for range -stock {
			cost += back
		}
	}
	return cost
}

// needsBySteps gives what is asked for on each day and on so many days behind it.
func needsBySteps(asked []int, lead int) []int {
	var needs []int
	for day := range asked {
		if len(asked)-1-day >= lead {
			needs = append(needs, totalOf(asked[day:day+lead+1]))
		}
	}
	return needs
}

// bestUpToByAll gives the least number with the least cost, and this cost.
func bestUpToByAll(asked []int, lead, hold, back int) (int, int) {
	best, least := 0, math.MaxInt
	for up := range 201 {
		var stocks []int
		for _, need := range needsBySteps(asked, lead) {
			stocks = append(stocks, up-need)
		}
		if cost := costOfStocks(stocks, hold, back); cost < least {
			best, least = up, cost
		}
	}
	return best, least
}

// areSomeParcels tells by the document's words whether a list of Parcels is valid.
func areSomeParcels(parcels []impl.Parcel) bool {
	for i, p := range parcels {
		if p.Day < 1 || p.Day > 20 || p.Amount < 1 || p.Amount > 40 || p.Lead < 0 || p.Lead > 4 || i > 0 && p.Day < parcels[i-1].Day {
			return false
		}
	}
	return len(parcels) <= 12
}

// piecesUpTo gives how many pieces of Parcels arrive up to a day.
func piecesUpTo(parcels []impl.Parcel, day int) int {
	pieces := 0
	for _, p := range parcels {
		if p.Day+p.Lead <= day {
			pieces += p.Amount
		}
	}
	return pieces
}

// crossingByAll looks at all pairs of Parcels, in both orders.
func crossingByAll(parcels []impl.Parcel) [][2]int {
	var pairs [][2]int
	for i := range parcels {
		for j := i + 1; j < len(parcels); j++ {
			p, q := parcels[i], parcels[j]
			if p.Day > q.Day {
				p, q = q, p
			}
			if q.Day > p.Day && q.Day+q.Lead < p.Day+p.Lead {
				pairs = append(pairs, [2]int{i, j})
			}
		}
	}
	return pairs
}

// straightBySteps gives each Parcel, one by one, the first arrival that is left.
func straightBySteps(parcels []impl.Parcel) []impl.Parcel {
	left := make([]int, 30)
	for _, p := range parcels {
		left[p.Day+p.Lead]++
	}
	var straight []impl.Parcel
	day := 0
	for _, p := range parcels {
		for left[day] == 0 {
			day++
		}
		left[day]--
		straight = append(straight, impl.Parcel{Day: p.Day, Amount: p.Amount, Lead: day - p.Day})
	}
	return straight
}

// haveSameAmounts tells whether all Amounts of a list are the same.
func haveSameAmounts(parcels []impl.Parcel) bool {
	return !slices.ContainsFunc(parcels, func(p impl.Parcel) bool { return p.Amount != parcels[0].Amount })
}

// parcelStocksBySteps gives the Stock behind each day.
func parcelStocksBySteps(start int, parcels []impl.Parcel, asked []int) []int {
	var stocks []int
	for i := range asked {
		stocks = append(stocks, start+piecesUpTo(parcels, i+1)-totalOf(asked[:i+1]))
	}
	return stocks
}

// thrownFlow gives a Flow with a lead; a sixth of the Stocks are at a limit, or next to it.
func (d *dice) thrownFlow(lead int) impl.Flow {
	f := impl.Flow{Stock: d.throw(90) - 30}
	switch d.throw(5) {
	case 0:
		f.Stock = d.throw(400) - 200
	case 1:
		f.Stock = []int{-200, -199, 199, 200, 0}[d.throw(4)]
	}
	for range lead {
		f.Under = append(f.Under, d.thrownNumber(40))
	}
	return f
}

// thrownList gives n numbers in 0..most.
func (d *dice) thrownList(n, most int) []int {
	list := []int{}
	for range n {
		list = append(list, d.thrownNumber(most))
	}
	return list
}

// thrownRule gives a valid Rule that suits a position: many of its orders are possible.
func (d *dice) thrownRule(position int) impl.Rule {
	near := func(most int) int { return min(200, max(-200, position+d.throw(most)-most/4)) }
	switch d.throw(3) {
	case 0:
		low := near(24)
		return twoRule(low, min(200, low+d.throw(36)))
	case 1:
		return lotsRule(near(50), 1+d.throw(39))
	case 2:
		return impl.Rule{Kind: impl.KindUpTo, Low: d.throw(400) - 200, High: near(64)}
	}
	return upToRule(near(40))
}

// thrownParcels gives n Parcels; if their Amounts are to be the same, each of them is.
func (d *dice) thrownParcels(n, days int, same bool) []impl.Parcel {
	var at []int
	for range n {
		at = append(at, 1+d.throw(days-1))
	}
	slices.Sort(at)
	parcels := []impl.Parcel{}
	amount := 1 + d.thrownNumber(39)
	for _, day := range at {
		p := impl.Parcel{Day: day, Amount: amount, Lead: d.throw(4)}
		if !same {
			p.Amount = 1 + d.thrownNumber(39)
		}
		parcels = append(parcels, p)
	}
	return parcels
}

// manyFlows gives Flows of all leads, with numbers at the limits and others.
func manyFlows() []impl.Flow {
	found := []impl.Flow{{}, {Under: []int{}}}
	for lead := range 5 {
		for _, x := range []int{0, 1, 20, 39, 40} {
			for _, stock := range []int{-200, -199, -20, -1, 0, 1, 5, 20, 199, 200} {
				found = append(found, flowOf(stock, slices.Repeat([]int{x}, lead)...))
			}
		}
	}
	var d dice = 701
	for i := range 500 {
		found = append(found, d.thrownFlow(i%5))
	}
	return found
}

// farStocks are numbers on both sides of the Stocks.
var farStocks = []int{-201, 201, -202, 202, -400, 401, 1 << 32, 1<<32 + 1, -1 << 32, math.MinInt, math.MinInt + 1, math.MinInt + 200, math.MaxInt - 200, math.MaxInt}

// noFlows gives Flows of which one part is not valid.
func noFlows() []impl.Flow {
	var bad []impl.Flow
	for _, x := range farStocks {
		bad = append(bad, flowOf(x), flowOf(x, 0), flowOf(x, 40, 40, 40, 40), flowOf(x, 1, 2, 3))
	}
	for _, x := range beyond(40) {
		for lead := 1; lead <= 4; lead++ {
			for at := range lead {
				under := slices.Repeat([]int{3}, lead)
				under[at] = x
				bad = append(bad, flowOf(5, under...), flowOf(-200, under...))
			}
		}
	}
	for _, n := range []int{5, 6, 8, 5000} {
		bad = append(bad, flowOf(0, make([]int, n)...), flowOf(200, slices.Repeat([]int{40}, n)...), flowOf(-5, slices.Repeat([]int{1}, n)...))
	}
	return append(bad, flowOf(0, math.MaxInt, math.MaxInt, 2), flowOf(0, math.MinInt, math.MinInt), flowOf(3, -1, 1), flowOf(3, 41, -1), flowOf(201, -1), flowOf(-201, 41))
}

// noStockRules gives Rules of which one part is not valid.
func noStockRules() []impl.Rule {
	bad := []impl.Rule{{}, {High: 10}, {Kind: 4}, {Kind: 4, Low: 1, High: 2}, {Kind: -1, High: 10}, {Kind: 1 << 32, High: 1}, {Kind: 1<<32 + 1, High: 1}, {Kind: math.MaxInt, High: 1}, {Kind: math.MinInt, High: 1}, lotsRule(0, 0), lotsRule(5, 41), lotsRule(5, -1), lotsRule(5, -200), lotsRule(-200, 200), lotsRule(200, 0), lotsRule(-200, 0), lotsRule(5, -3)}
	for _, x := range farStocks {
		for kind := 1; kind <= 3; kind++ {
			bad = append(bad, impl.Rule{Kind: kind, Low: x, High: 1}, impl.Rule{Kind: kind, Low: 1, High: x}, impl.Rule{Kind: kind, Low: -200, High: x}, impl.Rule{Kind: kind, Low: x, High: 40}, impl.Rule{Kind: kind, Low: x, High: x})
		}
	}
	for _, low := range []int{-199, -1, 0, 1, 8, 200} {
		bad = append(bad, twoRule(low, low-1), twoRule(low, -200))
	}
	return bad
}

// noDays gives lists that are no list of what is asked for.
func noDays() [][]int {
	bad := [][]int{make([]int, 21), slices.Repeat([]int{20}, 21), slices.Repeat([]int{1}, 22), make([]int, 5000)}
	for _, x := range beyond(20) {
		bad = append(bad, []int{x}, []int{x, 1}, []int{1, x}, []int{1, x, 1}, []int{x, x}, append(make([]int, 19), x), append([]int{x}, make([]int, 19)...))
	}
	return append(bad, []int{math.MaxInt, math.MaxInt, 2}, []int{math.MinInt, math.MinInt}, []int{-1, 1}, []int{21, -1})
}

// noParcels gives lists of Parcels that are not valid.
func noParcels() [][]impl.Parcel {
	good := impl.Parcel{Day: 5, Amount: 3, Lead: 2}
	bad := [][]impl.Parcel{{{}}, make([]impl.Parcel, 12), slices.Repeat([]impl.Parcel{good}, 13), slices.Repeat([]impl.Parcel{{Day: 1, Amount: 1}}, 13), slices.Repeat([]impl.Parcel{good}, 5000), {{Day: 2, Amount: 1}, {Day: 1, Amount: 1}}, {{Day: 20, Amount: 1}, {Day: 1, Amount: 1, Lead: 4}}, {good, good, {Day: 4, Amount: 3, Lead: 3}}, {{Day: 6, Amount: 3, Lead: 1}, good, good}}
	spoil := func(p impl.Parcel) {
		bad = append(bad, []impl.Parcel{p}, []impl.Parcel{good, p}, []impl.Parcel{p, good}, []impl.Parcel{good, p, good}, []impl.Parcel{p, p})
	}
	for _, x := range append(beyond(20), 0) {
		spoil(impl.Parcel{Day: x, Amount: 3, Lead: 2})
	}
	for _, x := range append(beyond(40), 0) {
		spoil(impl.Parcel{Day: 5, Amount: x, Lead: 2})
	}
	for _, x := range beyond(4) {
		spoil(impl.Parcel{Day: 5, Amount: 3, Lead: x})
	}
	spoil(impl.Parcel{Day: 21, Amount: 3, Lead: -1})
	spoil(impl.Parcel{Day: math.MaxInt, Amount: 3, Lead: math.MaxInt})
	spoil(impl.Parcel{Day: math.MinInt, Amount: 3, Lead: math.MinInt})
	return bad
}

// manyParcels gives lists of all lengths, some with the same Amounts.
func manyParcels() [][]impl.Parcel {
	found := [][]impl.Parcel{nil, {}}
	var d dice = 709
	for i := range 900 {
		found = append(found, d.thrownParcels(i%13, []int{20, 4, 9, 1}[d.throw(3)], d.throw(2) > 0))
	}
	for _, p := range []impl.Parcel{{Day: 1, Amount: 1}, {Day: 20, Amount: 40, Lead: 4}, {Day: 1, Amount: 40, Lead: 4}, {Day: 20, Amount: 1}} {
		found = append(found, []impl.Parcel{p}, slices.Repeat([]impl.Parcel{p}, 2), slices.Repeat([]impl.Parcel{p}, 12))
	}
	return found
}

// smallParcels gives all lists of at most so many Parcels of the Days 1..4 with all Leads, and Amounts
// that are the same.
func smallParcels(most int) [][]impl.Parcel {
	var found [][]impl.Parcel
	var grow func(parcels []impl.Parcel, from int)
	grow = func(parcels []impl.Parcel, from int) {
		found = append(found, slices.Clone(parcels))
		if len(parcels) == most {
			return
		}
		for day := from; day <= 4; day++ {
			for lead := range 5 {
				grow(append(slices.Clip(parcels), impl.Parcel{Day: day, Amount: 3, Lead: lead}), day)
			}
		}
	}
	grow(nil, 1)
	return found
}

func checkFlow(t *testing.T, what string, got impl.Flow, ok bool, want impl.Flow, wantOK bool) {
	t.Helper()
	if !sameFlow(got, want) || ok != wantOK {
		t.Errorf("%s = %v, %t, want %v, %t", what, got, ok, want, wantOK)
	}
}

func checkParcels(t *testing.T, what string, got []impl.Parcel, ok bool, want []impl.Parcel, wantOK bool) {
	t.Helper()
	if !slices.Equal(got, want) || ok != wantOK {
		t.Errorf("%s = %v, %t, want %v, %t", what, got, ok, want, wantOK)
	}
}

// checkDay compares a day of a Flow.
func checkDay(t *testing.T, f impl.Flow, order, asked int) bool {
	t.Helper()
	want, wantOK := runOfOrders(f, []int{order}, []int{asked})
	got, ok := impl.DayOf(f, order, asked)
	checkFlow(t, fmt.Sprint("DayOf ", f, order, asked), got, ok, want.last, wantOK)
	return ok
}

// checkOrdersRun compares the days of a Flow with orders.
func checkOrdersRun(t *testing.T, f impl.Flow, orders, asked []int) bool {
	t.Helper()
	want, wantOK := runOfOrders(f, orders, asked)
	what := fmt.Sprint("RunOrders ", f, orders, asked)
	stocks, last, ok := impl.RunOrders(f, orders, asked)
	checkList(t, what, stocks, ok, want.stocks, wantOK)
	checkFlow(t, what, last, ok, want.last, wantOK)
	return ok
}

// checkRuleOrder compares the order of a Rule.
func checkRuleOrder(t *testing.T, f impl.Flow, r impl.Rule) bool {
	t.Helper()
	want, wantOK := 0, isSomeFlow(f) && isSomeRule(r)
	if wantOK {
		want = toldOrder(r, f.Stock+totalOf(f.Under))
	}
	if want > 40 {
		want, wantOK = 0, false
	}
	got, ok := impl.RuleOrder(f, r)
	checkNumber(t, fmt.Sprint("RuleOrder ", f, r), got, ok, want, wantOK)
	return ok
}

// checkRuleRun compares the days of a Flow with the orders of a Rule, and the service.
func checkRuleRun(t *testing.T, f impl.Flow, r impl.Rule, asked []int) bool {
	t.Helper()
	want, wantOK := runOfRule(f, r, asked)
	what := fmt.Sprint(f, r, asked)
	orders, stocks, ok := impl.RunRule(f, r, asked)
	checkList(t, "RunRule, orders, "+what, orders, ok, want.orders, wantOK)
	checkList(t, "RunRule, Stocks, "+what, stocks, ok, want.stocks, wantOK)
	all := 0
	if wantOK {
		all = totalOf(asked)
	}
	service, sum, fine := impl.ServiceOf(f, r, asked)
	checkNumber(t, "ServiceOf "+what, service, fine, want.service, wantOK)
	checkNumber(t, "ServiceOf, sum, "+what, sum, fine, all, wantOK)
	return ok
}

// checkBestUpTo compares the best number with all others, and its cost with that of Stocks.
func checkBestUpTo(t *testing.T, asked []int, lead, hold, back int) int {
	t.Helper()
	what := fmt.Sprint("BestUpTo ", asked, lead, hold, back)
	want, cost := bestUpToByAll(asked, lead, hold, back)
	best, least, ok := impl.BestUpTo(asked, lead, hold, back)
	checkNumber(t, what, best, ok, want, true)
	checkNumber(t, what+", cost", least, ok, cost, true)
	needs, _ := impl.LeadNeeds(asked, lead)
	for up := range 201 {
		stocks := slices.Clone(needs)
		for i := range stocks {
			stocks[i] = up - needs[i]
		}
		other, fine := impl.StockCost(stocks, hold, back)
		if !fine || other < least || other == least && up < best || up == best && other != least {
			t.Fatal("a better number, or another cost", what, up, other, best, least)
		}
	}
	return best
}

// checkAllOfParcels compares all that is told of Parcels.
func checkAllOfParcels(t *testing.T, start int, parcels []impl.Parcel, asked []int) {
	t.Helper()
	what := fmt.Sprint(parcels)
	arrivals := make([]int, 24)
	for i := range arrivals {
		arrivals[i] = piecesUpTo(parcels, i+1) - piecesUpTo(parcels, i)
	}
	got, ok := impl.ArrivalsOf(parcels)
	checkList(t, "ArrivalsOf "+what, got, ok, arrivals, true)
	pairs, ok := impl.CrossingPairs(parcels)
	checkPairs(t, "CrossingPairs "+what, pairs, ok, crossingByAll(parcels), true)
	want := []impl.Parcel{}
	if haveSameAmounts(parcels) {
		want = straightBySteps(parcels)
	}
	straight, ok := impl.StraightLeads(parcels)
	checkParcels(t, "StraightLeads "+what, straight, ok, want, haveSameAmounts(parcels))
	stocks, ok := impl.ParcelStocks(start, parcels, asked)
	checkList(t, fmt.Sprint("ParcelStocks ", start, what, asked), stocks, ok, parcelStocksBySteps(start, parcels, asked), true)
}

func TestLeadBounds(t *testing.T) {
	if impl.MaxLead != 4 || impl.MaxStock != 200 || impl.MaxDays != 20 || impl.MaxAsked != 20 || impl.MaxParcel != 40 || impl.MaxParcels != 12 {
		t.Error("bounds", impl.MaxLead, impl.MaxStock, impl.MaxDays, impl.MaxAsked, impl.MaxParcel, impl.MaxParcels)
	}
	if impl.KindUpTo != 1 || impl.KindTwo != 2 || impl.KindLots != 3 {
		t.Error("kinds", impl.KindUpTo, impl.KindTwo, impl.KindLots)
	}
}

func TestP11IsFlow(t *testing.T) {
	for _, f := range manyFlows() {
		if !impl.IsFlow(f) {
			t.Error("a Flow that is none", f)
		}
		position, ok := impl.PositionOf(f)
		checkNumber(t, fmt.Sprint("PositionOf ", f), position, ok, f.Stock+totalOf(f.Under), true)
	}
	for _, f := range noFlows() {
		if impl.IsFlow(f) {
			t.Error("no Flow", f)
		}
		position, ok := impl.PositionOf(f)
		checkNumber(t, fmt.Sprint("PositionOf ", f), position, ok, 0, false)
	}
}

func TestP11FlowsWithinTheirBounds(t *testing.T) {
	for x := -450; x <= 450; x++ {
		for lead := range 5 {
			if impl.IsFlow(flowOf(x, make([]int, lead)...)) != (x >= -200 && x <= 200) {
				t.Error("Stock", x, lead)
			}
			for at := range lead {
				under := slices.Repeat([]int{40}, lead)
				under[at] = x
				if impl.IsFlow(flowOf(200, under...)) != (x >= 0 && x <= 40) {
					t.Error("order under way", x, lead, at)
				}
			}
		}
	}
	for lead := range 30 {
		if impl.IsFlow(flowOf(0, make([]int, lead)...)) != (lead <= 4) || impl.IsFlow(flowOf(-200, slices.Repeat([]int{40}, lead)...)) != (lead <= 4) {
			t.Error("lead", lead)
		}
	}
}

func TestP11IsRule(t *testing.T) {
	numbers := append(slices.Clone(farStocks), -200, -199, -50, -41, -40, -2, -1, 0, 1, 2, 20, 39, 40, 41, 42, 199, 200)
	kinds, right := []int{-2, -1, 0, 1, 2, 3, 4, 5, 1<<32 + 1, 1<<32 + 3, math.MinInt, math.MaxInt}, map[int]int{}
	for _, kind := range kinds {
		for _, low := range numbers {
			for _, high := range numbers {
				r := impl.Rule{Kind: kind, Low: low, High: high}
				want := isSomeRule(r)
				if impl.IsRule(r) != want {
					t.Error("IsRule", r, want)
				}
				if want {
					right[kind]++
				}
			}
		}
	}
	if len(right) != 3 || right[1] != 17*17 || right[2] != 17*9 || right[3] != 17*5 {
		t.Error("not all kinds", right)
	}
	for _, r := range noStockRules() {
		if impl.IsRule(r) {
			t.Error("no Rule", r)
		}
	}
}

func TestP11DayExamples(t *testing.T) {
	full := flowOf(0, 1, 2, 3, 4)
	for _, x := range []struct {
		f            impl.Flow
		order, asked int
		want         impl.Flow
		ok           bool
	}{
		{flowOf(5, 2), 3, 4, flowOf(3, 3), true}, {flowOf(5, 2), 0, 0, flowOf(7, 0), true}, {flowOf(5, 2), 0, 20, flowOf(-13, 0), true}, {flowOf(5), 3, 4, flowOf(4), true}, {flowOf(5), 0, 6, flowOf(-1), true}, {impl.Flow{}, 40, 20, flowOf(20), true}, {impl.Flow{}, 0, 0, impl.Flow{}, true},
		{full, 5, 1, flowOf(0, 2, 3, 4, 5), true}, {flowOf(0, 2, 3, 4, 5), 6, 1, flowOf(1, 3, 4, 5, 6), true}, {flowOf(-200, 40, 0), 40, 20, flowOf(-180, 0, 40), true}, {flowOf(7, 0, 0, 0), 40, 0, flowOf(7, 0, 0, 40), true},
		{flowOf(200, 20), 5, 20, flowOf(200, 5), true}, {flowOf(200, 21), 5, 20, impl.Flow{}, false}, {flowOf(200, 40), 5, 20, impl.Flow{}, false}, {flowOf(180, 40), 5, 20, flowOf(200, 5), true}, {flowOf(181, 40), 5, 20, impl.Flow{}, false}, {flowOf(160), 40, 0, flowOf(200), true}, {flowOf(161), 40, 0, impl.Flow{}, false}, {flowOf(161), 40, 1, flowOf(200), true},
		{flowOf(-200), 20, 20, flowOf(-200), true}, {flowOf(-200), 19, 20, impl.Flow{}, false}, {flowOf(-200, 0), 40, 0, flowOf(-200, 40), true}, {flowOf(-200, 0), 40, 1, impl.Flow{}, false}, {flowOf(-199, 0), 40, 1, flowOf(-200, 40), true}, {flowOf(-180, 0), 40, 20, flowOf(-200, 40), true}, {flowOf(-181, 0), 40, 20, impl.Flow{}, false},
		{full, -1, 1, impl.Flow{}, false}, {full, 41, 1, impl.Flow{}, false}, {full, 40, 1, flowOf(0, 2, 3, 4, 40), true}, {full, 0, 1, flowOf(0, 2, 3, 4, 0), true}, {full, 5, -1, impl.Flow{}, false}, {full, 5, 21, impl.Flow{}, false}, {full, 5, 20, flowOf(-19, 2, 3, 4, 5), true}, {full, math.MaxInt, math.MaxInt, impl.Flow{}, false}, {full, math.MinInt, 0, impl.Flow{}, false}, {full, 0, math.MinInt, impl.Flow{}, false},
		{flowOf(5), -1, 1, impl.Flow{}, false}, {flowOf(5), 41, 1, impl.Flow{}, false}, {flowOf(5), 5 + 1<<32, 1, impl.Flow{}, false}, {flowOf(201), 0, 1, impl.Flow{}, false}, {flowOf(-201), 1, 0, impl.Flow{}, false}, {flowOf(5, 1, 1, 1, 1, 1), 1, 1, impl.Flow{}, false}, {flowOf(5, 41), 1, 20, impl.Flow{}, false}, {flowOf(5, 1, -1), 1, 1, impl.Flow{}, false},
	} {
		got, ok := impl.DayOf(x.f, x.order, x.asked)
		checkFlow(t, fmt.Sprint("DayOf ", x.f, x.order, x.asked), got, ok, x.want, x.ok)
	}
}

func TestP11RuleExamples(t *testing.T) {
	f := flowOf(5, 2)
	for _, x := range []struct {
		f    impl.Flow
		r    impl.Rule
		want int
		ok   bool
	}{
		{f, upToRule(10), 3, true}, {f, upToRule(7), 0, true}, {f, upToRule(8), 1, true}, {f, upToRule(6), 0, true}, {f, upToRule(-200), 0, true}, {f, upToRule(47), 40, true}, {f, upToRule(48), 0, false}, {f, upToRule(200), 0, false}, {f, impl.Rule{Kind: 1, Low: 200, High: 10}, 3, true}, {f, impl.Rule{Kind: 1, Low: -200, High: 10}, 3, true}, {f, impl.Rule{Kind: 1, Low: 201, High: 10}, 0, false},
		{f, twoRule(8, 12), 5, true}, {f, twoRule(7, 12), 0, true}, {f, twoRule(8, 8), 1, true}, {f, twoRule(7, 7), 0, true}, {f, twoRule(8, 47), 40, true}, {f, twoRule(8, 48), 0, false}, {f, twoRule(7, 48), 0, true}, {f, twoRule(12, 8), 0, false}, {f, twoRule(8, 7), 0, false}, {f, twoRule(-200, -200), 0, true}, {f, twoRule(200, 200), 0, false}, {f, twoRule(-200, 200), 0, true},
		{f, lotsRule(10, 4), 4, true}, {f, lotsRule(12, 4), 8, true}, {f, lotsRule(11, 4), 4, true}, {f, lotsRule(7, 4), 0, true}, {f, lotsRule(8, 4), 4, true}, {f, lotsRule(6, 4), 0, true}, {f, lotsRule(47, 40), 40, true}, {f, lotsRule(48, 40), 0, false}, {f, lotsRule(47, 1), 40, true}, {f, lotsRule(48, 1), 0, false}, {f, lotsRule(8, 40), 40, true}, {f, lotsRule(47, 39), 0, false}, {f, lotsRule(46, 39), 39, true}, {f, lotsRule(46, 13), 39, true}, {f, lotsRule(10, 0), 0, false}, {f, lotsRule(10, 41), 0, false}, {f, lotsRule(-200, 41), 0, false}, {f, lotsRule(200, 40), 0, false}, {f, lotsRule(-200, 1), 0, true},
		{flowOf(-200), upToRule(-160), 40, true}, {flowOf(-200), upToRule(-159), 0, false}, {flowOf(-200), lotsRule(-160, 20), 40, true}, {flowOf(-200), twoRule(-199, -160), 40, true}, {flowOf(-200, 40, 40, 40, 40), upToRule(0), 40, true}, {flowOf(-200, 40, 40, 40, 40), upToRule(1), 0, false}, {flowOf(200, 40, 40, 40, 40), upToRule(200), 0, true}, {flowOf(200, 40, 40, 40, 40), lotsRule(200, 1), 0, true}, {flowOf(-200), upToRule(200), 0, false}, {flowOf(-200), lotsRule(200, 1), 0, false}, {flowOf(-200), lotsRule(200, 40), 0, false},
		{f, impl.Rule{Kind: 0, High: 10}, 0, false}, {f, impl.Rule{Kind: 4, High: 10}, 0, false}, {flowOf(201), upToRule(10), 0, false}, {flowOf(0, 1, 1, 1, 1, 1), upToRule(10), 0, false}, {flowOf(9, 41), twoRule(1, 2), 0, false}, {impl.Flow{}, upToRule(0), 0, true}, {impl.Flow{}, upToRule(1), 1, true},
	} {
		got, ok := impl.RuleOrder(x.f, x.r)
		checkNumber(t, fmt.Sprint("RuleOrder ", x.f, x.r), got, ok, x.want, x.ok)
	}
}

func TestP11RunExamples(t *testing.T) {
	f := flowOf(5, 2)
	for _, x := range []struct {
		f             impl.Flow
		orders, asked []int
		stocks        []int
		last          impl.Flow
		ok            bool
	}{
		{f, []int{3, 4}, []int{4, 2}, []int{3, 4}, flowOf(4, 4), true}, {f, nil, nil, nil, f, true}, {f, []int{}, nil, nil, f, true}, {flowOf(0, 1, 2, 3, 4), nil, []int{}, nil, flowOf(0, 1, 2, 3, 4), true}, {impl.Flow{}, nil, nil, nil, impl.Flow{}, true}, {flowOf(-3), []int{0, 7, 1}, []int{1, 2, 3}, []int{-4, 1, -1}, flowOf(-1), true},
		{flowOf(0, 1, 2, 3, 4), []int{5, 6, 7, 8, 9}, []int{0, 1, 0, 9, 1}, []int{1, 2, 5, 0, 4}, flowOf(4, 6, 7, 8, 9), true}, {f, []int{3}, []int{4, 2}, nil, impl.Flow{}, false}, {f, []int{3, 4}, []int{4}, nil, impl.Flow{}, false}, {f, []int{3}, nil, nil, impl.Flow{}, false}, {f, nil, []int{4}, nil, impl.Flow{}, false},
		{flowOf(190, 0), []int{30, 0}, []int{20, 0}, []int{170, 200}, flowOf(200, 0), true}, {flowOf(190, 0), []int{31, 0}, []int{20, 0}, nil, impl.Flow{}, false}, {flowOf(190, 0), []int{31}, []int{20}, []int{170}, flowOf(170, 31), true}, {flowOf(190, 11), []int{0, 0}, []int{0, 20}, nil, impl.Flow{}, false}, {flowOf(-190), []int{0, 20}, []int{11, 11}, nil, impl.Flow{}, false}, {flowOf(-190), []int{0, 20}, []int{10, 20}, []int{-200, -200}, flowOf(-200), true},
		{f, []int{3, 41}, []int{4, 2}, nil, impl.Flow{}, false}, {f, []int{-1, 4}, []int{4, 2}, nil, impl.Flow{}, false}, {f, []int{3, 4}, []int{4, 21}, nil, impl.Flow{}, false}, {f, []int{3, 4}, []int{-1, 2}, nil, impl.Flow{}, false}, {flowOf(201), nil, nil, nil, impl.Flow{}, false}, {flowOf(0, 0, 0, 0, 0, 0), nil, nil, nil, impl.Flow{}, false}, {flowOf(0, 41), nil, nil, nil, impl.Flow{}, false},
		{flowOf(0), slices.Repeat([]int{20}, 20), slices.Repeat([]int{20}, 20), make([]int, 20), flowOf(0), true}, {flowOf(0), slices.Repeat([]int{20}, 21), slices.Repeat([]int{20}, 21), nil, impl.Flow{}, false}, {flowOf(0, 0), make([]int, 20), make([]int, 20), make([]int, 20), flowOf(0, 0), true}, {flowOf(0, 0), make([]int, 21), make([]int, 21), nil, impl.Flow{}, false}, {flowOf(0, 0), make([]int, 20), make([]int, 21), nil, impl.Flow{}, false}, {flowOf(0, 0), make([]int, 21), make([]int, 20), nil, impl.Flow{}, false},
	} {
		what := fmt.Sprint("RunOrders ", x.f, x.orders, x.asked)
		stocks, last, ok := impl.RunOrders(x.f, x.orders, x.asked)
		checkList(t, what, stocks, ok, x.stocks, x.ok)
		checkFlow(t, what, last, ok, x.last, x.ok)
	}
}

func TestP11ServiceExamples(t *testing.T) {
	f := flowOf(5, 2)
	for _, x := range []struct {
		f              impl.Flow
		r              impl.Rule
		asked          []int
		orders, stocks []int
		service, all   int
		ok             bool
	}{
		{f, upToRule(10), []int{4, 2}, []int{3, 4}, []int{3, 4}, 6, 6, true}, {f, upToRule(10), nil, nil, nil, 0, 0, true}, {f, upToRule(10), []int{}, nil, nil, 0, 0, true}, {f, upToRule(10), []int{7}, []int{3}, []int{0}, 7, 7, true}, {f, upToRule(10), []int{8}, []int{3}, []int{-1}, 7, 8, true}, {f, upToRule(10), []int{0, 0}, []int{3, 0}, []int{7, 10}, 0, 0, true},
		{f, upToRule(10), []int{20, 5}, []int{3, 20}, []int{-13, -15}, 7, 25, true}, {flowOf(-10, 4), upToRule(0), []int{3}, []int{6}, []int{-9}, 0, 3, true}, {flowOf(0), upToRule(5), []int{3, 9, 5}, []int{5, 3, 9}, []int{2, -4, 0}, 13, 17, true}, {flowOf(-3), twoRule(1, 5), []int{3, 2, 4}, []int{8, 0, 5}, []int{2, 0, 1}, 9, 9, true}, {flowOf(-3), twoRule(0, 5), []int{3, 2, 4}, []int{8, 0, 0}, []int{2, 0, -4}, 5, 9, true},
		{flowOf(1, 0), lotsRule(4, 3), []int{2, 2, 2}, []int{3, 3, 3}, []int{-1, 0, 1}, 5, 6, true}, {f, upToRule(48), nil, nil, nil, 0, 0, true}, {f, upToRule(48), []int{0}, nil, nil, 0, 0, false}, {f, upToRule(47), []int{20, 20}, []int{40, 20}, []int{-13, 7}, 27, 40, true}, {f, twoRule(0, 40), []int{7, 1, 0}, []int{0, 0, 0}, nil, 0, 0, false}, {f, twoRule(0, 39), []int{7, 1, 0}, []int{0, 0, 40}, []int{0, -1, -1}, 7, 8, true},
		{flowOf(200, 1), upToRule(0), []int{0}, nil, nil, 0, 0, false}, {flowOf(200, 1), upToRule(0), []int{1}, []int{0}, []int{200}, 1, 1, true}, {flowOf(-200, 0), upToRule(-200), []int{1}, nil, nil, 0, 0, false}, {flowOf(-200, 0), upToRule(-200), []int{0}, []int{0}, []int{-200}, 0, 0, true}, {f, upToRule(10), []int{21}, nil, nil, 0, 0, false}, {f, upToRule(10), []int{4, -1}, nil, nil, 0, 0, false}, {f, impl.Rule{}, nil, nil, nil, 0, 0, false}, {flowOf(201), upToRule(10), nil, nil, nil, 0, 0, false},
		{flowOf(0), upToRule(20), slices.Repeat([]int{20}, 20), slices.Repeat([]int{20}, 20), make([]int, 20), 400, 400, true}, {flowOf(0), upToRule(20), slices.Repeat([]int{20}, 21), nil, nil, 0, 0, false}, {flowOf(0), upToRule(0), make([]int, 20), make([]int, 20), make([]int, 20), 0, 0, true}, {flowOf(0), upToRule(0), make([]int, 21), nil, nil, 0, 0, false},
	} {
		if !x.ok {
			x.orders = nil
		}
		what := fmt.Sprint(x.f, x.r, x.asked)
		orders, stocks, ok := impl.RunRule(x.f, x.r, x.asked)
		checkList(t, "RunRule, orders, "+what, orders, ok, x.orders, x.ok)
		checkList(t, "RunRule, Stocks, "+what, stocks, ok, x.stocks, x.ok)
		service, all, ok := impl.ServiceOf(x.f, x.r, x.asked)
		checkNumber(t, "ServiceOf "+what, service, ok, x.service, x.ok)
		checkNumber(t, "ServiceOf, sum, "+what, all, ok, x.all, x.ok)
	}
}

func TestP11CostExamples(t *testing.T) {
	for _, x := range []struct {
		stocks     []int
		hold, back int
		want       int
		ok         bool
	}{
		{[]int{2, -1}, 1, 3, 5, true}, {nil, 9, 9, 0, true}, {[]int{}, 0, 0, 0, true}, {[]int{0}, 9, 9, 0, true}, {[]int{0, 0, 7}, 2, 9, 14, true}, {[]int{-7, 0, 0}, 2, 9, 63, true}, {[]int{200, -200}, 9, 9, 3600, true}, {[]int{200}, 0, 9, 0, true}, {[]int{-200}, 9, 0, 0, true}, {[]int{1, -1, 1, -1}, 4, 5, 18, true},
		{[]int{201}, 1, 3, 0, false}, {[]int{-201}, 1, 3, 0, false}, {[]int{0, 201}, 0, 0, 0, false}, {[]int{math.MaxInt}, 1, 3, 0, false}, {[]int{math.MinInt}, 1, 3, 0, false}, {[]int{2}, -1, 3, 0, false}, {[]int{2}, 10, 3, 0, false}, {[]int{2}, 1, -1, 0, false}, {[]int{2}, 1, 10, 0, false}, {nil, -1, 0, 0, false}, {nil, 0, -1, 0, false}, {nil, 10, 0, 0, false}, {nil, 0, 10, 0, false}, {[]int{2}, math.MaxInt, math.MinInt, 0, false},
		{slices.Repeat([]int{200}, 20), 9, 9, 36000, true}, {slices.Repeat([]int{-200}, 20), 9, 9, 36000, true}, {make([]int, 21), 9, 9, 0, false}, {make([]int, 20), 9, 9, 0, true},
	} {
		cost, ok := impl.StockCost(x.stocks, x.hold, x.back)
		checkNumber(t, fmt.Sprint("StockCost ", x.stocks, x.hold, x.back), cost, ok, x.want, x.ok)
	}
}

func TestP11LeadNeedsExamples(t *testing.T) {
	full := slices.Repeat([]int{20}, 20)
	for _, x := range []struct {
		asked []int
		lead  int
		want  []int
		ok    bool
	}{
		{[]int{4, 2, 3}, 1, []int{6, 5}, true}, {[]int{4, 2, 3}, 0, []int{4, 2, 3}, true}, {[]int{4, 2, 3}, 2, []int{9}, true}, {[]int{4, 2, 3}, 3, nil, true}, {[]int{4, 2, 3}, 4, nil, true}, {[]int{4, 2, 3}, 5, nil, false}, {[]int{4, 2, 3}, -1, nil, false}, {nil, 0, nil, true}, {nil, 4, nil, true}, {nil, 5, nil, false}, {nil, -1, nil, false}, {[]int{}, 1, nil, true}, {[]int{7}, 0, []int{7}, true}, {[]int{7}, 1, nil, true},
		{[]int{1, 2, 3, 4, 5}, 4, []int{15}, true}, {[]int{1, 2, 3, 4, 5, 6}, 4, []int{15, 20}, true}, {full, 4, slices.Repeat([]int{100}, 16), true}, {full, 0, full, true}, {append(full, 0), 4, nil, false}, {append(full, 0), 0, nil, false}, {[]int{21}, 0, nil, false}, {[]int{4, -1}, 0, nil, false}, {[]int{-1}, 4, nil, false}, {[]int{4, 2}, math.MaxInt, nil, false}, {[]int{4, 2}, math.MinInt, nil, false}, {[]int{math.MaxInt, 2}, 1, nil, false},
	} {
		needs, ok := impl.LeadNeeds(x.asked, x.lead)
		checkList(t, fmt.Sprint("LeadNeeds ", x.asked, x.lead), needs, ok, x.want, x.ok)
	}
}

func TestP11BestUpToExamples(t *testing.T) {
	asked, full := []int{4, 2, 3}, slices.Repeat([]int{20}, 20)
	for _, x := range []struct {
		asked            []int
		lead, hold, back int
		best, least      int
		ok               bool
	}{
		{asked, 1, 1, 3, 6, 1, true}, {asked, 1, 3, 1, 5, 1, true}, {asked, 1, 1, 1, 5, 1, true}, {asked, 0, 1, 1, 3, 2, true}, {asked, 0, 1, 3, 4, 3, true}, {asked, 0, 3, 1, 2, 3, true}, {asked, 0, 1, 2, 3, 3, true}, {asked, 2, 9, 9, 9, 0, true}, {asked, 3, 9, 9, 0, 0, true}, {asked, 1, 0, 0, 0, 0, true}, {asked, 1, 0, 5, 6, 0, true}, {asked, 1, 5, 0, 0, 0, true}, {asked, 1, 0, 9, 6, 0, true}, {asked, 1, 9, 0, 0, 0, true},
		{nil, 0, 9, 9, 0, 0, true}, {nil, 4, 1, 1, 0, 0, true}, {[]int{0}, 0, 9, 9, 0, 0, true}, {full, 4, 1, 1, 100, 0, true}, {full, 4, 9, 9, 100, 0, true}, {full, 4, 9, 0, 0, 0, true}, {[]int{0, 20}, 0, 1, 1, 0, 20, true}, {[]int{0, 20}, 0, 1, 2, 20, 20, true}, {[]int{0, 0, 20}, 0, 4, 9, 20, 160, true}, {[]int{0, 0, 20}, 0, 5, 9, 0, 180, true}, {[]int{0, 20, 20}, 0, 9, 9, 20, 180, true},
		{asked, -1, 1, 3, 0, 0, false}, {asked, 5, 1, 3, 0, 0, false}, {asked, 1, -1, 3, 0, 0, false}, {asked, 1, 10, 3, 0, 0, false}, {asked, 1, 1, -1, 0, 0, false}, {asked, 1, 1, 10, 0, 0, false}, {nil, 0, -1, 0, 0, 0, false}, {nil, 0, 0, 10, 0, 0, false}, {nil, 0, 10, 0, 0, 0, false}, {nil, 5, 0, 0, 0, 0, false}, {nil, 0, 0, -1, 0, 0, false}, {append(full, 0), 0, 1, 1, 0, 0, false}, {[]int{21}, 0, 1, 1, 0, 0, false}, {[]int{-1}, 3, 1, 1, 0, 0, false}, {asked, math.MinInt, math.MaxInt, math.MinInt, 0, 0, false},
	} {
		what := fmt.Sprint("BestUpTo ", x.asked, x.lead, x.hold, x.back)
		best, least, ok := impl.BestUpTo(x.asked, x.lead, x.hold, x.back)
		checkNumber(t, what, best, ok, x.best, x.ok)
		checkNumber(t, what+", cost", least, ok, x.least, x.ok)
	}
}

func TestP11ParcelExamples(t *testing.T) {
	for _, x := range []struct {
		parcels, straight [][3]int
		pairs             [][2]int
		arrivals          map[int]int // pieces by day
	}{
		{nil, nil, nil, nil}, {[][3]int{}, nil, nil, nil}, {[][3]int{{1, 5, 3}, {2, 5, 0}}, [][3]int{{1, 5, 1}, {2, 5, 2}}, [][2]int{{0, 1}}, map[int]int{2: 5, 4: 5}}, {[][3]int{{1, 5, 3}, {2, 5, 2}}, [][3]int{{1, 5, 3}, {2, 5, 2}}, nil, map[int]int{4: 10}}, {[][3]int{{1, 5, 3}, {2, 5, 1}}, [][3]int{{1, 5, 2}, {2, 5, 2}}, [][2]int{{0, 1}}, map[int]int{3: 5, 4: 5}},
		{[][3]int{{3, 7, 4}, {3, 7, 0}}, [][3]int{{3, 7, 0}, {3, 7, 4}}, nil, map[int]int{3: 7, 7: 7}}, {[][3]int{{3, 7, 0}, {3, 7, 4}}, [][3]int{{3, 7, 0}, {3, 7, 4}}, nil, map[int]int{3: 7, 7: 7}}, {[][3]int{{20, 40, 4}}, [][3]int{{20, 40, 4}}, nil, map[int]int{24: 40}}, {[][3]int{{1, 1, 0}}, [][3]int{{1, 1, 0}}, nil, map[int]int{1: 1}},
		{[][3]int{{1, 2, 4}, {2, 2, 2}, {2, 2, 1}, {4, 2, 0}}, [][3]int{{1, 2, 2}, {2, 2, 2}, {2, 2, 2}, {4, 2, 1}}, [][2]int{{0, 1}, {0, 2}, {0, 3}}, map[int]int{3: 2, 4: 4, 5: 2}}, {[][3]int{{1, 2, 4}, {1, 2, 4}, {2, 2, 0}, {3, 2, 0}}, [][3]int{{1, 2, 1}, {1, 2, 2}, {2, 2, 3}, {3, 2, 2}}, [][2]int{{0, 2}, {0, 3}, {1, 2}, {1, 3}}, map[int]int{2: 2, 3: 2, 5: 4}},
		{[][3]int{{1, 2, 4}, {2, 3, 0}}, nil, [][2]int{{0, 1}}, map[int]int{2: 3, 5: 2}}, {[][3]int{{1, 2, 0}, {1, 3, 0}}, nil, nil, map[int]int{1: 5}}, {slices.Repeat([][3]int{{1, 40, 0}}, 12), slices.Repeat([][3]int{{1, 40, 0}}, 12), nil, map[int]int{1: 480}},
	} {
		parcels := parcelsOf(x.parcels)
		what := fmt.Sprint(parcels)
		arrivals := make([]int, 24)
		for day, pieces := range x.arrivals {
			arrivals[day-1] = pieces
		}
		got, ok := impl.ArrivalsOf(parcels)
		checkList(t, "ArrivalsOf "+what, got, ok, arrivals, true)
		pairs, ok := impl.CrossingPairs(parcels)
		checkPairs(t, "CrossingPairs "+what, pairs, ok, x.pairs, true)
		straight, ok := impl.StraightLeads(parcels)
		checkParcels(t, "StraightLeads "+what, straight, ok, parcelsOf(x.straight), len(x.parcels) == len(x.straight))
	}
}

func TestP11ParcelStocksExamples(t *testing.T) {
	crossed := [][3]int{{1, 5, 3}, {2, 5, 0}}
	heavy := slices.Repeat([][3]int{{1, 40, 0}}, 12)
	for _, x := range []struct {
		start   int
		parcels [][3]int
		asked   []int
		want    []int
		ok      bool
	}{
		{3, crossed, []int{1, 1, 1, 1}, []int{2, 6, 5, 9}, true}, {3, crossed, nil, nil, true}, {3, crossed, []int{20}, []int{-17}, true}, {3, nil, []int{1, 0, 4}, []int{2, 2, -2}, true}, {0, nil, nil, nil, true}, {200, crossed, []int{0, 0, 0, 0, 0}, []int{200, 205, 205, 210, 210}, true}, {-200, crossed, []int{20, 20, 20}, []int{-220, -235, -255}, true}, {200, heavy, []int{0, 20}, []int{680, 660}, true}, {-200, nil, slices.Repeat([]int{20}, 20), rise(-220, -20, 20), true},
		{201, crossed, []int{1}, nil, false}, {-201, crossed, []int{1}, nil, false}, {201, nil, nil, nil, false}, {-201, nil, nil, nil, false}, {math.MaxInt, heavy, []int{1}, nil, false}, {math.MinInt, heavy, []int{1}, nil, false}, {3, crossed, []int{21}, nil, false}, {3, crossed, []int{1, -1}, nil, false}, {3, crossed, make([]int, 21), nil, false}, {3, [][3]int{{20, 6, 0}}, make([]int, 20), append(slices.Repeat([]int{3}, 19), 9), true}, {3, [][3]int{{20, 6, 1}}, make([]int, 20), slices.Repeat([]int{3}, 20), true},
		{3, [][3]int{{2, 5, 0}, {1, 5, 3}}, []int{1}, nil, false}, {3, append(heavy, heavy[0]), []int{1}, nil, false}, {3, [][3]int{{}}, []int{1}, nil, false},
	} {
		stocks, ok := impl.ParcelStocks(x.start, parcelsOf(x.parcels), x.asked)
		checkList(t, fmt.Sprint("ParcelStocks ", x.start, x.parcels, x.asked), stocks, ok, x.want, x.ok)
	}
}

func TestP11DaysOfManyFlows(t *testing.T) {
	possible, not := 0, 0
	for _, f := range manyFlows() {
		for _, order := range append(beyond(40), 0, 1, 2, 20, 39, 40) {
			for _, asked := range append(beyond(20), 0, 1, 10, 19, 20) {
				if checkDay(t, f, order, asked) {
					possible++
				} else if order >= 0 && order <= 40 && asked >= 0 && asked <= 20 {
					not++
				}
			}
		}
	}
	if possible < 10000 || not < 1000 {
		t.Error("too few possible days, or others", possible, not)
	}
}

func TestP11DaysBehindWhichTheStockIsAtALimit(t *testing.T) {
	for _, limit := range []int{-200, 200} {
		for arrives := range 41 {
			for asked := range 21 {
				for by := -2; by <= 2; by++ {
					stock := limit + by - arrives + asked
					if stock < -200 || stock > 200 {
						continue
					}
					for lead := range 5 {
						f := flowOf(stock, append([]int{arrives}, 0, 40, 7)[:max(1, lead)]...)
						order := 9
						if lead == 0 {
							f, order = flowOf(stock), arrives
						}
						if ok := checkDay(t, f, order, asked); ok != (limit+by >= -200 && limit+by <= 200) {
							t.Fatal("possible, or not", f, order, asked, ok)
						}
					}
				}
			}
		}
	}
}

func TestP11ADayKeepsThePositionButForItsOrderAndWhatIsAskedFor(t *testing.T) {
	var d dice = 719
	possible := 0
	for _, f := range manyFlows() {
		before, _ := impl.PositionOf(f)
		for range 40 {
			order, asked := d.thrownNumber(40), d.thrownNumber(20)
			behind, ok := impl.DayOf(f, order, asked)
			if !ok {
				continue
			}
			position, ok := impl.PositionOf(behind)
			checkNumber(t, fmt.Sprint("PositionOf ", f, order, asked), position, ok, before+order-asked, true)
			if len(behind.Under) != len(f.Under) || !impl.IsFlow(behind) {
				t.Fatal("another lead", f, behind)
			}
			possible++
		}
	}
	if possible < 10000 {
		t.Error("too few possible days", possible)
	}
}

func TestP11SmallRuns(t *testing.T) {
	for _, under := range listsFrom([]int{0, 1, 40}, 2) {
		for _, stock := range []int{-200, 0, 1, 200} {
			for _, orders := range listsFrom([]int{0, 3, 40}, 3) {
				for _, asked := range listsFrom([]int{0, 2, 20}, 3) {
					if len(orders) == len(asked) || len(orders) == 1 {
						checkOrdersRun(t, flowOf(stock, under...), orders, asked)
					}
				}
			}
		}
	}
}

func TestP11RunOrders(t *testing.T) {
	var d dice = 727
	lengths := map[[2]int]int{}
	not := 0
	for i := range 12000 {
		f, n := d.thrownFlow(i%5), i/5%21
		orders, asked := d.thrownList(n, 20+20*d.throw(1)), d.thrownList(n, 20)
		if checkOrdersRun(t, f, orders, asked) {
			lengths[[2]int{i % 5, n}]++
		} else {
			not++
		}
	}
	if len(lengths) != 5*21 || not < 1000 {
		t.Error("not all leads and days, or too few that are not possible", lengths, not)
	}
}

func TestP11RunOrdersIsOneDayBehindTheOther(t *testing.T) {
	var d dice = 733
	for i := range 3000 {
		f, n := d.thrownFlow(i%5), i/5%21
		orders, asked := d.thrownList(n, 30), d.thrownList(n, 20)
		stocks, last, ok := impl.RunOrders(f, orders, asked)
		now, possible := f, true
		for day := 0; day < n && possible; day++ {
			now, possible = impl.DayOf(now, orders[day], asked[day])
			if ok && stocks[day] != now.Stock {
				t.Fatal("another Stock", f, orders, asked, stocks, now)
			}
		}
		if possible != ok || !sameFlow(now, last) {
			t.Fatal("another Flow", f, orders, asked, last, now)
		}
		for at := range n + 1 {
			_, first, one := impl.RunOrders(f, orders[:at], asked[:at])
			rest, behind, two := impl.RunOrders(first, orders[at:], asked[at:])
			if ok && (!one || !two || !sameFlow(behind, last) || !slices.Equal(rest, stocks[at:])) {
				t.Fatal("another run in two parts", f, orders, asked, at)
			}
		}
	}
}

func TestP11ListsOfOtherNumbersOfDays(t *testing.T) {
	for _, f := range []impl.Flow{{}, flowOf(5, 2), flowOf(-9, 1, 2, 3, 4)} {
		for m := range 24 {
			for n := range 24 {
				orders, asked := slices.Repeat([]int{3}, m), slices.Repeat([]int{3}, n)
				stocks, last, ok := impl.RunOrders(f, orders, asked)
				if ok != (m == n && n <= 20) || ok && len(stocks) != n || !ok && (len(stocks) > 0 || !sameFlow(last, impl.Flow{})) {
					t.Error("RunOrders", f, m, n, stocks, last, ok)
				}
			}
		}
	}
}

func TestP11TheStockAtTheEndOfALeadIsThePositionLessWhatIsAskedFor(t *testing.T) {
	var d dice = 739
	leads := map[int]int{}
	for i := range 6000 {
		lead, n := i%5, i/5%21
		f, orders, asked := d.thrownFlow(lead), d.thrownList(n, 22), d.thrownList(n, 20)
		stocks, _, ok := impl.RunOrders(f, orders, asked)
		needs, fine := impl.LeadNeeds(asked, lead)
		if !fine || len(needs) != max(0, n-lead) {
			t.Fatal("LeadNeeds", asked, lead, needs)
		}
		if !ok {
			continue
		}
		for day, need := range needs {
			_, before, _ := impl.RunOrders(f, orders[:day], asked[:day])
			position, _ := impl.PositionOf(before)
			want := position + orders[day] - need
			if stocks[day+lead] != want {
				t.Fatal("another Stock at the end of a lead", f, orders, asked, day, stocks, want)
			}
			other := slices.Clone(orders[:day+lead+1])
			copy(other[day+1:], d.thrownList(lead, 40))
			end, last, ok := impl.RunOrders(f, other, asked[:day+lead+1])
			if !ok || end[day+lead] != want || last.Stock != want {
				t.Fatal("the orders between count", f, other, asked, day, end, want)
			}
			leads[lead]++
		}
	}
	for lead := range 5 {
		if leads[lead] < 1000 {
			t.Error("too few ends of leads", leads)
		}
	}
}

func TestP11OrdersOfAllRules(t *testing.T) {
	var d dice = 743
	possible, not := map[int]int{}, map[int]int{}
	for i, f := range manyFlows() {
		for range 30 {
			r := d.thrownRule(f.Stock + totalOf(f.Under))
			if checkRuleOrder(t, f, r) {
				possible[r.Kind]++
			} else {
				not[r.Kind]++
			}
		}
		bad := noStockRules()
		checkRuleOrder(t, f, bad[i%len(bad)])
	}
	for kind := 1; kind <= 3; kind++ {
		if possible[kind] < 1000 || not[kind] < 30 {
			t.Error("too few orders, or too few that are not possible", possible, not)
		}
	}
}

func TestP11RulesByAllPositions(t *testing.T) {
	var rules []impl.Rule
	for _, x := range []int{-200, -3, 0, 1, 7, 40, 200} {
		rules = append(rules, upToRule(x), lotsRule(x, 1), lotsRule(x, 2), lotsRule(x, 7), lotsRule(x, 39), lotsRule(x, 40))
		for _, more := range []int{0, 1, 9, 39, 40, 41} {
			if x+more <= 200 {
				rules = append(rules, twoRule(x, x+more))
			}
		}
	}
	for _, r := range rules {
		for position := -200; position <= 360; position++ {
			f := flowOf(position)
			if position > 0 {
				f = flowOf(max(position-160, -position%50), slices.Repeat([]int{0}, 4)...)
				for at, left := 0, position-f.Stock; left > 0; at++ {
					f.Under[at] = min(left, 40)
					left -= f.Under[at]
				}
			}
			if now, ok := impl.PositionOf(f); !ok || now != position {
				t.Fatal("another position", f, now, position)
			}
			checkRuleOrder(t, f, r)
		}
	}
}

func TestP11RunRule(t *testing.T) {
	var d dice = 751
	lengths, kinds, not := map[[2]int]int{}, map[int]int{}, 0
	for i := range 20000 {
		f, n := d.thrownFlow(i%5), i/5%21
		r := d.thrownRule(f.Stock + totalOf(f.Under))
		if checkRuleRun(t, f, r, d.thrownList(n, 4+4*d.throw(4))) {
			lengths[[2]int{i % 5, n}]++
			kinds[r.Kind]++
		} else {
			not++
		}
	}
	if len(lengths) != 5*21 || kinds[1] < 1000 || kinds[2] < 1000 || kinds[3] < 1000 || not < 1000 {
		t.Error("not all leads, days and kinds, or too few that are not possible", lengths, kinds, not)
	}
}

func TestP11RunRuleHasTheOrdersOfTheRule(t *testing.T) {
	var d dice = 757
	found := map[int]int{}
	for i := range 4000 {
		f, n := d.thrownFlow(i%5), i/5%21
		r, asked := d.thrownRule(f.Stock+totalOf(f.Under)), d.thrownList(n, 20)
		orders, stocks, ok := impl.RunRule(f, r, asked)
		if !ok {
			continue
		}
		same, _, fine := impl.RunOrders(f, orders, asked)
		if !fine || !slices.Equal(same, stocks) || len(orders) != n {
			t.Fatal("other Stocks", f, r, asked, orders, stocks, same)
		}
		for day := range n {
			_, before, _ := impl.RunOrders(f, orders[:day], asked[:day])
			order, fine := impl.RuleOrder(before, r)
			checkNumber(t, fmt.Sprint("RuleOrder ", f, r, asked, day), order, fine, orders[day], true)
			found[r.Kind]++
		}
	}
	if found[1] < 1000 || found[2] < 1000 || found[3] < 1000 {
		t.Error("too few orders", found)
	}
}

func TestP11RunRuleFailsAsSoonAsADayIsNotPossible(t *testing.T) {
	var d dice = 761
	by := map[string]int{}
	for i := range 6000 {
		f := d.thrownFlow(i % 5)
		r, asked := d.thrownRule(f.Stock+totalOf(f.Under)), d.thrownList(20, 20)
		now, possible := f, true
		for day := range 21 {
			_, _, ok := impl.RunRule(f, r, asked[:day])
			if ok != possible {
				t.Fatal("RunRule", f, r, asked, day, ok)
			}
			if !ok || day == 20 {
				continue
			}
			order, told := impl.RuleOrder(now, r)
			now, possible = impl.DayOf(now, order, asked[day])
			switch {
			case !told:
				possible = false
				by["order"]++
			case !possible:
				by["day"]++
			}
		}
	}
	if by["order"] < 300 || by["day"] < 300 {
		t.Error("too few orders or days that are not possible", by)
	}
}

func TestP11WithKindUpToTheOrdersAreWhatWasAskedFor(t *testing.T) {
	var d dice = 769
	found, waiting := 0, 0
	for i := range 5000 {
		f, n := d.thrownFlow(i%5), i/5%21
		position := f.Stock + totalOf(f.Under)
		r := impl.Rule{Kind: impl.KindUpTo, Low: d.throw(400) - 200, High: min(200, max(-200, position+d.throw(70)-30))}
		asked := d.thrownList(n, 20)
		orders, _, ok := impl.RunRule(f, r, asked)
		if !ok {
			continue
		}
		first := slices.IndexFunc(orders, func(order int) bool { return order > 0 })
		for day := first + 1; first >= 0 && day < n; day++ {
			checkNumber(t, fmt.Sprint("order ", f, r, asked, day), orders[day], true, asked[day-1], true)
			found++
		}
		if first > 1 {
			waiting++
		}
	}
	if found < 10000 || waiting < 50 {
		t.Error("too few orders, or too few that come later", found, waiting)
	}
}

func TestP11ServiceAddsUpWhatCouldBeTaken(t *testing.T) {
	var d dice = 773
	all, some, none := 0, 0, 0
	for i := range 5000 {
		f, n := d.thrownFlow(i%5), i/5%21
		r, asked := d.thrownRule(f.Stock+totalOf(f.Under)), d.thrownList(n, 20)
		_, stocks, ok := impl.RunRule(f, r, asked)
		service, sum, fine := impl.ServiceOf(f, r, asked)
		if ok != fine {
			t.Fatal("ServiceOf", f, r, asked, ok, fine)
		}
		if !ok {
			continue
		}
		missing := 0
		for day, pieces := range asked {
			missing += min(pieces, max(0, -stocks[day]))
		}
		if sum != totalOf(asked) || service != sum-missing {
			t.Fatal("another service", f, r, asked, stocks, service, sum)
		}
		switch {
		case missing == 0:
			all++
		case service == 0:
			none++
		default:
			some++
		}
	}
	if all < 300 || some < 300 || none < 100 {
		t.Error("too few kinds of service", all, some, none)
	}
}

func TestP11StockCost(t *testing.T) {
	var d dice = 787
	for i := range 3000 {
		var stocks []int
		for range i % 21 {
			stocks = append(stocks, d.thrownNumber(400)-200)
		}
		hold, back := d.thrownNumber(9), d.thrownNumber(9)
		cost, ok := impl.StockCost(stocks, hold, back)
		checkNumber(t, fmt.Sprint("StockCost ", stocks, hold, back), cost, ok, costOfStocks(stocks, hold, back), true)
	}
	for x := -450; x <= 450; x++ {
		want := 0
		if ok := x >= -200 && x <= 200; ok {
			want = costOfStocks([]int{x}, 2, 3)
		}
		for _, stocks := range [][]int{{x}, {x, 0}, {0, 0, x}} {
			cost, ok := impl.StockCost(stocks, 2, 3)
			checkNumber(t, fmt.Sprint("StockCost ", stocks), cost, ok, want, x >= -200 && x <= 200)
		}
	}
}

func TestP11StockCostWithinItsBounds(t *testing.T) {
	for n := range 30 {
		cost, ok := impl.StockCost(slices.Repeat([]int{n - 9}, n), 0, 0)
		checkNumber(t, fmt.Sprint("StockCost of ", n), cost, ok, 0, n <= 20)
	}
	for x := -30; x <= 30; x++ {
		for _, stocks := range [][]int{nil, {0}, {5}, {-5}} {
			hold, one := impl.StockCost(stocks, x, 0)
			back, two := impl.StockCost(stocks, 0, x)
			want, owed, is := 0, 0, x >= 0 && x <= 9
			if is {
				want, owed = costOfStocks(stocks, x, 0), costOfStocks(stocks, 0, x)
			}
			checkNumber(t, fmt.Sprint("StockCost, hold ", stocks, x), hold, one, want, is)
			checkNumber(t, fmt.Sprint("StockCost, back ", stocks, x), back, two, owed, is)
		}
	}
	for _, x := range beyond(9) {
		for _, y := range append(beyond(9), 0, 5, 9) {
			cost, ok := impl.StockCost([]int{1, -1}, x, y)
			checkNumber(t, fmt.Sprint("StockCost ", x, y), cost, ok, 0, false)
			cost, ok = impl.StockCost([]int{1, -1}, y, x)
			checkNumber(t, fmt.Sprint("StockCost ", y, x), cost, ok, 0, false)
			best, least, ok := impl.BestUpTo([]int{1, 2}, 1, x, y)
			checkAllFail(t, []lotCall{{"BestUpTo", []any{best, least}, ok}})
			best, least, ok = impl.BestUpTo([]int{1, 2}, 1, y, x)
			checkAllFail(t, []lotCall{{"BestUpTo", []any{best, least}, ok}})
		}
	}
}

func TestP11LeadNeeds(t *testing.T) {
	var d dice = 797
	for n := range 21 {
		for _, lead := range append(beyond(4), 0, 1, 2, 3, 4) {
			for range 8 {
				asked := d.thrownList(n, 20)
				var want []int
				is := lead >= 0 && lead <= 4
				if is {
					want = needsBySteps(asked, lead)
				}
				needs, ok := impl.LeadNeeds(asked, lead)
				checkList(t, fmt.Sprint("LeadNeeds ", asked, lead), needs, ok, want, is)
			}
		}
	}
}

func TestP11ListsThatTellNoDays(t *testing.T) {
	for _, asked := range noDays() {
		for lead := -1; lead <= 5; lead++ {
			needs, one := impl.LeadNeeds(asked, lead)
			best, least, two := impl.BestUpTo(asked, lead, 1, 3)
			checkAllFail(t, []lotCall{{"LeadNeeds", []any{needs}, one}, {"BestUpTo", []any{best, least}, two}})
		}
		for _, f := range []impl.Flow{{}, flowOf(5, 2), flowOf(100, 40, 40, 40, 40), flowOf(-200, 40)} {
			orders := slices.Repeat([]int{3}, len(asked))
			stocks, last, one := impl.RunOrders(f, orders, asked)
			told, others, two := impl.RunRule(f, twoRule(-200, -200), asked)
			service, sum, three := impl.ServiceOf(f, twoRule(-200, -200), asked)
			checkAllFail(t, []lotCall{{"RunOrders", []any{stocks, last}, one}, {"RunRule", []any{told, others}, two}, {"ServiceOf", []any{service, sum}, three}})
		}
		stocks, ok := impl.ParcelStocks(5, []impl.Parcel{{Day: 1, Amount: 3, Lead: 1}}, asked)
		checkAllFail(t, []lotCall{{"ParcelStocks", []any{stocks}, ok}})
	}
}

func TestP11BestUpToIsTheLeastOfAllNumbers(t *testing.T) {
	var d dice = 809
	best := map[int]int{}
	for i := range 2500 {
		asked, lead := d.thrownList(i%21, 20), i/21%5
		best[checkBestUpTo(t, asked, lead, d.thrownNumber(9), d.thrownNumber(9))]++
	}
	if len(best) < 50 {
		t.Error("too few numbers", best)
	}
	for _, asked := range listsFrom([]int{0, 1, 3, 20}, 3) {
		for lead := range 5 {
			for _, rates := range [][2]int{{0, 0}, {1, 1}, {0, 1}, {1, 0}, {1, 2}, {2, 1}, {9, 9}} {
				checkBestUpTo(t, asked, lead, rates[0], rates[1])
			}
		}
	}
}

func TestP11SmallParcels(t *testing.T) {
	asked := []int{1, 0, 4, 2, 2, 9, 0, 3, 1}
	crossed := 0
	for i, parcels := range smallParcels(4) {
		checkAllOfParcels(t, i%401-200, parcels, asked[:i%10])
		if pairs, _ := impl.CrossingPairs(parcels); len(pairs) > 0 {
			crossed++
		}
	}
	if crossed < 5000 {
		t.Error("too few that cross", crossed)
	}
}

func TestP11ManyParcels(t *testing.T) {
	var d dice = 811
	same := 0
	for i, parcels := range manyParcels() {
		checkAllOfParcels(t, []int{-200, 200, 0, d.throw(400) - 200}[i%4], parcels, d.thrownList(i%21, 20))
		if haveSameAmounts(parcels) {
			same++
		}
	}
	if same < 300 || same > 800 {
		t.Error("too few with the same Amounts, or with others", same)
	}
}

func TestP11CrossingPairsAreAllThatCross(t *testing.T) {
	pairsFound, sameDay := 0, 0
	for _, parcels := range append(manyParcels(), smallParcels(3)...) {
		pairs, ok := impl.CrossingPairs(parcels)
		if !ok || !slices.IsSortedFunc(pairs, func(a, b [2]int) int { return slices.Compare(a[:], b[:]) }) {
			t.Fatal("CrossingPairs", parcels, pairs, ok)
		}
		for i, p := range parcels {
			for j, q := range parcels {
				crossed := q.Day > p.Day && q.Day+q.Lead < p.Day+p.Lead
				if slices.Contains(pairs, [2]int{i, j}) != crossed {
					t.Fatal("crosses, or does not", parcels, i, j, pairs)
				}
				if crossed {
					pairsFound++
				} else if p.Day == q.Day && q.Lead < p.Lead {
					sameDay++
				}
			}
		}
	}
	if pairsFound < 1000 || sameDay < 1000 {
		t.Error("too few that cross, or that are of the same Day", pairsFound, sameDay)
	}
}

func TestP11StraightLeadsCrossNowhere(t *testing.T) {
	var d dice = 821
	changed := 0
	for _, parcels := range append(manyParcels(), smallParcels(4)...) {
		straight, ok := impl.StraightLeads(parcels)
		if ok != haveSameAmounts(parcels) || ok && len(straight) != len(parcels) {
			t.Fatal("StraightLeads", parcels, straight, ok)
		}
		if !ok {
			continue
		}
		pairs, fine := impl.CrossingPairs(straight)
		if !fine || len(pairs) > 0 || !areSomeParcels(straight) {
			t.Fatal("they cross, or are not valid", parcels, straight, pairs)
		}
		for i, p := range straight {
			if p.Day != parcels[i].Day || p.Amount != parcels[i].Amount || p.Lead < 0 || p.Lead > 4 || i > 0 && p.Day+p.Lead < straight[i-1].Day+straight[i-1].Lead {
				t.Fatal("another Parcel", parcels, straight)
			}
		}
		before, _ := impl.ArrivalsOf(parcels)
		behind, fine := impl.ArrivalsOf(straight)
		checkList(t, fmt.Sprint("ArrivalsOf ", straight), behind, fine, before, true)
		start, asked := d.throw(400)-200, d.thrownList(d.throw(20), 20)
		before, _ = impl.ParcelStocks(start, parcels, asked)
		behind, fine = impl.ParcelStocks(start, straight, asked)
		checkList(t, fmt.Sprint("ParcelStocks ", straight), behind, fine, before, true)
		again, fine := impl.StraightLeads(straight)
		checkParcels(t, fmt.Sprint("StraightLeads ", straight), again, fine, straight, true)
		if !slices.Equal(straight, parcels) {
			changed++
		}
	}
	if changed < 10000 {
		t.Error("too few other Leads", changed)
	}
}

func TestP11AmountsThatDifferHaveNoStraightLeads(t *testing.T) {
	for n := 2; n <= 12; n++ {
		for at := range n {
			parcels := slices.Repeat([]impl.Parcel{{Day: 3, Amount: 7, Lead: 1}}, n)
			for _, amount := range []int{1, 6, 8, 40} {
				parcels[at].Amount = amount
				straight, ok := impl.StraightLeads(parcels)
				checkParcels(t, fmt.Sprint("StraightLeads ", parcels), straight, ok, nil, false)
			}
			parcels[at].Amount = 7
			straight, ok := impl.StraightLeads(parcels)
			checkParcels(t, fmt.Sprint("StraightLeads ", parcels), straight, ok, parcels, true)
		}
	}
}

func TestP11ListsThatAreNoParcels(t *testing.T) {
	for _, parcels := range noParcels() {
		if areSomeParcels(parcels) {
			t.Fatal("a list that is valid", parcels)
		}
		checkAllFail(t, parcelCalls(leadArgs{parcels: parcels, asked: []int{1, 2}}))
	}
	for n := range 20 {
		parcels := slices.Repeat([]impl.Parcel{{Day: 20, Amount: 40, Lead: 4}}, n)
		calls := parcelCalls(leadArgs{parcels: parcels})
		if n <= 12 {
			checkNoneFails(t, calls)
		} else {
			checkAllFail(t, calls)
		}
	}
}

func TestP11ParcelsWithinTheirBounds(t *testing.T) {
	for x := -60; x <= 60; x++ {
		for _, p := range []impl.Parcel{{Day: x, Amount: 1}, {Day: x, Amount: 40, Lead: 4}, {Day: 1, Amount: x}, {Day: 20, Amount: x, Lead: 4}, {Day: 1, Amount: 1, Lead: x}, {Day: 20, Amount: 40, Lead: x}} {
			for _, parcels := range [][]impl.Parcel{{p}, {p, p}} {
				calls := parcelCalls(leadArgs{parcels: parcels})
				if areSomeParcels(parcels) {
					checkNoneFails(t, calls)
				} else {
					checkAllFail(t, calls)
				}
			}
		}
	}
	for _, days := range listsFrom([]int{1, 2, 19, 20}, 4) {
		var parcels []impl.Parcel
		for _, day := range days {
			parcels = append(parcels, impl.Parcel{Day: day, Amount: 3})
		}
		calls := parcelCalls(leadArgs{parcels: parcels})
		if slices.IsSorted(days) {
			checkNoneFails(t, calls)
		} else {
			checkAllFail(t, calls)
		}
	}
}

func TestP11ParcelStocksBeginAtAStock(t *testing.T) {
	for x := -450; x <= 450; x++ {
		for _, asked := range [][]int{nil, {0}, {1, 2}, {20}} {
			parcels := []impl.Parcel{{Day: 2, Amount: 30}}
			var want []int
			is := x >= -200 && x <= 200
			if is {
				want = parcelStocksBySteps(x, parcels, asked)
			}
			stocks, ok := impl.ParcelStocks(x, parcels, asked)
			checkList(t, fmt.Sprint("ParcelStocks ", x, asked), stocks, ok, want, is)
		}
	}
	for _, x := range farStocks {
		stocks, ok := impl.ParcelStocks(x, nil, []int{1})
		checkList(t, fmt.Sprint("ParcelStocks ", x), stocks, ok, nil, false)
	}
}

// leadArgs are arguments of the functions of the chapter.
type leadArgs struct {
	f             impl.Flow
	order, pieces int
	r             impl.Rule
	orders, asked []int
	stocks        []int
	hold, back    int
	lead, start   int
	parcels       []impl.Parcel
}

// leadCalls calls each function of the chapter.
func leadCalls(x leadArgs) []lotCall {
	var calls []lotCall
	add := func(name string, ok bool, results ...any) { calls = append(calls, lotCall{name, results, ok}) }
	add("IsFlow", true, impl.IsFlow(x.f))
	position, ok := impl.PositionOf(x.f)
	add("PositionOf", ok, position)
	behind, ok := impl.DayOf(x.f, x.order, x.pieces)
	add("DayOf", ok, behind)
	add("IsRule", true, impl.IsRule(x.r))
	order, ok := impl.RuleOrder(x.f, x.r)
	add("RuleOrder", ok, order)
	stocks, last, ok := impl.RunOrders(x.f, x.orders, x.asked)
	add("RunOrders", ok, stocks, last)
	orders, others, ok := impl.RunRule(x.f, x.r, x.asked)
	add("RunRule", ok, orders, others)
	service, sum, ok := impl.ServiceOf(x.f, x.r, x.asked)
	add("ServiceOf", ok, service, sum)
	cost, ok := impl.StockCost(x.stocks, x.hold, x.back)
	add("StockCost", ok, cost)
	needs, ok := impl.LeadNeeds(x.asked, x.lead)
	add("LeadNeeds", ok, needs)
	best, least, ok := impl.BestUpTo(x.asked, x.lead, x.hold, x.back)
	add("BestUpTo", ok, best, least)
	return append(calls, parcelCalls(x)...)
}

// parcelCalls calls each function of Parcels.
func parcelCalls(x leadArgs) []lotCall {
	arrivals, one := impl.ArrivalsOf(x.parcels)
	pairs, two := impl.CrossingPairs(x.parcels)
	straight, three := impl.StraightLeads(x.parcels)
	stocks, four := impl.ParcelStocks(x.start, x.parcels, x.asked)
	return []lotCall{{"ArrivalsOf", []any{arrivals}, one}, {"CrossingPairs", []any{pairs}, two}, {"StraightLeads", []any{straight}, three}, {"ParcelStocks", []any{stocks}, four}}
}

// isOfFlows tells of which functions a Flow is an argument, beside IsFlow.
func isOfFlows(name string) bool {
	return slices.Contains([]string{"PositionOf", "DayOf", "RuleOrder", "RunOrders", "RunRule", "ServiceOf"}, name)
}

// isOfRules tells of which functions a Rule is an argument, beside IsRule.
func isOfRules(name string) bool {
	return slices.Contains([]string{"RuleOrder", "RunRule", "ServiceOf"}, name)
}

// manyLeadArgs gives arguments of which all are valid, and others of which some are not.
func manyLeadArgs() []leadArgs {
	var d dice = 823
	flows, rules, days, parcels := noFlows(), noStockRules(), noDays(), noParcels()
	var found []leadArgs
	for i := range 840 {
		n := i / 5 % 21
		f := d.thrownFlow(i % 5)
		f.Stock = d.throw(60) - 10
		good := leadArgs{f: f, order: d.throw(40), pieces: d.throw(20), r: d.thrownRule(f.Stock + totalOf(f.Under)), orders: d.thrownList(n, 20), asked: d.thrownList(n, 20), stocks: d.thrownList(n, 200), hold: d.throw(9), back: d.throw(9), lead: d.throw(4), start: d.throw(400) - 200, parcels: d.thrownParcels(i%13, 20, i%3 > 0)}
		found = append(found, good)
		x := good
		x.f, x.r, x.stocks = flows[d.throw(len(flows)-1)], rules[d.throw(len(rules)-1)], days[i%len(days)]
		found = append(found, x)
		x = good
		x.order, x.pieces, x.lead, x.start = beyond(40)[i%10], d.throw(20), beyond(4)[i%10], farStocks[i%len(farStocks)]
		x.parcels = parcels[i%len(parcels)]
		found = append(found, x)
		x = good
		x.orders, x.pieces, x.asked, x.hold = days[i%len(days)], beyond(20)[i%10], days[d.throw(len(days)-1)], beyond(9)[i%10]
		found = append(found, x)
	}
	return append(found, leadArgs{}, leadArgs{r: upToRule(0)}, leadArgs{f: flowOf(0, 1, 2, 3, 4), r: upToRule(10)})
}

func TestP13FlowFunctionsFailWithoutAFlow(t *testing.T) {
	for i, f := range noFlows() {
		for _, x := range []leadArgs{{f: f, r: upToRule(1)}, {f: f, order: i % 41, pieces: i % 21, r: twoRule(-200, -200), orders: []int{1, 2}, asked: []int{2, 1}}, {f: f, r: lotsRule(-200, 1), orders: []int{40}, asked: []int{0}}} {
			for _, call := range leadCalls(x) {
				if call.name == "IsFlow" && call.results[0] != false {
					t.Error("a Flow", f)
				}
				if isOfFlows(call.name) {
					checkAllFail(t, []lotCall{call})
				} else {
					checkNoneFails(t, []lotCall{call})
				}
			}
		}
	}
}

func TestP13FlowFunctionsFailWithoutARule(t *testing.T) {
	for _, r := range noStockRules() {
		for _, x := range []leadArgs{{r: r}, {f: flowOf(5, 2), r: r, orders: []int{1, 2}, asked: []int{2, 1}}, {f: flowOf(200, 0, 0, 0, 0), r: r}, {f: flowOf(-100, 40), r: r, orders: []int{0}, asked: []int{20}}} {
			for _, call := range leadCalls(x) {
				if call.name == "IsRule" && call.results[0] != false {
					t.Error("a Rule", r)
				}
				if isOfRules(call.name) {
					checkAllFail(t, []lotCall{call})
				} else {
					checkNoneFails(t, []lotCall{call})
				}
			}
		}
	}
}

func TestP13WhereLeadFunctionsFailAllResultsAreZero(t *testing.T) {
	var calls []lotCall
	for _, x := range manyLeadArgs() {
		calls = append(calls, leadCalls(x)...)
	}
	checkEachFailsAndDoesNot(t, calls, 15, "IsFlow", "IsRule")
}

// roomyLeads gives the same arguments in memory that goes on behind them, and all this memory.
func roomyLeads(x leadArgs) (leadArgs, [][]int, []impl.Parcel) {
	var memory [][]int
	for _, list := range []*[]int{&x.f.Under, &x.orders, &x.asked, &x.stocks} {
		roomy, all := withRoom(*list)
		*list = roomy
		memory = append(memory, all)
	}
	parcels := append(slices.Clone(x.parcels), impl.Parcel{Day: 71}, impl.Parcel{Day: 72}, impl.Parcel{Day: 73})
	x.parcels = parcels[:len(x.parcels)]
	return x, memory, parcels
}

func TestP13LeadFunctionsLeaveTheirArguments(t *testing.T) {
	for _, x := range manyLeadArgs() {
		given, memory, parcels := roomyLeads(x)
		lists, list := copyTable(memory), slices.Clone(parcels)
		calls := leadCalls(given)
		checkResultsAreApart(t, calls)
		for _, call := range calls {
			if straight, ok := call.results[0].([]impl.Parcel); ok {
				clear(straight)
				_ = append(straight, impl.Parcel{Day: 99})
			}
		}
		if !slices.EqualFunc(memory, lists, slices.Equal[[]int]) || !slices.Equal(parcels, list) {
			t.Fatal("changed", x, given, memory, parcels)
		}
		if again := leadCalls(x); !slices.EqualFunc(again, calls, func(a, b lotCall) bool { return a.ok == b.ok }) {
			t.Fatal("another answer", x, again, calls)
		}
	}
}

func TestP13LeadFunctionsReturnTheSameAgain(t *testing.T) {
	for _, x := range manyLeadArgs() {
		first := leadCalls(x)
		checkResultsAreApart(t, leadCalls(x))
		if second := leadCalls(x); !reflect.DeepEqual(first, second) {
			t.Fatal("another result", first, second)
		}
	}
}

func TestP13FlowsOfTheNextDaysShareNoMemory(t *testing.T) {
	for lead := range 5 {
		f := flowOf(5, rise(1, 1, lead)...)
		one, _ := impl.DayOf(f, 6, 1)
		two, _ := impl.DayOf(one, 7, 1)
		three, _ := impl.DayOf(one, 8, 1)
		_, none, _ := impl.RunOrders(one, nil, nil)
		before := fmt.Sprint(f, one)
		for _, behind := range []impl.Flow{two, three, none} {
			clear(behind.Under)
			_ = append(behind.Under, 39)
		}
		if fmt.Sprint(f, one) != before {
			t.Error("changed", lead, f, one, before)
		}
	}
}

func TestP13StraightLeadsShareNoMemory(t *testing.T) {
	for _, parcels := range manyParcels() {
		want := slices.Clone(parcels)
		first, ok := impl.StraightLeads(parcels)
		kept := slices.Clone(first)
		second, _ := impl.StraightLeads(parcels)
		clear(second)
		_ = append(second, impl.Parcel{Day: -1})
		_ = append(first, impl.Parcel{Day: -2})
		if !slices.Equal(first, kept) || !slices.Equal(parcels, want) {
			t.Fatal("results share memory", parcels, want, first, kept, ok)
		}
	}
}

func TestP13NilAndEmptyListsOfLeads(t *testing.T) {
	none := leadCalls(leadArgs{r: upToRule(0)})
	empty := leadCalls(leadArgs{f: impl.Flow{Under: []int{}}, r: upToRule(0), orders: []int{}, asked: []int{}, stocks: []int{}, parcels: []impl.Parcel{}})
	if fmt.Sprint(none) != fmt.Sprint(empty) {
		t.Error("not the same", none, empty)
	}
	checkNoneFails(t, none)
}
