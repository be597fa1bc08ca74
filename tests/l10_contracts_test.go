package tests

import (
	"fmt"
	"math"
	"reflect"
	"slices"
	"testing"

	"loop.example/g01111/impl"
)

// marketOf gives the Market with a Price, a Make and a Left, and with weights.
func marketOf(price, cost, left int, weights ...int) impl.Market {
	return impl.Market{Weights: weights, Price: price, Make: cost, Left: left}
}

// plainOf gives the Contract of which nothing but the Pay is agreed.
func plainOf(pay int) impl.Contract {
	return impl.Contract{Pay: pay, Share: 100}
}

// saleWeights are lists of weights of all lengths, with weights of 0 at all kinds of places.
var saleWeights = [][]int{
	{1}, {4}, {0, 1}, {1, 0}, {1, 1}, {3, 1}, {1, 4}, {0, 0, 2}, {2, 0, 0}, {0, 3, 0}, {1, 1, 2}, {4, 4, 4}, {1, 0, 3}, {0, 1, 0, 1}, {1, 2, 3, 4}, {1, 1, 1, 1, 1}, {4, 0, 0, 0, 1}, {1, 2, 0, 2, 1, 0}, {0, 0, 0, 0, 0, 0, 3}, {1, 3, 4, 3, 2, 1, 1, 0},
	{0, 0, 0, 0, 0, 0, 0, 0, 1}, {1, 0, 0, 0, 0, 0, 0, 0, 0}, {4, 4, 4, 4, 4, 4, 4, 4, 4}, {0, 0, 0, 0, 4, 0, 0, 0, 0}, {1, 1, 1, 1, 1, 1, 1, 1, 1}, {0, 1, 2, 3, 4, 3, 2, 1, 0}, {2, 0, 1, 0, 3, 0, 1, 0, 2},
}

// eachPrices calls a function with each Price, Make and Left, up to a greatest Price.
func eachPrices(most int, call func(price, cost, left int)) {
	for price := 1; price <= most; price++ {
		for cost := range price + 1 {
			for left := range cost + 1 {
				call(price, cost, left)
			}
		}
	}
}

// smallMarkets gives all Markets of small Prices with few small weights, or with one of saleWeights.
func smallMarkets() []impl.Market {
	lists := slices.DeleteFunc(listsFrom([]int{0, 1, 3}, 3), func(w []int) bool { return allNeeds(w) == 0 })
	lists = append(lists, saleWeights...)
	var found []impl.Market
	eachPrices(4, func(price, cost, left int) {
		for _, w := range lists {
			found = append(found, marketOf(price, cost, left, w...))
		}
	})
	return found
}

// thrownMarket gives a Market with n weights. In a third of them Make is the Price, or Left is Make.
func (d *dice) thrownMarket(n, most int) impl.Market {
	m := impl.Market{Weights: d.thrownDistribution(n, 4), Price: 1 + d.throw(most-1)}
	m.Make = d.throw(m.Price)
	if d.throw(5) == 0 {
		m.Make = m.Price
	}
	m.Left = d.throw(m.Make)
	if d.throw(5) == 0 {
		m.Left = m.Make
	}
	return m
}

// fullMarkets gives Markets of all numbers of weights, with Prices up to the limit.
func fullMarkets() []impl.Market {
	var found []impl.Market
	for _, w := range saleWeights {
		for _, x := range [][3]int{{99, 99, 99}, {99, 99, 0}, {99, 0, 0}, {99, 50, 50}, {99, 98, 1}, {98, 49, 0}, {1, 0, 0}, {1, 1, 0}, {1, 1, 1}, {60, 40, 30}, {50, 50, 25}, {100 / 3, 11, 3}} {
			found = append(found, marketOf(x[0], x[1], x[2], w...))
		}
	}
	var d dice = 601
	for i := range 600 {
		found = append(found, d.thrownMarket(1+i%9, 99), d.thrownMarket(1+i%9, 12))
	}
	return found
}

// noMarkets gives Markets of which one part is not valid.
func noMarkets() []impl.Market {
	bad := []impl.Market{{}, {Price: 1}, {Weights: []int{1}}, {Weights: []int{1}, Make: 1, Left: 1}, {Price: 99, Make: 99, Left: 99}}
	for _, w := range [][]int{
		nil, {}, {0}, {0, 0}, make([]int, 9), make([]int, 10), make([]int, 5000), slices.Repeat([]int{1}, 10), slices.Repeat([]int{4}, 10), slices.Repeat([]int{1}, 5000), {1, 0, 0, 0, 0, 0, 0, 0, 0, 0}, {0, 0, 0, 0, 0, 0, 0, 0, 0, 1},
		{-1}, {5}, {2, -1}, {-1, 2}, {-1, -1}, {5, 0}, {0, 5}, {4, 4, 4, 4, 4, 4, 4, 4, 5}, {-1, 4, 4, 4, 4, 4, 4, 4, 4}, {math.MaxInt}, {math.MinInt}, {math.MaxInt, 2}, {math.MinInt, math.MinInt, 1}, {1 << 62, 1 << 62, 1 << 62, 1 << 62, 1}, {1<<32 + 1}, {1, 1 << 32},
	} {
		bad = append(bad, marketOf(10, 4, 1, w...), marketOf(1, 0, 0, w...), marketOf(99, 99, 99, w...))
	}
	for _, x := range append(beyond(4), 5) {
		for at := range 9 {
			w := slices.Repeat([]int{1}, 9)
			w[at] = x
			bad = append(bad, marketOf(10, 4, 1, w...))
		}
	}
	for _, x := range append(beyond(99), 0) {
		bad = append(bad, marketOf(x, 0, 0, 1, 1, 2), marketOf(x, x, 0, 1), marketOf(x, x, x, 1, 1))
	}
	for _, price := range []int{1, 2, 10, 98, 99} {
		for _, x := range beyond(price) {
			bad = append(bad, marketOf(price, x, 0, 1, 1, 2), marketOf(price, x, x, 1))
		}
		for cost := range price + 1 {
			for _, x := range beyond(cost) {
				if x < 0 || x > cost {
					bad = append(bad, marketOf(price, cost, x, 1, 1, 2))
				}
			}
		}
	}
	return bad
}

// noContracts gives Contracts of which one part is not valid.
func noContracts() []impl.Contract {
	var bad []impl.Contract
	for _, x := range beyond(99) {
		bad = append(bad, impl.Contract{Pay: x}, impl.Contract{Back: x}, impl.Contract{Pay: x, Back: 3, Share: 100}, impl.Contract{Pay: 6, Back: x, Share: 100}, impl.Contract{Pay: x, Back: x, Share: 50})
	}
	for _, x := range beyond(100) {
		bad = append(bad, impl.Contract{Share: x}, impl.Contract{Pay: 6, Back: 3, Share: x}, impl.Contract{Pay: 99, Back: 99, Share: x})
	}
	return append(bad, impl.Contract{Pay: 100, Share: 100}, impl.Contract{Back: 100, Share: 100}, impl.Contract{Pay: 99, Back: 99, Share: 101}, impl.Contract{Pay: -1, Back: -1, Share: -1})
}

// thrownContract gives a Contract that may suit a Market: a third of them are in proportion, if there
// are such Contracts.
func (d *dice) thrownContract(m impl.Market) impl.Contract {
	k := impl.Contract{Pay: d.throw(m.Price), Back: d.throw(m.Price), Share: 100 - d.throw(3)*d.throw(33)}
	switch d.throw(5) {
	case 0:
		k = impl.Contract{Pay: d.throw(99), Back: d.throw(99), Share: d.throw(100)}
	case 1:
		k.Back = 0
	case 2, 3:
		k.Back = d.throw(max(0, m.Price-m.Left-1))
		for pay := range 100 {
			if proportionBySteps(m, impl.Contract{Pay: pay, Back: k.Back, Share: k.Share}) {
				k.Pay = pay
			}
		}
	}
	return k
}

// contractsFor gives Contracts at the limits, Contracts by which an order too many is no loss, and
// some thrown ones.
func contractsFor(m impl.Market, d *dice) []impl.Contract {
	found := []impl.Contract{
		{}, {Pay: 99}, {Back: 99}, {Share: 100}, {Pay: 99, Back: 99}, {Pay: 99, Share: 100}, {Back: 99, Share: 100}, {Pay: 99, Back: 99, Share: 100}, plainOf(m.Make), plainOf(m.Price), plainOf(m.Left), {Pay: m.Make, Back: m.Make - m.Left, Share: 100},
		{Pay: m.Price, Back: m.Price, Share: 100}, {Pay: m.Left, Share: 50}, {Pay: 1, Share: 1}, {Pay: m.Price / 2, Back: m.Price / 3, Share: 99}, {Pay: m.Price / 2, Share: 50},
	}
	for range 8 {
		found = append(found, d.thrownContract(m))
	}
	return found
}

// orderProfits are the sales of an order and the three profits.
type orderProfits struct{ sales, seller, maker, joint int }

// profitsBySteps gives what is expected piece by piece, in hundredths: who is paid for it, and by whom.
func profitsBySteps(m impl.Market, k impl.Contract, order int) orderProfits {
	var sum orderProfits
	for d, weight := range m.Weights {
		var x orderProfits
		for piece := 1; piece <= order; piece++ {
			x.maker += 100 * (k.Pay - m.Make)
			x.seller -= 100 * k.Pay
			x.joint -= 100 * m.Make
			if piece <= d {
				x.sales++
				x.seller += k.Share * m.Price
				x.maker += (100 - k.Share) * m.Price
				x.joint += 100 * m.Price
			} else {
				x.seller += 100 * (m.Left + k.Back)
				x.maker -= 100 * k.Back
				x.joint += 100 * m.Left
			}
		}
		sum.sales += weight * x.sales
		sum.seller += weight * x.seller
		sum.maker += weight * x.maker
		sum.joint += weight * x.joint
	}
	return sum
}

// profitTable gives what profitsBySteps tells of each order.
func profitTable(m impl.Market, k impl.Contract) []orderProfits {
	var table []orderProfits
	for order := range 9 {
		table = append(table, profitsBySteps(m, k, order))
	}
	return table
}

// mostProfitable gives the first order with the greatest profit.
func mostProfitable(table []orderProfits, profit func(x orderProfits) int) int {
	best := 0
	for order, x := range table {
		if profit(x) > profit(table[best]) {
			best = order
		}
	}
	return best
}

func sellerOf(x orderProfits) int { return x.seller }

func jointOf(x orderProfits) int { return x.joint }

// proportionBySteps tells whether a Contract is in proportion, by the document's words.
func proportionBySteps(m impl.Market, k impl.Contract) bool {
	a := k.Share*m.Price - 100*(m.Left+k.Back)
	return a > 0 && a*(m.Left-m.Make) == 100*(m.Left+k.Back-k.Pay)*(m.Price-m.Left)
}

// isPart tells whether the seller's profit is the same positive part of the joint one for all orders.
func isPart(m impl.Market, k impl.Contract) bool {
	over, under := k.Share*m.Price-100*(m.Left+k.Back), 100*(m.Price-m.Left)
	return over > 0 && !slices.ContainsFunc(profitTable(m, k), func(x orderProfits) bool { return x.seller*under != x.joint*over })
}

// plainBySteps gives the seller's order and the maker's profit for each Pay.
func plainBySteps(m impl.Market) [][2]int {
	var pairs [][2]int
	for pay := m.Make; pay <= m.Price; pay++ {
		table := profitTable(m, plainOf(pay))
		order := mostProfitable(table, sellerOf)
		pairs = append(pairs, [2]int{order, table[order].maker})
	}
	return pairs
}

// backsByAll looks at all Backs and Pays.
func backsByAll(m impl.Market) []impl.Contract {
	var found []impl.Contract
	for back := range 100 {
		for pay := range 100 {
			if k := (impl.Contract{Pay: pay, Back: back, Share: 100}); proportionBySteps(m, k) {
				found = append(found, k)
			}
		}
	}
	return found
}

// farSales are numbers on both sides of the orders of a seller.
var farSales = append(beyond(8), 10, -2, 99, 100)

// checkProfits compares all that is told of an order of a Market, with a Contract.
func checkProfits(t *testing.T, m impl.Market, k impl.Contract, order int, want orderProfits, wantOK bool) {
	t.Helper()
	what := fmt.Sprint(m, k, order)
	sales, ok := impl.SalesOf(m, order)
	checkNumber(t, "SalesOf "+what, sales, ok, want.sales, wantOK)
	seller, ok := impl.SellerProfit(m, k, order)
	checkNumber(t, "SellerProfit "+what, seller, ok, want.seller, wantOK)
	maker, ok := impl.MakerProfit(m, k, order)
	checkNumber(t, "MakerProfit "+what, maker, ok, want.maker, wantOK)
	joint, ok := impl.JointProfit(m, order)
	checkNumber(t, "JointProfit "+what, joint, ok, want.joint, wantOK)
	if seller+maker != joint {
		t.Fatal("not the joint profit", what, seller, maker, joint)
	}
}

// checkOrders compares all that is told of the orders of a Market, and of numbers that are none.
func checkOrders(t *testing.T, m impl.Market, k impl.Contract) {
	t.Helper()
	for order, want := range profitTable(m, k) {
		checkProfits(t, m, k, order, want, true)
	}
	for _, order := range farSales {
		checkProfits(t, m, k, order, orderProfits{}, false)
	}
}

// checkContract compares all that is told of a Market and a Contract, and returns the loss.
func checkContract(t *testing.T, m impl.Market, k impl.Contract) int {
	t.Helper()
	table := profitTable(m, k)
	what := fmt.Sprint(m, k)
	want, joint := mostProfitable(table, sellerOf), mostProfitable(table, jointOf)
	order, ok := impl.SellerOrder(m, k)
	checkNumber(t, "SellerOrder "+what, order, ok, want, true)
	lost := table[joint].joint - table[want].joint
	loss, ok := impl.ProfitLoss(m, k)
	checkNumber(t, "ProfitLoss "+what, loss, ok, lost, true)
	is, ok := impl.IsCoordinated(m, k)
	checkAnswer(t, "IsCoordinated "+what, is, ok, lost == 0, true)
	is, ok = impl.InProportion(m, k)
	checkAnswer(t, "InProportion "+what, is, ok, proportionBySteps(m, k), true)
	if is && loss != 0 {
		t.Fatal("in proportion with a loss", what, loss)
	}
	return loss
}

// checkMarket compares all that is told of a Market alone.
func checkMarket(t *testing.T, m impl.Market) {
	t.Helper()
	what := fmt.Sprint(m)
	table := profitTable(m, impl.Contract{})
	var want []int
	for _, x := range table {
		want = append(want, x.joint)
	}
	profits, ok := impl.JointProfits(m)
	checkList(t, "JointProfits "+what, profits, ok, want, true)
	best := mostProfitable(table, jointOf)
	order, ok := impl.JointOrder(m)
	checkNumber(t, "JointOrder "+what, order, ok, best, true)
	quotient, ok := impl.QuotientOrder(m)
	if m.Price == m.Left {
		best = 0
	}
	checkNumber(t, "QuotientOrder "+what, quotient, ok, best, m.Price > m.Left)
	plain := plainBySteps(m)
	pairs, ok := impl.PlainContracts(m)
	checkPairs(t, "PlainContracts "+what, pairs, ok, plain, true)
	pay := 0
	for place, pair := range plain {
		if pair[1] > plain[pay][1] {
			pay = place
		}
	}
	got, ok := impl.BestPlain(m)
	checkNumber(t, "BestPlain "+what, got, ok, m.Make+pay, true)
}

// checkBacks compares the list of Contracts in proportion.
func checkBacks(t *testing.T, m impl.Market, want []impl.Contract, wantOK bool) {
	t.Helper()
	if got, ok := impl.BackContracts(m); !slices.Equal(got, want) || ok != wantOK {
		t.Errorf("BackContracts %v = %v, %t, want %v, %t", m, got, ok, want, wantOK)
	}
}

func TestContractBounds(t *testing.T) {
	if impl.MaxSales != 8 || impl.MaxMoney != 99 || impl.Percent != 100 {
		t.Error("bounds", impl.MaxSales, impl.MaxMoney, impl.Percent)
	}
}

func TestP10IsMarket(t *testing.T) {
	for _, m := range append(smallMarkets(), fullMarkets()...) {
		if !impl.IsMarket(m) {
			t.Fatal("a Market that is none", m)
		}
	}
	for _, m := range noMarkets() {
		if impl.IsMarket(m) {
			t.Error("no Market", m)
		}
	}
}

func TestP10MarketsWithinTheirBounds(t *testing.T) {
	for x := -120; x <= 120; x++ {
		if impl.IsMarket(marketOf(x, 0, 0, 1)) != (x >= 1 && x <= 99) || impl.IsMarket(marketOf(x, x, x, 1)) != (x >= 1 && x <= 99) {
			t.Error("Price", x)
		}
		if impl.IsMarket(marketOf(50, x, 0, 1)) != (x >= 0 && x <= 50) || impl.IsMarket(marketOf(50, 40, x, 1)) != (x >= 0 && x <= 40) {
			t.Error("Make or Left", x)
		}
		if impl.IsMarket(marketOf(50, 40, 30, 1, x)) != (x >= 0 && x <= 4) || impl.IsMarket(marketOf(50, 40, 30, x)) != (x >= 1 && x <= 4) {
			t.Error("weight", x)
		}
	}
	for n := range 30 {
		if impl.IsMarket(marketOf(9, 6, 3, slices.Repeat([]int{1}, n)...)) != (n >= 1 && n <= 9) {
			t.Error("weights", n)
		}
		if impl.IsMarket(marketOf(9, 6, 3, make([]int, n)...)) {
			t.Error("weights of 0", n)
		}
	}
}

func TestP10IsContract(t *testing.T) {
	for x := -120; x <= 120; x++ {
		if impl.IsContract(impl.Contract{Pay: x}) != (x >= 0 && x <= 99) || impl.IsContract(impl.Contract{Back: x, Share: 100}) != (x >= 0 && x <= 99) {
			t.Error("Pay or Back", x)
		}
		if impl.IsContract(impl.Contract{Pay: 99, Back: 99, Share: x}) != (x >= 0 && x <= 100) {
			t.Error("Share", x)
		}
	}
	var d dice = 607
	for _, m := range fullMarkets() {
		for _, k := range contractsFor(m, &d) {
			if !impl.IsContract(k) {
				t.Fatal("a Contract that is none", k)
			}
		}
	}
	for _, k := range noContracts() {
		if impl.IsContract(k) {
			t.Error("no Contract", k)
		}
	}
}

func TestP10ProfitExamples(t *testing.T) {
	m := marketOf(10, 4, 1, 1, 1, 2)
	shared := impl.Contract{Pay: 2, Back: 3, Share: 60}
	for _, x := range []struct {
		m     impl.Market
		k     impl.Contract
		order int
		want  orderProfits
		ok    bool
	}{
		{m, plainOf(6), 0, orderProfits{}, true}, {m, plainOf(6), 1, orderProfits{3, 700, 800, 1500}, true}, {m, plainOf(6), 2, orderProfits{5, 500, 1600, 2100}, true}, {m, plainOf(6), 3, orderProfits{5, -1500, 2400, 900}, true}, {m, plainOf(6), 8, orderProfits{5, -11500, 6400, -5100}, true},
		{m, shared, 0, orderProfits{}, true}, {m, shared, 1, orderProfits{3, 1400, 100, 1500}, true}, {m, shared, 2, orderProfits{5, 2600, -500, 2100}, true}, {m, shared, 8, orderProfits{5, 7400, -12500, -5100}, true},
		{m, impl.Contract{}, 1, orderProfits{3, 100, 1400, 1500}, true}, {m, impl.Contract{Pay: 99, Back: 99}, 2, orderProfits{5, -49200, 51300, 2100}, true},
		{m, plainOf(6), -1, orderProfits{}, false}, {m, plainOf(6), 9, orderProfits{}, false}, {m, plainOf(6), math.MaxInt, orderProfits{}, false}, {m, plainOf(6), math.MinInt, orderProfits{}, false},
		{marketOf(5, 5, 5, 1), impl.Contract{}, 8, orderProfits{0, 4000, -4000, 0}, true}, {marketOf(5, 5, 5, 0, 4), plainOf(5), 8, orderProfits{4, 0, 0, 0}, true}, {marketOf(1, 0, 0, 1), impl.Contract{}, 8, orderProfits{}, true}, {marketOf(1, 0, 0, 1), plainOf(1), 8, orderProfits{0, -800, 800, 0}, true},
		{marketOf(99, 99, 0, 4, 4, 4, 4, 4, 4, 4, 4, 4), plainOf(99), 8, orderProfits{144, -99 * 14400, 0, -99 * 14400}, true}, {marketOf(99, 0, 0, 0, 0, 0, 0, 0, 0, 0, 0, 4), impl.Contract{Pay: 99, Back: 99, Share: 100}, 8, orderProfits{32, 0, 99 * 3200, 99 * 3200}, true},
		{marketOf(99, 0, 0, 0, 0, 0, 0, 0, 0, 0, 0, 4), impl.Contract{}, 8, orderProfits{32, 0, 99 * 3200, 99 * 3200}, true}, {marketOf(3, 2, 1, 0, 1), impl.Contract{Pay: 1, Back: 2, Share: 1}, 1, orderProfits{1, -97, 197, 100}, true}, {marketOf(3, 2, 1, 0, 1), impl.Contract{Pay: 1, Back: 2, Share: 1}, 2, orderProfits{1, 103, -103, 0}, true},
	} {
		checkProfits(t, x.m, x.k, x.order, x.want, x.ok)
	}
}

func TestP10ContractExamples(t *testing.T) {
	m := marketOf(10, 4, 1, 1, 1, 2)
	same := marketOf(7, 7, 7, 1, 1)
	cheap := marketOf(8, 2, 2, 1, 0, 1, 0)
	for _, x := range []struct {
		m           impl.Market
		k           impl.Contract
		order, loss int
		both, is    bool // coordinated, in proportion
	}{
		{m, plainOf(6), 1, 600, false, false}, {m, plainOf(4), 2, 0, true, true}, {m, plainOf(5), 2, 0, true, false}, {m, plainOf(7), 1, 600, false, false}, {m, plainOf(8), 0, 2100, false, false}, {m, plainOf(0), 8, 7200, false, false}, {m, plainOf(1), 2, 0, true, false}, {m, plainOf(3), 2, 0, true, false},
		{m, impl.Contract{Pay: 6, Back: 3, Share: 100}, 2, 0, true, true}, {m, impl.Contract{Pay: 8, Back: 6, Share: 100}, 2, 0, true, true}, {m, impl.Contract{Pay: 10, Back: 9, Share: 100}, 0, 2100, false, false}, {m, impl.Contract{Pay: 7, Back: 3, Share: 100}, 1, 600, false, false}, {m, impl.Contract{Pay: 6, Back: 4, Share: 100}, 2, 0, true, false},
		{m, impl.Contract{Pay: 2, Back: 0, Share: 40}, 2, 0, true, true}, {m, impl.Contract{Pay: 2, Back: 0, Share: 50}, 2, 0, true, false}, {m, impl.Contract{}, 8, 7200, false, false}, {m, impl.Contract{Pay: 1}, 0, 2100, false, false}, {m, impl.Contract{Back: 99}, 8, 7200, false, false},
		{same, plainOf(7), 0, 0, true, false}, {same, plainOf(0), 8, 0, true, false}, {same, impl.Contract{}, 8, 0, true, false}, {same, impl.Contract{Pay: 99, Back: 99, Share: 100}, 8, 0, true, false}, {same, plainOf(99), 0, 0, true, false},
		{cheap, plainOf(2), 2, 0, true, true}, {cheap, plainOf(5), 0, 1200, false, false}, {cheap, plainOf(4), 2, 0, true, false}, {cheap, impl.Contract{Pay: 3, Back: 1, Share: 100}, 2, 0, true, true}, {cheap, impl.Contract{Pay: 7, Back: 5, Share: 100}, 2, 0, true, true}, {cheap, impl.Contract{Pay: 8, Back: 6, Share: 100}, 0, 1200, false, false}, {cheap, impl.Contract{Pay: 2, Share: 26}, 2, 0, true, true}, {cheap, impl.Contract{Pay: 2, Share: 25}, 0, 1200, false, false},
	} {
		what := fmt.Sprint(x.m, x.k)
		order, ok := impl.SellerOrder(x.m, x.k)
		checkNumber(t, "SellerOrder "+what, order, ok, x.order, true)
		loss, ok := impl.ProfitLoss(x.m, x.k)
		checkNumber(t, "ProfitLoss "+what, loss, ok, x.loss, true)
		both, ok := impl.IsCoordinated(x.m, x.k)
		checkAnswer(t, "IsCoordinated "+what, both, ok, x.both, true)
		is, ok := impl.InProportion(x.m, x.k)
		checkAnswer(t, "InProportion "+what, is, ok, x.is, true)
	}
}

func TestP10MarketExamples(t *testing.T) {
	for _, x := range []struct {
		m        impl.Market
		joint    []int
		order    int
		quotient bool
		plain    [][2]int
		best     int
		backs    []impl.Contract
	}{
		{marketOf(10, 4, 1, 1, 1, 2), []int{0, 1500, 2100, 900, -300, -1500, -2700, -3900, -5100}, 2, true, [][2]int{{2, 0}, {2, 800}, {1, 800}, {1, 1200}, {0, 0}, {0, 0}, {0, 0}}, 7, []impl.Contract{{Pay: 4, Share: 100}, {Pay: 6, Back: 3, Share: 100}, {Pay: 8, Back: 6, Share: 100}}},
		{marketOf(7, 7, 7, 1, 1), make([]int, 9), 0, false, [][2]int{{0, 0}}, 7, nil}, {marketOf(1, 1, 1, 4), make([]int, 9), 0, false, [][2]int{{0, 0}}, 1, nil},
		{marketOf(1, 0, 0, 1), make([]int, 9), 0, true, [][2]int{{0, 0}, {0, 0}}, 0, []impl.Contract{{Share: 100}}}, {marketOf(1, 1, 0, 0, 0, 0, 0, 0, 0, 0, 0, 1), make([]int, 9), 0, true, [][2]int{{0, 0}}, 1, []impl.Contract{{Pay: 1, Share: 100}}},
		{marketOf(1, 0, 0, 0, 0, 0, 0, 0, 0, 0, 0, 1), []int{0, 100, 200, 300, 400, 500, 600, 700, 800}, 8, true, [][2]int{{8, 0}, {0, 0}}, 0, []impl.Contract{{Share: 100}}},
		{marketOf(3, 1, 1, 1, 1), []int{0, 200, 200, 200, 200, 200, 200, 200, 200}, 1, true, [][2]int{{1, 0}, {0, 0}, {0, 0}}, 1, []impl.Contract{{Pay: 1, Share: 100}, {Pay: 2, Back: 1, Share: 100}}}, {marketOf(4, 1, 0, 0, 2), []int{0, 600, 400, 200, 0, -200, -400, -600, -800}, 1, true, [][2]int{{1, 0}, {1, 200}, {1, 400}, {0, 0}}, 3, []impl.Contract{{Pay: 1, Share: 100}}},
		{marketOf(3, 3, 1, 1, 1), []int{0, -200, -600, -1000, -1400, -1800, -2200, -2600, -3000}, 0, true, [][2]int{{0, 0}}, 3, []impl.Contract{{Pay: 3, Share: 100}, {Pay: 3, Back: 1, Share: 100}}},
	} {
		what := fmt.Sprint(x.m)
		joint, ok := impl.JointProfits(x.m)
		checkList(t, "JointProfits "+what, joint, ok, x.joint, true)
		order, ok := impl.JointOrder(x.m)
		checkNumber(t, "JointOrder "+what, order, ok, x.order, true)
		quotient, ok := impl.QuotientOrder(x.m)
		checkNumber(t, "QuotientOrder "+what, quotient, ok, x.order, x.quotient)
		plain, ok := impl.PlainContracts(x.m)
		checkPairs(t, "PlainContracts "+what, plain, ok, x.plain, true)
		best, ok := impl.BestPlain(x.m)
		checkNumber(t, "BestPlain "+what, best, ok, x.best, true)
		checkBacks(t, x.m, x.backs, true)
	}
}

func TestP10PayForExamples(t *testing.T) {
	m, same := marketOf(10, 4, 1, 1, 1, 2), marketOf(7, 7, 7, 1, 1)
	for _, x := range []struct {
		m           impl.Market
		back, share int
		want        int
		ok          bool
	}{
		{m, 0, 100, 4, true}, {m, 3, 100, 6, true}, {m, 6, 100, 8, true}, {m, 9, 100, 0, false}, {m, 1, 100, 0, false}, {m, 2, 100, 0, false}, {m, 8, 100, 0, false}, {m, 99, 100, 0, false}, {m, 0, 40, 2, true}, {m, 0, 70, 3, true}, {m, 0, 10, 0, false}, {m, 0, 0, 0, false}, {m, 0, 11, 0, false}, {m, 1, 50, 3, true},
		{m, -1, 100, 0, false}, {m, 100, 100, 0, false}, {m, 3, 101, 0, false}, {m, 3, -1, 0, false}, {m, math.MinInt, 100, 0, false}, {m, math.MaxInt, 100, 0, false}, {m, 3, math.MaxInt, 0, false}, {m, 3, math.MinInt, 0, false}, {m, -1, -1, 0, false}, {m, 3 + 1<<32, 100, 0, false}, {m, 3, 100 + 1<<32, 0, false},
		{same, 0, 100, 0, false}, {same, 7, 100, 0, false}, {same, 0, 0, 0, false}, {marketOf(5, 5, 0, 1), 0, 100, 5, true}, {marketOf(5, 5, 0, 1), 4, 100, 5, true}, {marketOf(5, 5, 0, 1), 5, 100, 0, false}, {marketOf(5, 0, 0, 1), 0, 1, 0, true}, {marketOf(5, 0, 0, 1), 4, 100, 4, true}, {marketOf(5, 0, 0, 1), 4, 81, 4, true}, {marketOf(5, 0, 0, 1), 4, 80, 0, false},
		{marketOf(99, 99, 0, 1), 98, 100, 99, true}, {marketOf(99, 99, 98, 1), 0, 100, 99, true}, {marketOf(99, 99, 98, 1), 1, 100, 0, false}, {marketOf(99, 0, 0, 1), 98, 100, 98, true}, {marketOf(99, 0, 0, 1), 98, 99, 98, true}, {marketOf(99, 0, 0, 1), 98, 98, 0, false}, {marketOf(99, 0, 0, 1), 99, 100, 0, false}, {marketOf(1, 0, 0, 1), 0, 100, 0, true}, {marketOf(1, 1, 0, 1), 0, 100, 1, true},
		{impl.Market{}, 0, 100, 0, false}, {marketOf(10, 4, 1, 0), 3, 100, 0, false}, {marketOf(10, 4, 5, 1), 3, 100, 0, false},
	} {
		pay, ok := impl.PayFor(x.m, x.back, x.share)
		checkNumber(t, fmt.Sprint("PayFor ", x.m, x.back, x.share), pay, ok, x.want, x.ok)
	}
}

func TestP10SmallMarkets(t *testing.T) {
	for _, m := range smallMarkets() {
		checkMarket(t, m)
	}
}

func TestP10FullMarkets(t *testing.T) {
	joint, best := map[int]int{}, map[int]int{}
	for _, m := range fullMarkets() {
		checkMarket(t, m)
		order, _ := impl.JointOrder(m)
		pay, _ := impl.BestPlain(m)
		joint[order]++
		best[pay-m.Make]++
	}
	if len(joint) != 9 || len(best) < 20 {
		t.Error("not all orders, or too few Pays", joint, best)
	}
}

func TestP10OrdersWithAllContracts(t *testing.T) {
	var d dice = 613
	for i, m := range fullMarkets() {
		for _, k := range contractsFor(m, &d) {
			if i%3 == 0 || d.throw(9) == 0 {
				checkOrders(t, m, k)
			}
		}
	}
	for _, m := range smallMarkets() {
		checkOrders(t, m, d.thrownContract(m))
	}
}

func TestP10TheJointProfitDependsOnNoContract(t *testing.T) {
	for _, m := range []impl.Market{marketOf(10, 4, 1, 1, 1, 2), marketOf(7, 7, 7, 1), marketOf(1, 0, 0, 0, 4), marketOf(99, 50, 20, 1, 2, 3, 4, 4, 3, 2, 1, 1)} {
		for _, order := range []int{0, 1, 2, 7, 8} {
			joint, _ := impl.JointProfit(m, order)
			for pay := 0; pay < 100; pay += 9 {
				for back := 0; back < 100; back += 11 {
					for share := 0; share <= 100; share += 10 {
						k := impl.Contract{Pay: pay, Back: back, Share: share}
						seller, one := impl.SellerProfit(m, k, order)
						maker, two := impl.MakerProfit(m, k, order)
						if !one || !two || seller+maker != joint {
							t.Fatal("another joint profit", m, k, order, seller, maker, joint)
						}
					}
				}
			}
		}
	}
}

func TestP10JointProfitsAreConcave(t *testing.T) {
	for _, m := range append(smallMarkets(), fullMarkets()...) {
		profits, ok := impl.JointProfits(m)
		if !ok || len(profits) != 9 || profits[0] != 0 {
			t.Fatal("JointProfits", m, profits, ok)
		}
		for order := 1; order < 8; order++ {
			if profits[order+1]-profits[order] > profits[order]-profits[order-1] {
				t.Fatal("not concave", m, profits)
			}
		}
		for order, want := range profits {
			got, ok := impl.JointProfit(m, order)
			checkNumber(t, fmt.Sprint("JointProfit ", m, order), got, ok, want, true)
		}
	}
}

func TestP10TheLeastOrdersWithTheGreatestProfits(t *testing.T) {
	var d dice = 617
	ties, turns := 0, 0
	for _, m := range append(smallMarkets(), fullMarkets()...) {
		profits, _ := impl.JointProfits(m)
		order, ok := impl.JointOrder(m)
		if !ok || order != slices.Index(profits, slices.Max(profits)) {
			t.Fatal("JointOrder", m, order, ok, profits)
		}
		quotient, ok := impl.QuotientOrder(m)
		if ok != (m.Price > m.Left) || ok && quotient != order {
			t.Fatal("QuotientOrder", m, quotient, ok, order)
		}
		k := d.thrownContract(m)
		var sellers []int
		for order := range 9 {
			seller, _ := impl.SellerProfit(m, k, order)
			sellers = append(sellers, seller)
		}
		order, ok = impl.SellerOrder(m, k)
		if !ok || order != slices.Index(sellers, slices.Max(sellers)) {
			t.Fatal("SellerOrder", m, k, order, ok, sellers)
		}
		if slices.Contains(sellers[order+1:], sellers[order]) {
			ties++
		}
		// Where a piece that is not sold is worth more than a sale, the profits fall before they rise.
		if sellers[1] < sellers[0] && order > 0 {
			turns++
		}
	}
	if ties < 100 || turns < 10 {
		t.Error("too few orders that are as good, or too few profits that rise again", ties, turns)
	}
}

func TestP10CoordinatedExactlyWithoutALoss(t *testing.T) {
	var d dice = 619
	apart := map[[2]bool]int{}
	for _, m := range append(fullMarkets(), smallMarkets()...) {
		contracts := contractsFor(m, &d)
		if m.Price <= 4 {
			contracts = append(contracts[:3], contracts[len(contracts)-3:]...)
		}
		for _, k := range contracts {
			loss := checkContract(t, m, k)
			is, _ := impl.InProportion(m, k)
			both, _ := impl.IsCoordinated(m, k)
			if loss < 0 || both != (loss == 0) || is && !both {
				t.Fatal("coordinated with a loss, or not without one", m, k, loss, both, is)
			}
			apart[[2]bool{both, is}]++
		}
	}
	if apart[[2]bool{true, true}] < 1000 || apart[[2]bool{true, false}] < 1000 || apart[[2]bool{false, false}] < 1000 {
		t.Error("too few that coordinate, or not", apart)
	}
}

func TestP10AllContractsOfSomeMarkets(t *testing.T) {
	shares := append(rise(0, 25, 5), 1, 40, 60, 99)
	for _, m := range []impl.Market{marketOf(10, 4, 1, 1, 1, 2), marketOf(5, 5, 5, 1, 1), marketOf(5, 5, 0, 0, 1, 0, 1), marketOf(6, 3, 3, 1, 2, 0, 0, 0, 0, 0, 0, 4), marketOf(4, 0, 0, 4, 1, 1), marketOf(12, 9, 3, 0, 0, 3, 1)} {
		for pay := range m.Price + 3 {
			for back := range m.Price + 3 {
				for _, share := range shares {
					checkContract(t, m, impl.Contract{Pay: pay, Back: back, Share: share})
				}
			}
		}
	}
}

func TestP10ContractsInProportionCoordinate(t *testing.T) {
	found := 0
	eachPrices(12, func(price, cost, left int) {
		m := marketOf(price, cost, left, saleWeights[(price*7+cost*3+left)%len(saleWeights)]...)
		for share := range 101 {
			for back := range price + 1 {
				pay, ok := impl.PayFor(m, back, share)
				if !ok {
					continue
				}
				k := impl.Contract{Pay: pay, Back: back, Share: share}
				is, one := impl.InProportion(m, k)
				both, two := impl.IsCoordinated(m, k)
				if !is || !one || !both || !two || price == left || !isPart(m, k) {
					t.Fatal("not in proportion, or not coordinated", m, k, is, both)
				}
				joint, _ := impl.JointOrder(m)
				order, ok := impl.SellerOrder(m, k)
				checkNumber(t, fmt.Sprint("SellerOrder ", m, k), order, ok, joint, true)
				found++
			}
		}
	})
	if found < 10000 {
		t.Error("too few in proportion", found)
	}
}

func TestP10PayForIsTheOnlyPay(t *testing.T) {
	found, none := 0, 0
	eachPrices(6, func(price, cost, left int) {
		m := marketOf(price, cost, left, saleWeights[(price+cost+left)%len(saleWeights)]...)
		for share := 0; share <= 100; share += 1 + share%7 {
			for back := range price + 2 {
				var pays []int
				for pay := range 100 {
					k := impl.Contract{Pay: pay, Back: back, Share: share}
					is, ok := impl.InProportion(m, k)
					want := isPart(m, k)
					if is != want || !ok || want != proportionBySteps(m, k) {
						t.Fatal("not a part of the joint profit, or not in proportion", m, k, is, ok, want)
					}
					if want {
						pays = append(pays, pay)
					}
				}
				if len(pays) > 1 || price == left && len(pays) > 0 {
					t.Fatal("several Pays in proportion", m, back, share, pays)
				}
				want, is := allNeeds(pays), len(pays) > 0
				got, ok := impl.PayFor(m, back, share)
				checkNumber(t, fmt.Sprint("PayFor ", m, back, share), got, ok, want, is)
				if is {
					found++
				} else {
					none++
				}
			}
		}
	})
	if found < 300 || none < 1000 {
		t.Error("too few Pays, or too few times none", found, none)
	}
}

func TestP10PayForOfFullMarkets(t *testing.T) {
	found := 0
	for i, m := range fullMarkets() {
		for back := i % 3; back < 100; back += 3 {
			for _, share := range []int{100, 50, 100 - i%60, 99} {
				want, is := 0, false
				for pay := range 100 {
					if proportionBySteps(m, impl.Contract{Pay: pay, Back: back, Share: share}) {
						want, is = pay, true
						found++
					}
				}
				got, ok := impl.PayFor(m, back, share)
				checkNumber(t, fmt.Sprint("PayFor ", m, back, share), got, ok, want, is)
			}
		}
	}
	if found < 1000 {
		t.Error("too few Pays", found)
	}
}

func TestP10PayForFailsForOtherBacksAndShares(t *testing.T) {
	for _, m := range fullMarkets()[:60] {
		for _, x := range beyond(99) {
			for _, share := range []int{0, 1, 50, 100, 101, -1} {
				pay, ok := impl.PayFor(m, x, share)
				checkNumber(t, fmt.Sprint("PayFor ", m, x, share), pay, ok, 0, false)
			}
		}
		for _, x := range beyond(100) {
			for _, back := range []int{0, 1, 50, 99, 100, -1} {
				pay, ok := impl.PayFor(m, back, x)
				checkNumber(t, fmt.Sprint("PayFor ", m, back, x), pay, ok, 0, false)
			}
		}
	}
}

func TestP10NoPlainOrderIsGreaterThanTheJointOrder(t *testing.T) {
	less := 0
	for _, m := range append(smallMarkets(), fullMarkets()...) {
		joint, _ := impl.JointOrder(m)
		pairs, ok := impl.PlainContracts(m)
		if !ok || len(pairs) != m.Price-m.Make+1 || pairs[0] != [2]int{joint, 0} {
			t.Fatal("PlainContracts", m, pairs, ok, joint)
		}
		best, ok := impl.BestPlain(m)
		if !ok || best < m.Make || best > m.Price {
			t.Fatal("BestPlain", m, best, ok)
		}
		most := pairs[best-m.Make][1]
		for place, pair := range pairs {
			k := plainOf(m.Make + place)
			order, ok := impl.SellerOrder(m, k)
			checkNumber(t, fmt.Sprint("SellerOrder ", m, k), order, ok, pair[0], true)
			maker, ok := impl.MakerProfit(m, k, order)
			checkNumber(t, fmt.Sprint("MakerProfit ", m, k), maker, ok, pair[1], true)
			if order > joint || maker > most || maker == most && place < best-m.Make {
				t.Fatal("a greater order, or a better Pay", m, pairs, joint, best)
			}
			if order < joint {
				less++
			}
		}
	}
	if less < 1000 {
		t.Error("too few less orders", less)
	}
}

func TestP10BackContractsAreAllInProportion(t *testing.T) {
	sizes := map[int]int{}
	for i, m := range append(fullMarkets(), smallMarkets()...) {
		if i%4 > 0 && i >= len(saleWeights)*12 {
			continue
		}
		want := backsByAll(m)
		checkBacks(t, m, want, true)
		if m.Price == m.Left && len(want) > 0 {
			t.Fatal("in proportion without a profit", m, want)
		}
		for _, k := range want {
			loss, ok := impl.ProfitLoss(m, k)
			checkNumber(t, fmt.Sprint("ProfitLoss ", m, k), loss, ok, 0, true)
			pay, ok := impl.PayFor(m, k.Back, 100)
			checkNumber(t, fmt.Sprint("PayFor ", m, k), pay, ok, k.Pay, true)
		}
		sizes[len(want)]++
	}
	if len(sizes) < 20 || sizes[0] < 10 || sizes[99] == 0 {
		t.Error("too few lengths", sizes)
	}
}

func TestP10PriceMakeAndLeftTheSame(t *testing.T) {
	var d dice = 631
	for price := 1; price <= 99; price++ {
		m := marketOf(price, price, price, saleWeights[price%len(saleWeights)]...)
		profits, ok := impl.JointProfits(m)
		checkList(t, fmt.Sprint("JointProfits ", m), profits, ok, make([]int, 9), true)
		order, ok := impl.JointOrder(m)
		checkNumber(t, fmt.Sprint("JointOrder ", m), order, ok, 0, true)
		order, ok = impl.QuotientOrder(m)
		checkNumber(t, fmt.Sprint("QuotientOrder ", m), order, ok, 0, false)
		pairs, ok := impl.PlainContracts(m)
		checkPairs(t, fmt.Sprint("PlainContracts ", m), pairs, ok, [][2]int{{0, 0}}, true)
		best, ok := impl.BestPlain(m)
		checkNumber(t, fmt.Sprint("BestPlain ", m), best, ok, price, true)
		checkBacks(t, m, nil, true)
		for _, k := range contractsFor(m, &d) {
			both, ok := impl.IsCoordinated(m, k)
			checkAnswer(t, fmt.Sprint("IsCoordinated ", m, k), both, ok, true, true)
			is, ok := impl.InProportion(m, k)
			checkAnswer(t, fmt.Sprint("InProportion ", m, k), is, ok, false, true)
			pay, ok := impl.PayFor(m, k.Back, k.Share)
			checkNumber(t, fmt.Sprint("PayFor ", m, k), pay, ok, 0, false)
		}
	}
}

func TestP10AShareOfNothing(t *testing.T) {
	for _, m := range append(fullMarkets(), smallMarkets()...) {
		for _, back := range []int{0, 1, m.Price, 99} {
			pay, ok := impl.PayFor(m, back, 0)
			checkNumber(t, fmt.Sprint("PayFor ", m, back), pay, ok, 0, false)
		}
		for _, pay := range []int{0, m.Left, m.Left + 1} {
			k := impl.Contract{Pay: min(pay, 99)}
			is, ok := impl.InProportion(m, k)
			checkAnswer(t, fmt.Sprint("InProportion ", m, k), is, ok, false, true)
			order, ok := impl.SellerOrder(m, k)
			checkNumber(t, fmt.Sprint("SellerOrder ", m, k), order, ok, mostProfitable(profitTable(m, k), sellerOf), true)
		}
	}
}

func TestP10AnOrderOfNothing(t *testing.T) {
	var d dice = 641
	for _, m := range append(fullMarkets(), smallMarkets()...) {
		k := d.thrownContract(m)
		sales, one := impl.SalesOf(m, 0)
		seller, two := impl.SellerProfit(m, k, 0)
		maker, three := impl.MakerProfit(m, k, 0)
		joint, four := impl.JointProfit(m, 0)
		if !one || !two || !three || !four || sales != 0 || seller != 0 || maker != 0 || joint != 0 {
			t.Fatal("an order of 0", m, k, sales, seller, maker, joint)
		}
	}
}

// marketArgs are arguments of the functions of the chapter.
type marketArgs struct {
	m     impl.Market
	k     impl.Contract
	order int
}

// marketCalls calls each function of the chapter. Those with a Back and a Share have these of the
// Contract.
func marketCalls(x marketArgs) []lotCall {
	var calls []lotCall
	add := func(name string, result any, ok bool) { calls = append(calls, lotCall{name, []any{result}, ok}) }
	add("IsMarket", impl.IsMarket(x.m), true)
	add("IsContract", impl.IsContract(x.k), true)
	sales, ok := impl.SalesOf(x.m, x.order)
	add("SalesOf", sales, ok)
	seller, ok := impl.SellerProfit(x.m, x.k, x.order)
	add("SellerProfit", seller, ok)
	maker, ok := impl.MakerProfit(x.m, x.k, x.order)
	add("MakerProfit", maker, ok)
	joint, ok := impl.JointProfit(x.m, x.order)
	add("JointProfit", joint, ok)
	profits, ok := impl.JointProfits(x.m)
	add("JointProfits", profits, ok)
	best, ok := impl.JointOrder(x.m)
	add("JointOrder", best, ok)
	quotient, ok := impl.QuotientOrder(x.m)
	add("QuotientOrder", quotient, ok)
	order, ok := impl.SellerOrder(x.m, x.k)
	add("SellerOrder", order, ok)
	loss, ok := impl.ProfitLoss(x.m, x.k)
	add("ProfitLoss", loss, ok)
	both, ok := impl.IsCoordinated(x.m, x.k)
	add("IsCoordinated", both, ok)
	is, ok := impl.InProportion(x.m, x.k)
	add("InProportion", is, ok)
	pay, ok := impl.PayFor(x.m, x.k.Back, x.k.Share)
	add("PayFor", pay, ok)
	pairs, ok := impl.PlainContracts(x.m)
	add("PlainContracts", pairs, ok)
	least, ok := impl.BestPlain(x.m)
	add("BestPlain", least, ok)
	backs, ok := impl.BackContracts(x.m)
	add("BackContracts", backs, ok)
	return calls
}

// isOfContracts tells of which functions a Contract is an argument.
func isOfContracts(name string) bool {
	return slices.Contains([]string{"SellerProfit", "MakerProfit", "SellerOrder", "ProfitLoss", "IsCoordinated", "InProportion"}, name)
}

// isOfOrders tells of which functions an order is an argument.
func isOfOrders(name string) bool {
	return slices.Contains([]string{"SalesOf", "SellerProfit", "MakerProfit", "JointProfit"}, name)
}

// manyMarketArgs gives arguments of which all are valid, and others of which some are not.
func manyMarketArgs() []marketArgs {
	var d dice = 643
	markets, bad, badContracts := fullMarkets(), noMarkets(), noContracts()
	var found []marketArgs
	for i := 0; i < len(markets); i += 2 {
		m := markets[i]
		good := marketArgs{m, d.thrownContract(m), d.throw(8)}
		found = append(found, good)
		x := good
		x.k = badContracts[d.throw(len(badContracts)-1)]
		found = append(found, x)
		x = good
		x.order = farSales[i/2%len(farSales)]
		found = append(found, x)
		x = good
		x.m = bad[d.throw(len(bad)-1)]
		found = append(found, x)
	}
	return append(found, marketArgs{}, marketArgs{m: marketOf(1, 0, 0, 1)}, marketArgs{m: marketOf(1, 1, 1, 1)})
}

func TestP13MarketFunctionsFailWithoutAMarket(t *testing.T) {
	contracts := []impl.Contract{{}, plainOf(6), {Pay: 6, Back: 3, Share: 100}, {Pay: 99, Back: 99, Share: 100}, {Pay: -1}}
	for i, m := range noMarkets() {
		for _, k := range contracts {
			for _, call := range marketCalls(marketArgs{m, k, i % 9}) {
				switch call.name {
				case "IsContract":
				case "IsMarket":
					if call.results[0] != false {
						t.Error("a Market", m)
					}
				default:
					checkAllFail(t, []lotCall{call})
				}
			}
		}
	}
}

func TestP13MarketFunctionsFailWithoutAContract(t *testing.T) {
	for i, k := range noContracts() {
		for _, m := range []impl.Market{marketOf(10, 4, 1, 1, 1, 2), marketOf(1, 0, 0, 1), marketOf(7, 7, 7, 1, 1), marketOf(99, 99, 99, 4, 4, 4, 4, 4, 4, 4, 4, 4), marketOf(99, 0, 0, 0, 4)} {
			for _, call := range marketCalls(marketArgs{m, k, i % 9}) {
				switch {
				case call.name == "IsContract":
					if call.results[0] != false {
						t.Error("a Contract", k)
					}
				case isOfContracts(call.name):
					checkAllFail(t, []lotCall{call})
				case call.name != "PayFor" && call.name != "QuotientOrder":
					checkNoneFails(t, []lotCall{call})
				}
			}
		}
	}
}

func TestP13MarketFunctionsFailWithoutAnOrder(t *testing.T) {
	for i, order := range farSales {
		for _, m := range fullMarkets()[:len(saleWeights)*3] {
			for _, call := range marketCalls(marketArgs{m, plainOf(i), order}) {
				if isOfOrders(call.name) {
					checkAllFail(t, []lotCall{call})
				} else if call.name != "PayFor" && call.name != "QuotientOrder" {
					checkNoneFails(t, []lotCall{call})
				}
			}
		}
	}
}

func TestP13WhereMarketFunctionsFailAllResultsAreZero(t *testing.T) {
	var calls []lotCall
	for _, x := range manyMarketArgs() {
		calls = append(calls, marketCalls(x)...)
	}
	checkEachFailsAndDoesNot(t, calls, 17, "IsMarket", "IsContract")
}

func TestP13MarketFunctionsLeaveTheirArguments(t *testing.T) {
	for _, x := range manyMarketArgs() {
		given := x
		roomy, memory := withRoom(x.m.Weights)
		given.m.Weights = roomy
		before := slices.Clone(memory)
		calls := marketCalls(given)
		checkResultsAreApart(t, calls)
		if !slices.Equal(memory, before) || len(given.m.Weights) != len(x.m.Weights) {
			t.Fatal("changed", x, memory)
		}
		if again := marketCalls(x); !slices.EqualFunc(again, calls, func(a, b lotCall) bool { return a.ok == b.ok }) {
			t.Fatal("another answer", x, again, calls)
		}
	}
}

func TestP13MarketFunctionsReturnTheSameAgain(t *testing.T) {
	for _, x := range manyMarketArgs() {
		first := marketCalls(x)
		checkResultsAreApart(t, marketCalls(x))
		if second := marketCalls(x); !reflect.DeepEqual(first, second) {
			t.Fatal("another result", first, second)
		}
	}
}

func TestP13ContractListsShareNoMemory(t *testing.T) {
	for _, m := range fullMarkets() {
		first, _ := impl.BackContracts(m)
		want := slices.Clone(first)
		second, _ := impl.BackContracts(m)
		for i := range second {
			second[i] = impl.Contract{Pay: -1, Back: -2, Share: -3}
		}
		_ = append(second, impl.Contract{Pay: -4})
		_ = append(first, impl.Contract{Pay: -5})
		checkBacks(t, m, want, true)
		if !slices.Equal(first, want) {
			t.Fatal("results share memory", m, first)
		}
	}
}

func TestP13NilAndEmptyListsOfMarkets(t *testing.T) {
	none := marketCalls(marketArgs{m: impl.Market{Price: 1}})
	empty := marketCalls(marketArgs{m: impl.Market{Weights: []int{}, Price: 1}})
	if fmt.Sprint(none) != fmt.Sprint(empty) {
		t.Error("not the same", none, empty)
	}
	for _, call := range none {
		if call.ok != (call.name == "IsMarket" || call.name == "IsContract") {
			t.Error("fails, or does not", call)
		}
	}
}
