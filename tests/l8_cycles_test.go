package tests

import (
	"fmt"
	"iter"
	"math"
	"math/big"
	"math/bits"
	"reflect"
	"slices"
	"testing"

	"loop.example/g01111/impl"
)

// itemOf gives an Item that is made at once and without a pause, as far as this goes.
func itemOf(daily, setup, hold int) impl.Item {
	return impl.Item{Daily: daily, Setup: setup, Hold: hold, Make: 40}
}

// everyItem gives all Dailys, Setups and Holds, with one Make and one Pause after the other.
func everyItem() iter.Seq[impl.Item] {
	return func(yield func(impl.Item) bool) {
		n := 0
		for daily := 1; daily <= 20; daily++ {
			for setup := 1; setup <= 99; setup++ {
				for hold := 1; hold <= 9; hold++ {
					n++
					if !yield(impl.Item{Daily: daily, Setup: setup, Hold: hold, Make: daily + 1 + n%(40-daily), Pause: n % 10}) {
						return
					}
				}
			}
		}
	}
}

// thrownItem gives an Item with numbers up to some limits.
func (d *dice) thrownItem(daily, setup, hold, pause int) impl.Item {
	x := impl.Item{Daily: 1 + d.throw(daily-1), Setup: 1 + d.throw(setup-1), Hold: 1 + d.throw(hold-1), Pause: d.throw(pause)}
	x.Make = x.Daily + 1 + d.throw(39-x.Daily)
	return x
}

// thrownFamily gives n Items with numbers up to some limits.
func (d *dice) thrownFamily(n, daily, setup, hold, pause int) []impl.Item {
	var family []impl.Item
	for range n {
		family = append(family, d.thrownItem(daily, setup, hold, pause))
	}
	return family
}

// greatItem and leastItem have the greatest and the least numbers.
var (
	greatItem = impl.Item{Daily: 20, Setup: 99, Hold: 9, Make: 40, Pause: 9}
	leastItem = impl.Item{Daily: 1, Setup: 1, Hold: 1, Make: 2, Pause: 0}
)

// manyFamilies gives families of 1..4 Items, up to so many of each size and kind.
func manyFamilies(count int) [][]impl.Item {
	var d dice = 401
	var found [][]impl.Item
	for n := 1; n <= 4; n++ {
		found = append(found, slices.Repeat([]impl.Item{greatItem}, n), slices.Repeat([]impl.Item{leastItem}, n))
		for range count {
			found = append(found, d.thrownFamily(n, 20, 99, 9, 9), d.thrownFamily(n, 3, 99, 1, 2), d.thrownFamily(n, 2, 9, 2, 0), d.thrownFamily(n, 1, 99, 2, 9), d.thrownFamily(n, 20/n, 20, 9, 1))
		}
	}
	return found
}

// tightFamilies gives families of which only very long common cycles fit, or none, or all.
func tightFamilies() [][]impl.Item {
	made := func(rows ...[3]int) []impl.Item {
		var family []impl.Item
		for i, row := range rows {
			family = append(family, impl.Item{Daily: row[0], Setup: 5 + i, Hold: 1 + i, Make: row[1], Pause: row[2]})
		}
		return family
	}
	return [][]impl.Item{
		made([3]int{1, 10, 1}, [3]int{7, 8, 9}), made([3]int{1, 16, 9}, [3]int{9, 10, 6}), made([3]int{1, 20, 5}, [3]int{15, 16, 0}), made([3]int{1, 25, 0}, [3]int{19, 20, 4}), // 400 days
		made([3]int{1, 38, 9}, [3]int{16, 17, 4}), made([3]int{10, 29, 0}, [3]int{20, 31, 4}), // a little less than 400
		made([3]int{1, 11, 9}, [3]int{13, 15, 8}), made([3]int{10, 27, 4}, [3]int{17, 28, 5}), // a little more
		made([3]int{1, 10, 2}, [3]int{7, 8, 9}), made([3]int{1, 20, 5}, [3]int{15, 16, 1}), // much more
		made([3]int{1, 2, 0}, [3]int{1, 2, 0}), made([3]int{1, 2, 1}, [3]int{1, 2, 0}), made([3]int{1, 2, 0}, [3]int{1, 2, 1}), // no day is left
		made([3]int{1, 3, 0}, [3]int{1, 3, 0}, [3]int{1, 3, 0}), made([3]int{10, 40, 0}, [3]int{5, 20, 0}, [3]int{1, 4, 0}, [3]int{3, 12, 0}), made([3]int{10, 40, 0}, [3]int{5, 20, 0}, [3]int{1, 4, 0}, [3]int{3, 12, 1}),
		made([3]int{1, 2, 0}, [3]int{20, 39, 0}), made([3]int{2, 3, 0}, [3]int{2, 3, 0}), made([3]int{2, 3, 9}, [3]int{2, 3, 9}), // more than one day a day
		made([3]int{20, 21, 9}), made([3]int{20, 21, 0}), made([3]int{20, 21, 1}), made([3]int{1, 40, 9}), made([3]int{1, 2, 9}), made([3]int{1, 2, 1}),
		made([3]int{1, 40, 9}, [3]int{1, 39, 9}, [3]int{1, 37, 9}, [3]int{1, 31, 9}), made([3]int{10, 39, 9}, [3]int{9, 38, 9}, [3]int{8, 37, 9}, [3]int{7, 35, 9}), made([3]int{9, 39, 0}, [3]int{9, 38, 0}, [3]int{9, 37, 0}, [3]int{8, 35, 0}),
		made([3]int{10, 40, 0}, [3]int{10, 39, 0}, [3]int{9, 37, 0}, [3]int{7, 31, 1}),
	}
}

// noItems gives Items of which one part is not valid.
func noItems() []impl.Item {
	bad := []impl.Item{{}, {Daily: 1}, {Daily: 1, Setup: 1, Hold: 1}, {Setup: 1, Hold: 1, Make: 1}, {Daily: 20, Setup: 1, Hold: 1, Make: 20}, {Daily: 20, Setup: 1, Hold: 1, Make: 19}, {Daily: 21, Setup: 1, Hold: 1, Make: 40}, {Daily: 40, Setup: 1, Hold: 1, Make: 40}, {Daily: 40, Setup: 1, Hold: 1, Make: 41}, {Daily: 1, Setup: 1, Hold: 1, Make: 1}, {Daily: -1, Setup: -1, Hold: -1, Make: -1, Pause: -1}}
	for _, x := range []impl.Item{leastItem, greatItem, {Daily: 2, Setup: 9, Hold: 1, Make: 4, Pause: 1}} {
		for part, most := range []int{20, 99, 9, 40, 9} {
			for _, number := range append(beyond(most), 0) {
				y := x
				*[]*int{&y.Daily, &y.Setup, &y.Hold, &y.Make, &y.Pause}[part] = number
				if part < 4 || number != 0 {
					bad = append(bad, y)
				}
			}
		}
		y := x
		y.Make = y.Daily
		bad = append(bad, y)
	}
	return bad
}

// noFamilies gives lists that are no families.
func noFamilies() [][]impl.Item {
	bad := [][]impl.Item{nil, {}, slices.Repeat([]impl.Item{leastItem}, 5), slices.Repeat([]impl.Item{greatItem}, 6), make([]impl.Item, 4), make([]impl.Item, 5000), slices.Repeat([]impl.Item{leastItem}, 5000)}
	for i, x := range noItems() {
		family := slices.Repeat([]impl.Item{leastItem}, i%4)
		bad = append(bad, append(slices.Clone(family), x), append([]impl.Item{x}, family...))
	}
	return bad
}

// addedUp gives the sum of fractions.
func addedUp(parts ...[2]int) [2]int {
	sum := new(big.Rat)
	for _, x := range parts {
		sum.Add(sum, big.NewRat(int64(x[0]), int64(x[1])))
	}
	return [2]int{int(sum.Num().Int64()), int(sum.Denom().Int64())}
}

// compared compares two fractions.
func compared(a, b [2]int) int {
	return big.NewRat(int64(a[0]), int64(a[1])).Cmp(big.NewRat(int64(b[0]), int64(b[1])))
}

// isLowest reports whether a fraction has a denominator of at least 1 and no common divisor greater than 1.
func isLowest(x [2]int) bool {
	return x[0] >= 0 && x[1] >= 1 && new(big.Int).GCD(nil, nil, big.NewInt(int64(x[0])), big.NewInt(int64(x[1]))).Int64() == 1
}

func cycleParts(x impl.Item, cycle int) [][2]int {
	return [][2]int{{x.Setup, cycle}, {x.Hold * x.Daily * cycle, 2}}
}

func cycleCostBySteps(x impl.Item, cycle int) [2]int {
	return addedUp(cycleParts(x, cycle)...)
}

func familyCostBySteps(family []impl.Item, joint, base int, factors []int) [2]int {
	parts := [][2]int{{joint, base}}
	for i, x := range family {
		parts = append(parts, cycleParts(x, base*factors[i])...)
	}
	return addedUp(parts...)
}

func commonCostBySteps(family []impl.Item, cycle int) [2]int {
	var parts [][2]int
	for _, x := range family {
		parts = append(parts, [2]int{x.Setup, cycle}, [2]int{x.Hold * x.Daily * (x.Make - x.Daily) * cycle, 2 * x.Make})
	}
	return addedUp(parts...)
}

// fitsBySteps counts in parts of days that are so small that all times are whole numbers of them.
func fitsBySteps(family []impl.Item, cycle int) bool {
	day := 1
	for _, x := range family {
		day *= x.Make
	}
	taken := 0
	for _, x := range family {
		taken += x.Pause*day + x.Daily*cycle*(day/x.Make)
	}
	return taken <= cycle*day
}

// firstLeast gives the first number with the least cost, or 0 if there are no numbers.
func firstLeast(numbers []int, cost func(int) [2]int) int {
	best, least := 0, [2]int{}
	for _, x := range numbers {
		if now := cost(x); best == 0 || compared(now, least) < 0 {
			best, least = x, now
		}
	}
	return best
}

func factorsBySteps(family []impl.Item, base int) []int {
	var factors []int
	for _, x := range family {
		factors = append(factors, firstLeast(rise(1, 1, 8), func(factor int) [2]int { return cycleCostBySteps(x, base*factor) }))
	}
	return factors
}

func baseBySteps(family []impl.Item, joint int) int {
	return firstLeast(rise(1, 1, 32), func(base int) [2]int {
		return familyCostBySteps(family, joint, base, factorsBySteps(family, base))
	})
}

// fittingCycles gives all common cycles that fit.
func fittingCycles(family []impl.Item) []int {
	return slices.DeleteFunc(rise(1, 1, 400), func(cycle int) bool { return !fitsBySteps(family, cycle) })
}

func checkFraction(t *testing.T, what string, got [2]int, ok bool, want [2]int, wantOK bool) {
	t.Helper()
	if got != want || ok != wantOK {
		t.Errorf("%s = %v, %t, want %v, %t", what, got, ok, want, wantOK)
	}
}

func checkBase(t *testing.T, family []impl.Item, joint, want int, wantFactors []int, wantOK bool) {
	t.Helper()
	base, factors, ok := impl.BestBase(family, joint)
	if base != want || !slices.Equal(factors, wantFactors) || ok != wantOK {
		t.Errorf("BestBase %v %d = %d, %v, %t, want %d, %v, %t", family, joint, base, factors, ok, want, wantFactors, wantOK)
	}
}

func TestCycleLimits(t *testing.T) {
	got := []int{impl.MaxDaily, impl.MaxCycle, impl.MaxFamily, impl.MaxFactor, impl.MaxBase, impl.MaxMake, impl.MaxCommon, impl.MaxSlots}
	if !slices.Equal(got, []int{20, 64, 4, 8, 32, 40, 400, 5}) {
		t.Error("bounds", got)
	}
}

func TestP8IsItem(t *testing.T) {
	for x := range everyItem() {
		if !impl.IsItem(x) {
			t.Fatal("no Item", x)
		}
	}
	for _, x := range noItems() {
		if impl.IsItem(x) {
			t.Error("an Item", x)
		}
	}
}

func TestP8ItemsAtTheirBounds(t *testing.T) {
	in := func(x, least, most int) bool { return least <= x && x <= most }
	for _, daily := range []int{-1, 0, 1, 2, 19, 20, 21, 39, 40} {
		for _, setup := range []int{-1, 0, 1, 99, 100} {
			for _, hold := range []int{-1, 0, 1, 9, 10} {
				for _, pause := range []int{-1, 0, 9, 10} {
					for _, made := range []int{-1, 0, 1, daily - 1, daily, daily + 1, 39, 40, 41} {
						x := impl.Item{Daily: daily, Setup: setup, Hold: hold, Make: made, Pause: pause}
						want := in(daily, 1, 20) && in(setup, 1, 99) && in(hold, 1, 9) && in(pause, 0, 9) && in(made, daily+1, 40)
						_, ok := impl.BestCycle(x)
						if impl.IsItem(x) != want || ok != want {
							t.Error("IsItem", x, want, ok)
						}
					}
				}
			}
		}
	}
}

func TestP8CycleCostExamples(t *testing.T) {
	for _, x := range []struct {
		x     impl.Item
		cycle int
		want  [2]int
		ok    bool
	}{
		{itemOf(2, 9, 1), 3, [2]int{6, 1}, true}, {itemOf(2, 9, 1), 1, [2]int{10, 1}, true}, {itemOf(2, 9, 1), 2, [2]int{13, 2}, true}, {itemOf(2, 9, 1), 4, [2]int{25, 4}, true}, {itemOf(2, 9, 1), 64, [2]int{4105, 64}, true},
		{itemOf(1, 1, 1), 1, [2]int{3, 2}, true}, {itemOf(1, 1, 1), 2, [2]int{3, 2}, true}, {itemOf(1, 1, 1), 3, [2]int{11, 6}, true}, {itemOf(1, 2, 1), 2, [2]int{2, 1}, true}, {itemOf(1, 1, 1), 64, [2]int{2049, 64}, true},
		{itemOf(3, 7, 5), 6, [2]int{277, 6}, true}, {itemOf(1, 3, 1), 6, [2]int{7, 2}, true}, {itemOf(1, 10, 1), 4, [2]int{9, 2}, true},
		{greatItem, 1, [2]int{189, 1}, true}, {greatItem, 64, [2]int{368739, 64}, true}, {greatItem, 63, [2]int{39701, 7}, true}, {greatItem, 2, [2]int{459, 2}, true},
		{itemOf(2, 9, 1), 0, [2]int{}, false}, {itemOf(2, 9, 1), -1, [2]int{}, false}, {itemOf(2, 9, 1), 65, [2]int{}, false}, {impl.Item{}, 3, [2]int{}, false}, {itemOf(0, 9, 1), 3, [2]int{}, false}, {itemOf(2, 0, 1), 3, [2]int{}, false}, {itemOf(2, 9, 0), 3, [2]int{}, false},
	} {
		cost, ok := impl.CycleCost(x.x, x.cycle)
		checkFraction(t, fmt.Sprint("CycleCost ", x.x, x.cycle), cost, ok, x.want, x.ok)
	}
}

func TestP8CycleCostOfAllItems(t *testing.T) {
	for x := range everyItem() {
		for cycle := 1; cycle <= 64; cycle++ {
			cost, ok := impl.CycleCost(x, cycle)
			if whole := 2*x.Setup + x.Hold*x.Daily*cycle*cycle; !ok || cost[0]*2*cycle != whole*cost[1] || cost[1] < 1 {
				t.Fatal("CycleCost", x, cycle, cost, ok)
			}
			for _, prime := range []int{2, 3, 5, 7, 11, 13, 17, 19, 23, 29, 31, 37, 41, 43, 47, 53, 59, 61} {
				if cost[0]%prime == 0 && cost[1]%prime == 0 {
					t.Fatal("a common divisor", x, cycle, cost)
				}
			}
		}
	}
}

func TestP8BestAndPowerCycleExamples(t *testing.T) {
	for _, x := range []struct {
		x           impl.Item
		best, power int
	}{
		{itemOf(2, 9, 1), 3, 4},
		{itemOf(1, 1, 1), 1, 1}, {itemOf(1, 2, 1), 2, 2}, {itemOf(1, 3, 1), 2, 2}, {itemOf(1, 4, 1), 3, 2}, {itemOf(1, 5, 1), 3, 4}, {itemOf(1, 6, 1), 3, 4}, {itemOf(1, 7, 1), 4, 4}, {itemOf(1, 10, 1), 4, 4}, {itemOf(1, 11, 1), 5, 4},
		{itemOf(1, 16, 1), 6, 4}, {itemOf(1, 17, 1), 6, 8}, {itemOf(1, 64, 1), 11, 8}, {itemOf(1, 65, 1), 11, 16}, {itemOf(1, 66, 1), 11, 16}, {itemOf(1, 67, 1), 12, 16}, {itemOf(1, 91, 1), 13, 16}, {itemOf(1, 92, 1), 14, 16}, {itemOf(1, 99, 1), 14, 16},
		{greatItem, 1, 1}, {leastItem, 1, 1}, {itemOf(20, 1, 9), 1, 1}, {itemOf(1, 9, 9), 1, 1}, {itemOf(9, 9, 1), 1, 1}, {itemOf(9, 10, 1), 2, 2}, {itemOf(3, 27, 3), 2, 2}, {itemOf(3, 28, 3), 3, 2}, {itemOf(20, 80, 1), 3, 2}, {itemOf(20, 81, 1), 3, 4},
	} {
		got, ok := impl.BestCycle(x.x)
		checkNumber(t, fmt.Sprint("BestCycle ", x.x), got, ok, x.best, true)
		got, ok = impl.PowerCycle(x.x)
		checkNumber(t, fmt.Sprint("PowerCycle ", x.x), got, ok, x.power, true)
	}
}

func TestP8BestAndPowerCycleOfAllItems(t *testing.T) {
	for x := range everyItem() {
		// costs are these of each cycle, times 2 and the cycle
		costs := make([]int, 65)
		for cycle := 1; cycle <= 64; cycle++ {
			costs[cycle] = 2*x.Setup + x.Hold*x.Daily*cycle*cycle
		}
		first := func(cycles ...int) int {
			best := 1
			for _, cycle := range cycles {
				if costs[cycle]*best < costs[best]*cycle {
					best = cycle
				}
			}
			return best
		}
		best, one := impl.BestCycle(x)
		power, two := impl.PowerCycle(x)
		if !one || !two || best != first(rise(1, 1, 64)...) || power != first(1, 2, 4, 8, 16, 32, 64) {
			t.Fatal("best", x, best, power)
		}
		if rate := x.Hold * x.Daily; rate*best*(best-1) >= 2*x.Setup || rate*best*(best+1) < 2*x.Setup {
			t.Fatal("the products do not hold", x, best)
		}
		if costs[power]*best*10000 > costs[best]*power*10607 || costs[power]*best < costs[best]*power {
			t.Fatal("a power of 2 costs too much, or too little", x, best, power)
		}
	}
}

func TestP8NoCycleCostsLess(t *testing.T) {
	dearer := 0
	n := 0
	for x := range everyItem() {
		if n++; n%7 > 0 {
			continue
		}
		best, _ := impl.BestCycle(x)
		power, _ := impl.PowerCycle(x)
		least, one := impl.CycleCost(x, best)
		dear, two := impl.CycleCost(x, power)
		if !one || !two || compared(addedUp([2]int{dear[0] * 10000, dear[1]}), [2]int{least[0] * 10607, least[1]}) > 0 {
			t.Fatal("too dear", x, least, dear)
		}
		dearer += max(0, compared(dear, least))
		for cycle := 1; cycle <= 64; cycle++ {
			cost, _ := impl.CycleCost(x, cycle)
			if compared(cost, least) < 0 || cycle < best && compared(cost, least) == 0 {
				t.Fatal("not the first with the least cost", x, best, cycle)
			}
			if cycle&(cycle-1) == 0 && (compared(cost, dear) < 0 || cycle < power && compared(cost, dear) == 0) {
				t.Fatal("not the first power with the least cost", x, power, cycle)
			}
		}
	}
	if dearer < 200 {
		t.Error("powers of 2 are always best", dearer)
	}
}

func TestP8MakeAndPauseAreNothingToOrders(t *testing.T) {
	for _, x := range []impl.Item{itemOf(2, 9, 1), itemOf(1, 99, 1), itemOf(20, 77, 3), itemOf(13, 5, 9)} {
		best, _ := impl.BestCycle(x)
		power, _ := impl.PowerCycle(x)
		cost, _ := impl.CycleCost(x, 7)
		factors, _ := impl.BestFactors([]impl.Item{x, x}, 3)
		base, list, _ := impl.BestBase([]impl.Item{x}, 40)
		whole, _ := impl.FamilyCost([]impl.Item{x}, 3, 5, []int{7})
		for x.Make = x.Daily + 1; x.Make <= 40; x.Make++ {
			x.Pause = (x.Pause + 3) % 10
			got, ok := impl.BestCycle(x)
			checkNumber(t, fmt.Sprint("BestCycle ", x), got, ok, best, true)
			got, ok = impl.PowerCycle(x)
			checkNumber(t, fmt.Sprint("PowerCycle ", x), got, ok, power, true)
			now, ok := impl.CycleCost(x, 7)
			checkFraction(t, fmt.Sprint("CycleCost ", x), now, ok, cost, true)
			some, ok := impl.BestFactors([]impl.Item{x, x}, 3)
			checkList(t, fmt.Sprint("BestFactors ", x), some, ok, factors, true)
			checkBase(t, []impl.Item{x}, 40, base, list, true)
			now, ok = impl.FamilyCost([]impl.Item{x}, 3, 5, []int{7})
			checkFraction(t, fmt.Sprint("FamilyCost ", x), now, ok, whole, true)
		}
	}
}

func TestP8CyclesThatAreNone(t *testing.T) {
	for _, x := range []impl.Item{leastItem, greatItem, itemOf(2, 9, 1)} {
		for _, cycle := range append(beyond(64), 0) {
			cost, ok := impl.CycleCost(x, cycle)
			checkFraction(t, fmt.Sprint("CycleCost ", x, cycle), cost, ok, [2]int{}, false)
		}
	}
}

func TestP8FamilyCostExamples(t *testing.T) {
	a, b := itemOf(2, 9, 1), itemOf(1, 5, 3)
	for _, x := range []struct {
		family      []impl.Item
		joint, base int
		factors     []int
		want        [2]int
		ok          bool
	}{
		{[]impl.Item{a}, 3, 3, []int{1}, [2]int{7, 1}, true}, {[]impl.Item{a}, 0, 3, []int{1}, [2]int{6, 1}, true}, {[]impl.Item{a}, 99, 1, []int{3}, [2]int{105, 1}, true}, {[]impl.Item{a}, 1, 32, []int{1}, [2]int{517, 16}, true},
		{[]impl.Item{a, b}, 7, 2, []int{1, 2}, [2]int{69, 4}, true}, {[]impl.Item{b, a}, 7, 2, []int{2, 1}, [2]int{69, 4}, true}, {[]impl.Item{b, a}, 7, 2, []int{1, 2}, [2]int{61, 4}, true},
		{[]impl.Item{leastItem}, 0, 32, []int{8}, [2]int{32769, 256}, true}, {[]impl.Item{leastItem}, 99, 32, []int{8}, [2]int{33561, 256}, true}, {[]impl.Item{leastItem}, 0, 1, []int{1}, [2]int{3, 2}, true},
		{slices.Repeat([]impl.Item{greatItem}, 4), 99, 32, []int{8, 8, 8, 8}, [2]int{5898537, 64}, true}, {slices.Repeat([]impl.Item{greatItem}, 4), 99, 1, []int{1, 1, 1, 1}, [2]int{855, 1}, true}, {slices.Repeat([]impl.Item{leastItem}, 4), 1, 31, []int{8, 7, 5, 3}, [2]int{9284773, 26040}, true},
		{[]impl.Item{a}, -1, 3, []int{1}, [2]int{}, false}, {[]impl.Item{a}, 100, 3, []int{1}, [2]int{}, false}, {[]impl.Item{a}, 3, 0, []int{1}, [2]int{}, false}, {[]impl.Item{a}, 3, 33, []int{1}, [2]int{}, false}, {[]impl.Item{a}, 3, -1, []int{1}, [2]int{}, false},
		{[]impl.Item{a}, 3, 3, []int{0}, [2]int{}, false}, {[]impl.Item{a}, 3, 3, []int{9}, [2]int{}, false}, {[]impl.Item{a}, 3, 3, nil, [2]int{}, false}, {[]impl.Item{a}, 3, 3, []int{1, 1}, [2]int{}, false}, {[]impl.Item{a, b}, 3, 3, []int{1}, [2]int{}, false}, {[]impl.Item{a, b}, 3, 3, []int{1, -1}, [2]int{}, false}, {[]impl.Item{a, b}, 3, 3, []int{1, 0}, [2]int{}, false},
		{nil, 3, 3, nil, [2]int{}, false}, {nil, 3, 3, []int{1}, [2]int{}, false}, {slices.Repeat([]impl.Item{a}, 5), 3, 3, []int{1, 1, 1, 1, 1}, [2]int{}, false}, {slices.Repeat([]impl.Item{a}, 5), 3, 3, []int{1, 1, 1, 1}, [2]int{}, false}, {[]impl.Item{a, {}}, 3, 3, []int{1, 1}, [2]int{}, false},
	} {
		cost, ok := impl.FamilyCost(x.family, x.joint, x.base, x.factors)
		checkFraction(t, fmt.Sprint("FamilyCost ", x.family, x.joint, x.base, x.factors), cost, ok, x.want, x.ok)
	}
}

// thrownFactors gives factors of n Items.
func (d *dice) thrownFactors(n int) []int {
	var factors []int
	for range n {
		factors = append(factors, 1+d.throw(7))
	}
	return factors
}

// leastOfItems gives the sum of the least costs of all Items.
func leastOfItems(family []impl.Item) [2]int {
	var parts [][2]int
	for _, x := range family {
		parts = append(parts, cycleParts(x, firstLeast(rise(1, 1, 64), func(cycle int) [2]int { return cycleCostBySteps(x, cycle) }))...)
	}
	return addedUp(parts...)
}

func TestP8FamilyCostOfManyFamilies(t *testing.T) {
	var d dice = 409
	for _, family := range manyFamilies(15) {
		least := leastOfItems(family)
		for base := 1; base <= 32; base++ {
			for _, joint := range []int{0, 1, 99, d.throw(99)} {
				factors := d.thrownFactors(len(family))
				want := familyCostBySteps(family, joint, base, factors)
				cost, ok := impl.FamilyCost(family, joint, base, factors)
				checkFraction(t, fmt.Sprint("FamilyCost ", family, joint, base, factors), cost, ok, want, true)
				if !isLowest(cost) || compared(cost, least) < 0 {
					t.Error("no fraction, or less than the least ones of the Items", family, joint, base, factors, cost, least)
				}
			}
		}
	}
}

func TestP8NoFamilyCostsLessThanItsItems(t *testing.T) {
	met := 0
	for _, family := range manyFamilies(10) {
		var sum [2]int
		parts := [][2]int{}
		for _, x := range family {
			best, _ := impl.BestCycle(x)
			cost, ok := impl.CycleCost(x, best)
			if !ok {
				t.Fatal("no cost", x, best)
			}
			parts = append(parts, cost)
		}
		sum = addedUp(parts...)
		for _, joint := range []int{0, 1, 30, 99} {
			base, factors, _ := impl.BestBase(family, joint)
			cost, ok := impl.FamilyCost(family, joint, base, factors)
			if !ok || compared(cost, sum) < min(joint, 1) {
				t.Error("less than its Items", family, joint, cost, sum)
			}
			if cost == sum {
				met++
			}
		}
	}
	if met < 20 {
		t.Error("no family costs as little as its Items", met)
	}
}

func TestP8BestFactorsExamples(t *testing.T) {
	for _, x := range []struct {
		family []impl.Item
		base   int
		want   []int
		ok     bool
	}{
		{[]impl.Item{itemOf(2, 9, 1)}, 1, []int{3}, true}, {[]impl.Item{itemOf(2, 9, 1)}, 2, []int{2}, true}, {[]impl.Item{itemOf(2, 9, 1)}, 3, []int{1}, true}, {[]impl.Item{itemOf(2, 9, 1)}, 32, []int{1}, true},
		{[]impl.Item{itemOf(1, 99, 1)}, 1, []int{8}, true}, {[]impl.Item{itemOf(1, 99, 1)}, 2, []int{7}, true}, {[]impl.Item{itemOf(1, 36, 1)}, 1, []int{8}, true}, {[]impl.Item{itemOf(1, 28, 1)}, 1, []int{7}, true}, {[]impl.Item{itemOf(1, 29, 1)}, 1, []int{8}, true},
		{[]impl.Item{itemOf(1, 1, 1), itemOf(1, 3, 1), itemOf(1, 6, 1), itemOf(1, 10, 1)}, 1, []int{1, 2, 3, 4}, true}, {[]impl.Item{itemOf(1, 2, 1), itemOf(1, 4, 1), itemOf(1, 7, 1), itemOf(1, 11, 1)}, 1, []int{2, 3, 4, 5}, true},
		{[]impl.Item{itemOf(1, 4, 1), itemOf(1, 12, 1), itemOf(1, 24, 1), itemOf(1, 40, 1)}, 2, []int{1, 2, 3, 4}, true}, {[]impl.Item{itemOf(1, 5, 1), itemOf(1, 13, 1), itemOf(1, 25, 1), itemOf(1, 41, 1)}, 2, []int{2, 3, 4, 5}, true},
		{[]impl.Item{greatItem, leastItem, greatItem, itemOf(1, 99, 1)}, 9, []int{1, 1, 1, 2}, true}, {[]impl.Item{onePiece(81), onePiece(82)}, 9, []int{1, 2}, true},
		{nil, 1, nil, false}, {slices.Repeat([]impl.Item{leastItem}, 5), 1, nil, false}, {[]impl.Item{leastItem}, 0, nil, false}, {[]impl.Item{leastItem}, -1, nil, false}, {[]impl.Item{leastItem}, 33, nil, false}, {[]impl.Item{leastItem, {}}, 1, nil, false},
	} {
		factors, ok := impl.BestFactors(x.family, x.base)
		checkList(t, fmt.Sprint("BestFactors ", x.family, x.base), factors, ok, x.want, x.ok)
	}
}

// onePiece gives an Item of which one piece a day is needed.
func onePiece(setup int) impl.Item { return itemOf(1, setup, 1) }

func TestP8BestFactorsOfManyFamilies(t *testing.T) {
	for _, family := range manyFamilies(10) {
		for base := 1; base <= 32; base++ {
			factors, ok := impl.BestFactors(family, base)
			checkList(t, fmt.Sprint("BestFactors ", family, base), factors, ok, factorsBySteps(family, base), true)
		}
	}
}

func TestP8NoFactorsCostLess(t *testing.T) {
	var d dice = 419
	for _, family := range manyFamilies(4) {
		base := 1 + d.throw(3) + d.throw(1)*d.throw(28)
		best, _ := impl.BestFactors(family, base)
		least := familyCostBySteps(family, 5, base, best)
		for i := range 1 << (3 * len(family)) {
			factors := []int{}
			for at := range family {
				factors = append(factors, 1+i>>(3*at)&7)
			}
			if len(family) == 4 && i%5 > 0 {
				continue
			}
			cost, _ := impl.FamilyCost(family, 5, base, factors)
			if order := compared(cost, least); order < 0 || order == 0 && slices.Compare(factors, best) < 0 {
				t.Fatal("better factors", family, base, factors, best)
			}
		}
	}
}

func TestP8BestBaseExamples(t *testing.T) {
	for _, x := range []struct {
		family  []impl.Item
		joint   int
		base    int
		factors []int
		ok      bool
	}{
		{[]impl.Item{itemOf(2, 9, 1)}, 9, 4, []int{1}, true}, {[]impl.Item{itemOf(2, 9, 1)}, 0, 1, []int{3}, true},
		{[]impl.Item{itemOf(1, 2, 1)}, 0, 1, []int{2}, true}, {[]impl.Item{itemOf(1, 99, 1)}, 0, 2, []int{7}, true}, {[]impl.Item{itemOf(1, 99, 1)}, 1, 14, []int{1}, true}, {[]impl.Item{itemOf(1, 99, 1)}, 99, 20, []int{1}, true},
		{[]impl.Item{onePiece(2)}, 1, 2, []int{1}, true}, {[]impl.Item{onePiece(5)}, 1, 3, []int{1}, true}, {[]impl.Item{onePiece(1)}, 99, 14, []int{1}, true}, {[]impl.Item{onePiece(1)}, 90, 13, []int{1}, true}, {[]impl.Item{onePiece(1)}, 91, 14, []int{1}, true},
		{[]impl.Item{leastItem}, 0, 1, []int{1}, true}, {[]impl.Item{greatItem, greatItem, greatItem, greatItem}, 0, 1, []int{1, 1, 1, 1}, true}, {[]impl.Item{greatItem, greatItem, greatItem, greatItem}, 99, 1, []int{1, 1, 1, 1}, true},
		{[]impl.Item{onePiece(1), onePiece(99)}, 3, 3, []int{1, 5}, true}, {[]impl.Item{onePiece(99), onePiece(99), onePiece(99), onePiece(99)}, 99, 16, []int{1, 1, 1, 1}, true},
		{nil, 0, 0, nil, false}, {slices.Repeat([]impl.Item{leastItem}, 5), 0, 0, nil, false}, {[]impl.Item{leastItem}, -1, 0, nil, false}, {[]impl.Item{leastItem}, 100, 0, nil, false}, {[]impl.Item{{}}, 0, 0, nil, false},
	} {
		checkBase(t, x.family, x.joint, x.base, x.factors, x.ok)
	}
}

func TestP8BestBaseOfManyFamilies(t *testing.T) {
	var d dice = 421
	for _, family := range manyFamilies(7) {
		for _, joint := range []int{0, 99, d.throw(20)} {
			base := baseBySteps(family, joint)
			checkBase(t, family, joint, base, factorsBySteps(family, base), true)
		}
	}
}

func TestP8EqualBases(t *testing.T) {
	equal := 0
	for setup := 1; setup <= 40; setup++ {
		for joint := range 40 {
			family := []impl.Item{onePiece(setup)}
			best, factors, _ := impl.BestBase(family, joint)
			least := familyCostBySteps(family, joint, best, factors)
			for base := 1; base <= 32; base++ {
				for factor := 1; factor <= 8; factor++ {
					order := compared(familyCostBySteps(family, joint, base, []int{factor}), least)
					if order < 0 || order == 0 && (base < best || base == best && factor < factors[0]) {
						t.Fatal("a better base", family, joint, base, factor, best, factors)
					}
					if order == 0 && base > best {
						equal++
					}
				}
			}
		}
	}
	if equal < 20 {
		t.Error("never two equal bases", equal)
	}
}

func TestP8NoBaseCostsLess(t *testing.T) {
	var d dice = 431
	for range 40 {
		family := d.thrownFamily(2, 3, 60, 2, 0)
		joint := d.throw(30)
		base, factors, _ := impl.BestBase(family, joint)
		least, _ := impl.FamilyCost(family, joint, base, factors)
		for other := 1; other <= 32; other++ {
			for i := range 64 {
				list := []int{1 + i&7, 1 + i>>3}
				if cost, ok := impl.FamilyCost(family, joint, other, list); !ok || compared(cost, least) < 0 {
					t.Fatal("a better base", family, joint, other, list, base, factors)
				}
			}
		}
	}
}

func TestP8JointSetupsBasesAndFactorsThatAreNone(t *testing.T) {
	family := []impl.Item{itemOf(2, 9, 1), leastItem, greatItem}
	fine := []int{1, 2, 3}
	for _, joint := range beyond(99) {
		cost, ok := impl.FamilyCost(family, joint, 3, fine)
		checkFraction(t, fmt.Sprint("FamilyCost of the joint setup ", joint), cost, ok, [2]int{}, false)
		checkBase(t, family, joint, 0, nil, false)
	}
	for _, base := range append(beyond(32), 0) {
		cost, ok := impl.FamilyCost(family, 3, base, fine)
		checkFraction(t, fmt.Sprint("FamilyCost of the base ", base), cost, ok, [2]int{}, false)
		factors, ok := impl.BestFactors(family, base)
		checkList(t, fmt.Sprint("BestFactors of the base ", base), factors, ok, nil, false)
	}
	for at := range fine {
		for _, factor := range append(beyond(8), 0) {
			factors := slices.Clone(fine)
			factors[at] = factor
			cost, ok := impl.FamilyCost(family, 3, 3, factors)
			checkFraction(t, fmt.Sprint("FamilyCost of the factors ", factors), cost, ok, [2]int{}, false)
		}
	}
	for _, factors := range [][]int{nil, {}, {1}, {1, 2}, {1, 2, 3, 4}, make([]int, 3), slices.Repeat([]int{1}, 5000)} {
		cost, ok := impl.FamilyCost(family, 3, 3, factors)
		checkFraction(t, fmt.Sprint("FamilyCost of so many factors ", len(factors)), cost, ok, [2]int{}, false)
	}
}

func TestP8CommonExamples(t *testing.T) {
	x := impl.Item{Daily: 2, Setup: 9, Hold: 1, Make: 4, Pause: 1}
	tight := tightFamilies()
	for _, y := range []struct {
		family []impl.Item
		cycle  int
		fits   bool
		cost   [2]int
	}{
		{[]impl.Item{x}, 1, false, [2]int{19, 2}}, {[]impl.Item{x}, 2, true, [2]int{11, 2}}, {[]impl.Item{x}, 4, true, [2]int{17, 4}}, {[]impl.Item{x}, 5, true, [2]int{43, 10}}, {[]impl.Item{x}, 400, true, [2]int{80009, 400}},
		{[]impl.Item{leastItem}, 1, true, [2]int{5, 4}}, {[]impl.Item{leastItem, leastItem}, 1, true, [2]int{5, 2}}, {[]impl.Item{leastItem, leastItem, leastItem}, 1, false, [2]int{15, 4}}, {[]impl.Item{leastItem, leastItem, leastItem}, 400, false, [2]int{120003, 400}},
		{[]impl.Item{x, leastItem}, 400, false, [2]int{12001, 40}}, {[]impl.Item{{Daily: 1, Setup: 4, Hold: 1, Make: 3, Pause: 2}}, 2, false, [2]int{8, 3}}, {[]impl.Item{{Daily: 1, Setup: 4, Hold: 1, Make: 3, Pause: 2}}, 3, true, [2]int{7, 3}}, {[]impl.Item{greatItem}, 17, false, [2]int{13104, 17}}, {[]impl.Item{greatItem}, 18, true, [2]int{1631, 2}},
		{slices.Repeat([]impl.Item{greatItem}, 4), 400, false, [2]int{7200099, 100}}, {tight[0], 399, false, [2]int{8438093, 15960}}, {tight[0], 400, true, [2]int{212011, 400}},
		{[]impl.Item{{Daily: 10, Setup: 99, Hold: 9, Make: 39}, {Daily: 9, Setup: 98, Hold: 9, Make: 38}, {Daily: 9, Setup: 97, Hold: 9, Make: 37}, {Daily: 9, Setup: 96, Hold: 9, Make: 35}}, 399, true, [2]int{63867306497, 1279460}},
	} {
		fits, ok := impl.CycleFits(y.family, y.cycle)
		checkAnswer(t, fmt.Sprint("CycleFits ", y.family, y.cycle), fits, ok, y.fits, true)
		cost, ok := impl.CommonCost(y.family, y.cycle)
		checkFraction(t, fmt.Sprint("CommonCost ", y.family, y.cycle), cost, ok, y.cost, true)
	}
}

func TestP8CommonOfManyFamilies(t *testing.T) {
	fitting, not := 0, 0
	for _, family := range append(manyFamilies(12), tightFamilies()...) {
		for cycle := 1; cycle <= 400; cycle++ {
			want := fitsBySteps(family, cycle)
			if want {
				fitting++
			} else {
				not++
			}
			fits, ok := impl.CycleFits(family, cycle)
			checkAnswer(t, fmt.Sprint("CycleFits ", family, cycle), fits, ok, want, true)
			if cycle > 20 && cycle < 395 && cycle%13 > 0 {
				continue
			}
			cost, ok := impl.CommonCost(family, cycle)
			checkFraction(t, fmt.Sprint("CommonCost ", family, cycle), cost, ok, commonCostBySteps(family, cycle), true)
			if !isLowest(cost) {
				t.Error("no fraction", family, cycle, cost)
			}
		}
	}
	if fitting < 10000 || not < 10000 {
		t.Error("too few cycles that fit, or do not", fitting, not)
	}
}

func TestP8LeastCommonExamples(t *testing.T) {
	made := func(daily, make, pause int) impl.Item {
		return impl.Item{Daily: daily, Setup: 9, Hold: 1, Make: make, Pause: pause}
	}
	for _, x := range []struct {
		family []impl.Item
		want   int
		ok     bool
	}{
		{[]impl.Item{made(2, 4, 1)}, 2, true}, {[]impl.Item{made(2, 4, 0)}, 1, true}, {[]impl.Item{made(1, 3, 2)}, 3, true}, {[]impl.Item{made(2, 3, 2)}, 6, true}, {[]impl.Item{made(20, 21, 9)}, 189, true}, {[]impl.Item{made(20, 40, 9)}, 18, true}, {[]impl.Item{made(1, 40, 9)}, 10, true},
		{[]impl.Item{made(1, 2, 0), made(1, 2, 0)}, 1, true}, {[]impl.Item{made(1, 2, 1), made(1, 2, 0)}, 0, false}, {[]impl.Item{made(1, 2, 0), made(1, 2, 1)}, 0, false}, {[]impl.Item{made(1, 2, 0), made(20, 39, 0)}, 0, false}, {[]impl.Item{made(1, 3, 0), made(1, 3, 0), made(1, 3, 0)}, 1, true}, {[]impl.Item{made(1, 3, 0), made(1, 3, 0), made(1, 3, 1)}, 0, false},
		{[]impl.Item{made(1, 10, 1), made(7, 8, 9)}, 400, true}, {[]impl.Item{made(1, 10, 2), made(7, 8, 9)}, 0, false}, {[]impl.Item{made(1, 10, 0), made(7, 8, 9)}, 360, true}, {[]impl.Item{made(1, 25, 0), made(19, 20, 4)}, 400, true}, {[]impl.Item{made(1, 20, 5), made(15, 16, 0)}, 400, true},
		{[]impl.Item{made(1, 38, 9), made(16, 17, 4)}, 400, true}, {[]impl.Item{made(1, 11, 9), made(13, 15, 8)}, 0, false}, {[]impl.Item{made(1, 4, 1), made(1, 4, 1), made(1, 4, 1)}, 12, true}, {[]impl.Item{made(1, 4, 0), made(1, 4, 0), made(1, 4, 0), made(1, 4, 0)}, 1, true},
		{[]impl.Item{made(1, 8, 9), made(1, 8, 9), made(1, 8, 9), made(1, 8, 9)}, 72, true}, {slices.Repeat([]impl.Item{made(20, 40, 9)}, 4), 0, false},
		{nil, 0, false}, {slices.Repeat([]impl.Item{made(1, 40, 0)}, 5), 0, false}, {[]impl.Item{made(2, 4, 1), {}}, 0, false}, {[]impl.Item{made(4, 4, 0)}, 0, false}, {[]impl.Item{made(2, 41, 0)}, 0, false},
	} {
		got, ok := impl.LeastCommon(x.family)
		checkNumber(t, fmt.Sprint("LeastCommon ", x.family), got, ok, x.want, x.ok)
		if _, ok := impl.BestCommon(x.family); ok != x.ok {
			t.Error("BestCommon", x.family, ok)
		}
	}
}

func TestP8BestCommonExamples(t *testing.T) {
	made := func(daily, setup, hold, make, pause int) impl.Item {
		return impl.Item{Daily: daily, Setup: setup, Hold: hold, Make: make, Pause: pause}
	}
	for _, x := range []struct {
		family []impl.Item
		want   int
		ok     bool
	}{
		{[]impl.Item{made(2, 9, 1, 4, 1)}, 4, true}, {[]impl.Item{made(2, 9, 1, 4, 0)}, 4, true}, {[]impl.Item{made(2, 9, 1, 4, 2)}, 4, true}, {[]impl.Item{made(2, 9, 1, 4, 3)}, 6, true}, {[]impl.Item{made(2, 9, 1, 4, 9)}, 18, true},
		{[]impl.Item{made(1, 1, 2, 2, 0)}, 1, true}, {[]impl.Item{made(1, 3, 2, 2, 0)}, 2, true}, {[]impl.Item{made(1, 3, 2, 2, 1)}, 2, true}, {[]impl.Item{made(1, 6, 2, 2, 1)}, 3, true}, {[]impl.Item{made(1, 7, 2, 2, 1)}, 4, true}, // two cycles are best, and one
		{[]impl.Item{made(1, 99, 1, 2, 0)}, 20, true}, {[]impl.Item{made(1, 99, 1, 2, 9)}, 20, true}, {[]impl.Item{made(1, 99, 1, 2, 0), made(1, 99, 1, 2, 0)}, 20, true}, {[]impl.Item{made(20, 1, 9, 40, 0)}, 1, true},
		{[]impl.Item{made(20, 99, 9, 21, 9)}, 189, true}, {[]impl.Item{made(1, 5, 1, 10, 1), made(7, 6, 2, 8, 9)}, 400, true}, {[]impl.Item{made(1, 5, 1, 10, 2), made(7, 6, 2, 8, 9)}, 0, false}, {[]impl.Item{made(1, 5, 1, 2, 0), made(1, 6, 2, 2, 1)}, 0, false},
		{nil, 0, false}, {slices.Repeat([]impl.Item{leastItem}, 5), 0, false}, {[]impl.Item{leastItem, {}}, 0, false},
	} {
		got, ok := impl.BestCommon(x.family)
		checkNumber(t, fmt.Sprint("BestCommon ", x.family), got, ok, x.want, x.ok)
	}
}

func TestP8LeastAndBestCommonOfManyFamilies(t *testing.T) {
	none, later, some := 0, 0, 0
	for _, family := range append(manyFamilies(12), tightFamilies()...) {
		fitting := fittingCycles(family)
		least := 0
		if len(fitting) > 0 {
			least = fitting[0]
		} else {
			none++
		}
		best := firstLeast(fitting, func(cycle int) [2]int { return commonCostBySteps(family, cycle) })
		got, ok := impl.LeastCommon(family)
		checkNumber(t, fmt.Sprint("LeastCommon ", family), got, ok, least, least > 0)
		got, ok = impl.BestCommon(family)
		checkNumber(t, fmt.Sprint("BestCommon ", family), got, ok, best, least > 0)
		if best > least {
			later++
		} else if least > 1 {
			some++
		}
		for cycle := 1; cycle <= 400 && ok; cycle++ {
			if fits, ok := impl.CycleFits(family, cycle); !ok || fits != (cycle >= least) {
				t.Error("fits below the least one, or not above it", family, cycle, least)
			}
		}
	}
	if none < 20 || later < 20 || some < 20 {
		t.Error("too few families of a kind", none, later, some)
	}
}

func TestP8CommonCostsOfGreatDenominators(t *testing.T) {
	var d dice = 433
	for _, makes := range [][]int{{39, 38, 37, 35}, {40, 39, 37, 31}, {37, 36, 35, 31}, {39, 37, 35, 34}, {40, 37, 33, 31}, {31, 37, 29, 23}} {
		for i := range 8 {
			var family []impl.Item
			for _, most := range makes {
				family = append(family, impl.Item{Daily: most/4 - d.throw(2), Setup: 1 + d.throw(98), Hold: 9 - d.throw(2), Make: most, Pause: i})
			}
			fitting := fittingCycles(family)
			best := firstLeast(fitting, func(cycle int) [2]int { return commonCostBySteps(family, cycle) })
			got, ok := impl.BestCommon(family)
			checkNumber(t, fmt.Sprint("BestCommon ", family), got, ok, best, len(fitting) > 0)
			for _, cycle := range []int{397, 399, 400} {
				cost, ok := impl.CommonCost(family, cycle)
				checkFraction(t, fmt.Sprint("CommonCost ", family, cycle), cost, ok, commonCostBySteps(family, cycle), true)
			}
		}
	}
}

func TestP8CommonCyclesThatAreNone(t *testing.T) {
	for _, family := range [][]impl.Item{{leastItem}, {itemOf(2, 9, 1), leastItem}, slices.Repeat([]impl.Item{greatItem}, 4)} {
		for _, cycle := range append(beyond(400), 0) {
			fits, ok := impl.CycleFits(family, cycle)
			checkAnswer(t, fmt.Sprint("CycleFits ", family, cycle), fits, ok, false, false)
			cost, ok := impl.CommonCost(family, cycle)
			checkFraction(t, fmt.Sprint("CommonCost ", family, cycle), cost, ok, [2]int{}, false)
		}
	}
}

func TestP8ListsThatAreNoFamilies(t *testing.T) {
	for _, family := range noFamilies() {
		for _, calls := range [][]lotCall{
			cycleCalls(cycleArgs{family: family, joint: 1, base: 1, common: 40, factors: slices.Repeat([]int{1}, len(family))}),
			cycleCalls(cycleArgs{family: family, base: 32, common: 400, factors: []int{1}}),
		} {
			for _, call := range calls {
				if isOfFamilies(call.name) {
					checkAllFail(t, []lotCall{call})
				}
			}
		}
	}
}

// daysOf gives a mask of the first 64 days on which a visit is made.
func daysOf(cycle, offset int) uint64 {
	var days uint64
	for day := offset; day < 64; day += cycle {
		days |= 1 << day
	}
	return days
}

// clashes gives a mask of the offsets with which another visit is once made on the same day.
func clashes(cycle, offset, other int) uint64 {
	var found uint64
	for day := offset; day < cycle*other; day += cycle {
		found |= 1 << (day % other)
	}
	return found
}

// freeByDays looks at all days on which two visits may be made.
func freeByDays(cycles, offsets []int) bool {
	for i := range cycles {
		for j := range i {
			if clashes(cycles[i], offsets[i], cycles[j])>>offsets[j]&1 == 1 {
				return false
			}
		}
	}
	return true
}

// freeOnAllDays looks at each day up to the one from which all is as from the first day on.
func freeOnAllDays(cycles, offsets []int) bool {
	days := 1
	for _, cycle := range cycles {
		days *= cycle
	}
	for day := range days {
		visits := 0
		for i, cycle := range cycles {
			if day%cycle == offsets[i] {
				visits++
			}
		}
		if visits > 1 {
			return false
		}
	}
	return true
}

// countedLists gives all lists with a number below each of some limits, in ascending order.
func countedLists(limits []int) [][]int {
	found := [][]int{{}}
	for _, limit := range limits {
		var next [][]int
		for _, list := range found {
			for x := range limit {
				next = append(next, append(slices.Clip(list), x))
			}
		}
		found = next
	}
	return found
}

// listsFrom gives all lists of at most so many numbers out of a list.
func listsFrom(numbers []int, most int) [][]int {
	var found [][]int
	for n := range most + 1 {
		for _, places := range countedLists(slices.Repeat([]int{len(numbers)}, n)) {
			list := []int{}
			for _, at := range places {
				list = append(list, numbers[at])
			}
			found = append(found, list)
		}
	}
	return found
}

// firstByAll looks at all offsets.
func firstByAll(cycles []int) ([]int, bool) {
	for _, offsets := range countedLists(cycles) {
		if freeOnAllDays(cycles, offsets) {
			return offsets, true
		}
	}
	return nil, false
}

// firstOnDays gives the first offsets behind some days that are taken already. All is on the 64th
// day, or on the day before that is a multiple of all cycles, as it is on the day 0.
func firstOnDays(cycles []int, period int, taken uint64) ([]int, bool) {
	asked := 0
	for _, cycle := range cycles {
		asked += period / cycle
	}
	if asked > period-bits.OnesCount64(taken<<(64-period)) {
		return nil, false
	}
	if len(cycles) == 0 {
		return nil, true
	}
	for offset := range cycles[0] {
		days := daysOf(cycles[0], offset)
		if days&taken > 0 {
			continue
		}
		if rest, ok := firstOnDays(cycles[1:], period, taken|days); ok {
			return append([]int{offset}, rest...), true
		}
	}
	return nil, false
}

// firstByClashes gives the first offsets that are left, some of each.
func firstByClashes(cycles []int, left []uint64) ([]int, bool) {
	if len(cycles) == 0 {
		return nil, true
	}
	for offset := range cycles[0] {
		if left[0]>>offset&1 == 0 {
			continue
		}
		none := false
		next := slices.Clone(left[1:])
		for i, other := range cycles[1:] {
			next[i] &^= clashes(cycles[0], offset, other)
			none = none || next[i]<<(64-other) == 0
		}
		if none {
			continue
		}
		if rest, ok := firstByClashes(cycles[1:], next); ok {
			return append([]int{offset}, rest...), true
		}
	}
	return nil, false
}

// noTimetables gives lists of cycles and offsets that are none, and whether the cycles are.
func noTimetables() []timetable {
	var bad []timetable
	good := []timetable{{[]int{2}, []int{1}, false}, {[]int{2, 4}, []int{0, 1}, false}, {[]int{64, 1, 3, 64, 64}, []int{63, 0, 2, 0, 5}, false}, {[]int{1, 1, 1, 1, 1}, []int{0, 0, 0, 0, 0}, false}}
	for _, x := range good {
		for at := range x.cycles {
			for _, number := range append(beyond(64), 0) {
				y := timetable{slices.Clone(x.cycles), x.offsets, true}
				y.cycles[at] = number
				bad = append(bad, y)
			}
			for _, number := range append(beyond(64), x.cycles[at], 64, x.cycles[at]+1, -x.cycles[at]) {
				y := timetable{x.cycles, slices.Clone(x.offsets), false}
				y.offsets[at] = number
				bad = append(bad, y)
			}
		}
		bad = append(bad, timetable{x.cycles, nil, false}, timetable{x.cycles, x.offsets[1:], false}, timetable{x.cycles, append(slices.Clone(x.offsets), 0), false}, timetable{x.cycles, make([]int, 5000), false})
	}
	for _, n := range []int{6, 7, 5000} {
		bad = append(bad, timetable{slices.Repeat([]int{64}, n), rise(0, 1, n), true}, timetable{slices.Repeat([]int{1}, n), make([]int, n), true}, timetable{make([]int, n), make([]int, n), true}, timetable{slices.Repeat([]int{64}, n), nil, true})
	}
	return append(bad, timetable{nil, []int{0}, false}, timetable{[]int{}, []int{0, 0}, false}, timetable{[]int{0}, []int{0}, true}, timetable{[]int{0}, nil, true})
}

// timetable is lists of cycles and offsets that may be none.
type timetable struct {
	cycles, offsets []int
	noCycles        bool
}

func TestP8IsFreeExamples(t *testing.T) {
	for _, x := range []struct {
		cycles, offsets []int
		want, ok        bool
	}{
		{nil, nil, true, true}, {[]int{1}, []int{0}, true, true}, {[]int{64}, []int{63}, true, true}, {[]int{2, 4}, []int{0, 1}, true, true}, {[]int{2, 4}, []int{0, 3}, true, true}, {[]int{2, 4}, []int{0, 0}, false, true}, {[]int{2, 4}, []int{0, 2}, false, true}, {[]int{2, 4}, []int{1, 3}, false, true}, {[]int{4, 2}, []int{3, 1}, false, true}, {[]int{4, 2}, []int{1, 0}, true, true},
		{[]int{2, 3}, []int{0, 1}, false, true}, {[]int{2, 3}, []int{1, 2}, false, true}, {[]int{6, 9}, []int{5, 1}, true, true}, {[]int{6, 9}, []int{5, 2}, false, true}, {[]int{6, 9}, []int{0, 8}, true, true}, {[]int{6, 9}, []int{0, 6}, false, true}, {[]int{6, 10, 15}, []int{0, 1, 2}, true, true}, {[]int{6, 10, 15}, []int{0, 1, 1}, false, true}, {[]int{6, 10, 15}, []int{0, 1, 11}, false, true},
		{[]int{1, 1}, []int{0, 0}, false, true}, {[]int{64, 64}, []int{0, 63}, true, true}, {[]int{64, 64}, []int{63, 63}, false, true}, {[]int{64, 64, 64, 64, 64}, []int{4, 3, 2, 1, 0}, true, true}, {[]int{64, 64, 64, 64, 64}, []int{4, 3, 2, 1, 4}, false, true}, {[]int{64, 64, 64, 64, 64}, []int{4, 3, 2, 1, 1}, false, true}, {[]int{2, 4, 8, 16, 16}, []int{0, 1, 3, 7, 15}, true, true}, {[]int{2, 4, 8, 16, 16}, []int{0, 1, 3, 7, 14}, false, true},
		{[]int{2}, []int{2}, false, false}, {[]int{2}, []int{-1}, false, false}, {[]int{2}, nil, false, false}, {nil, []int{0}, false, false}, {[]int{0}, []int{0}, false, false}, {[]int{65}, []int{0}, false, false}, {[]int{64, 64, 64, 64, 64, 64}, []int{0, 1, 2, 3, 4, 5}, false, false}, {[]int{2, 2}, []int{0, 2}, false, false},
	} {
		free, ok := impl.IsFree(x.cycles, x.offsets)
		checkAnswer(t, fmt.Sprint("IsFree ", x.cycles, x.offsets), free, ok, x.want, x.ok)
	}
}

func TestP8IsFreeOfAllSmallTimetables(t *testing.T) {
	for _, cycles := range listsFrom([]int{1, 2, 3, 4, 5, 6}, 3) {
		for _, offsets := range countedLists(cycles) {
			free, ok := impl.IsFree(cycles, offsets)
			checkAnswer(t, fmt.Sprint("IsFree ", cycles, offsets), free, ok, freeOnAllDays(cycles, offsets), true)
		}
	}
}

// thrownTimetable gives up to five cycles, often with common divisors, and offsets.
func (d *dice) thrownTimetable(n int) timetable {
	var x timetable
	shared := 1 + d.throw(11)
	for range n {
		cycle := shared * (1 + d.throw(64/shared-1))
		x.cycles, x.offsets = append(x.cycles, cycle), append(x.offsets, d.throw(cycle-1))
	}
	return x
}

func TestP8IsFreeOfThrownTimetables(t *testing.T) {
	var d dice = 439
	found := 0
	for i := range 20000 {
		x := d.thrownTimetable(i % 6)
		want := freeByDays(x.cycles, x.offsets)
		free, ok := impl.IsFree(x.cycles, x.offsets)
		checkAnswer(t, fmt.Sprint("IsFree ", x.cycles, x.offsets), free, ok, want, true)
		share, _ := impl.ShareOf(x.cycles)
		if want && i%6 > 1 {
			found++
		}
		if want && share[0] > share[1] {
			t.Error("free, but too much", x, share)
		}
	}
	if found < 1000 {
		t.Error("too few free timetables", found)
	}
}

func TestP8IsFreeOfAllPairs(t *testing.T) {
	for one := 1; one <= 64; one++ {
		for other := 1; other <= one; other++ {
			for _, offset := range []int{0, one / 3, one - 1} {
				mask := clashes(one, offset, other)
				for at := range other {
					free, ok := impl.IsFree([]int{one, other}, []int{offset, at})
					if !ok || free != (mask>>at&1 == 0) {
						t.Fatal("IsFree", one, other, offset, at, free)
					}
				}
			}
		}
	}
}

func TestP8ShareExamples(t *testing.T) {
	for _, x := range []struct {
		cycles []int
		want   [2]int
		ok     bool
	}{
		{nil, [2]int{0, 1}, true}, {[]int{}, [2]int{0, 1}, true}, {[]int{1}, [2]int{1, 1}, true}, {[]int{64}, [2]int{1, 64}, true}, {[]int{2, 4}, [2]int{3, 4}, true}, {[]int{2, 4, 4}, [2]int{1, 1}, true}, {[]int{2, 3, 6}, [2]int{1, 1}, true}, {[]int{6, 3}, [2]int{1, 2}, true}, {[]int{1, 1, 1, 1, 1}, [2]int{5, 1}, true}, {[]int{1, 2}, [2]int{3, 2}, true},
		{[]int{64, 64, 64, 64, 64}, [2]int{5, 64}, true}, {[]int{10, 15, 6}, [2]int{1, 3}, true}, {[]int{64, 63, 61, 59, 55}, addedUp([2]int{1, 64}, [2]int{1, 63}, [2]int{1, 61}, [2]int{1, 59}, [2]int{1, 55}), true},
		{[]int{0}, [2]int{}, false}, {[]int{65}, [2]int{}, false}, {[]int{-2}, [2]int{}, false}, {[]int{2, 0}, [2]int{}, false}, {[]int{64, 64, 64, 64, 64, 64}, [2]int{}, false}, {make([]int, 6), [2]int{}, false},
	} {
		share, ok := impl.ShareOf(x.cycles)
		checkFraction(t, fmt.Sprint("ShareOf ", x.cycles), share, ok, x.want, x.ok)
	}
}

func TestP8ShareOfThrownCycles(t *testing.T) {
	var d dice = 443
	for i := range 4000 {
		cycles := d.thrownTimetable(i % 6).cycles
		parts := [][2]int{}
		for _, cycle := range cycles {
			parts = append(parts, [2]int{1, cycle})
		}
		share, ok := impl.ShareOf(cycles)
		checkFraction(t, fmt.Sprint("ShareOf ", cycles), share, ok, addedUp(parts...), true)
		if !isLowest(share) {
			t.Error("no fraction", cycles, share)
		}
	}
}

func TestP8FindOffsetsExamples(t *testing.T) {
	for _, x := range []struct {
		cycles, want []int
		ok           bool
	}{
		{nil, nil, true}, {[]int{1}, []int{0}, true}, {[]int{64}, []int{0}, true}, {[]int{2, 4, 4}, []int{0, 1, 3}, true}, {[]int{4, 2, 4}, []int{0, 1, 2}, true}, {[]int{4, 4, 2}, []int{0, 2, 1}, true}, {[]int{2, 2}, []int{0, 1}, true}, {[]int{2, 2, 2}, nil, false}, {[]int{2, 2, 64}, nil, false}, {[]int{1, 1}, nil, false}, {[]int{1, 64}, nil, false}, {[]int{64, 1}, nil, false},
		{[]int{2, 3}, nil, false}, {[]int{64, 63}, nil, false}, {[]int{4, 6}, []int{0, 1}, true}, {[]int{4, 6, 6}, []int{0, 1, 3}, true}, {[]int{4, 6, 10}, nil, false}, {[]int{6, 10, 15}, []int{0, 1, 2}, true}, {[]int{6, 9, 15}, []int{0, 1, 2}, true}, {[]int{6, 9, 15, 21}, nil, false}, {[]int{6, 9, 15, 12}, []int{0, 1, 2, 3}, true}, {[]int{6, 9, 15, 12, 18}, []int{0, 1, 2, 3, 4}, true}, {[]int{6, 9, 15, 6}, []int{0, 1, 2, 3}, true}, {[]int{6, 6, 9, 15}, []int{0, 3, 1, 2}, true},
		{[]int{8, 4, 2}, []int{0, 2, 1}, true}, {[]int{16, 8, 4, 2}, []int{0, 4, 2, 1}, true}, {[]int{64, 32, 16, 8, 4}, []int{0, 1, 2, 4, 3}, true}, {[]int{64, 16, 8, 4, 2}, []int{0, 8, 4, 2, 1}, true}, {[]int{2, 4, 8, 16, 16}, []int{0, 1, 3, 7, 15}, true}, {[]int{2, 4, 8, 16, 32}, []int{0, 1, 3, 7, 15}, true}, {[]int{16, 2, 16, 4, 8}, []int{0, 1, 8, 2, 4}, true},
		{[]int{3, 3, 3}, []int{0, 1, 2}, true}, {[]int{3, 3, 3, 3}, nil, false}, {[]int{5, 5, 5, 5, 5}, []int{0, 1, 2, 3, 4}, true}, {[]int{4, 4, 4, 4, 4}, nil, false}, {[]int{64, 64, 64, 64, 64}, []int{0, 1, 2, 3, 4}, true}, {[]int{64, 64, 64, 64, 63}, nil, false}, {[]int{62, 64, 64, 64, 62}, []int{0, 1, 3, 5, 2}, true}, {[]int{62, 64, 64, 64, 58}, nil, false},
		{[]int{0}, nil, false}, {[]int{65}, nil, false}, {[]int{2, -4}, nil, false}, {[]int{64, 64, 64, 64, 64, 64}, nil, false}, {make([]int, 5), nil, false},
	} {
		offsets, ok := impl.FindOffsets(x.cycles)
		checkList(t, fmt.Sprint("FindOffsets ", x.cycles), offsets, ok, x.want, x.ok)
	}
}

func TestP8FindOffsetsOfAllSmallCycles(t *testing.T) {
	for _, cycles := range append(listsFrom([]int{1, 2, 3, 4, 5, 6}, 3), listsFrom([]int{2, 3, 4, 6}, 4)...) {
		want, is := firstByAll(cycles)
		offsets, ok := impl.FindOffsets(cycles)
		checkList(t, fmt.Sprint("FindOffsets ", cycles), offsets, ok, want, is)
	}
}

func TestP8PowersOf2ShareATimetableIfTheyFit(t *testing.T) {
	all := listsFrom([]int{1, 2, 4, 8, 16, 32, 64}, 5)
	if len(all) != 1+7+49+343+2401+16807 {
		t.Fatal("not all lists", len(all))
	}
	for _, cycles := range all {
		visits := 0
		for _, cycle := range cycles {
			visits += 64 / cycle
		}
		offsets, ok := impl.FindOffsets(cycles)
		if share, fine := impl.ShareOf(cycles); !fine || ok != (visits <= 64) || ok != (share[0] <= share[1]) {
			t.Fatal("FindOffsets", cycles, offsets, ok, share)
		}
		want, is := firstOnDays(cycles, 64, 0)
		checkList(t, fmt.Sprint("FindOffsets ", cycles), offsets, ok, want, is)
		if free, fine := impl.IsFree(cycles, offsets); ok && !(free && fine) {
			t.Error("not free", cycles, offsets)
		}
	}
}

func TestP8FindOffsetsOfDivisors(t *testing.T) {
	var d dice = 449
	for _, x := range []struct {
		period int
		cycles []int
	}{{48, []int{1, 2, 3, 4, 6, 8, 12, 16, 24, 48}}, {60, []int{1, 2, 3, 4, 5, 6, 10, 12, 15, 20, 30, 60}}, {36, []int{1, 2, 3, 4, 6, 9, 12, 18, 36}}} {
		lists := listsFrom(x.cycles, 3)
		for i := range 6000 {
			cycles := []int{}
			for range 4 + i%2 {
				cycles = append(cycles, x.cycles[1+d.throw(len(x.cycles)-2)])
			}
			lists = append(lists, cycles)
		}
		for _, cycles := range lists {
			want, is := firstOnDays(cycles, x.period, 0)
			offsets, ok := impl.FindOffsets(cycles)
			checkList(t, fmt.Sprint("FindOffsets ", cycles), offsets, ok, want, is)
		}
	}
}

func TestP8FindOffsetsOfThrownCycles(t *testing.T) {
	var d dice = 457
	found, none := 0, 0
	for i := range 4000 {
		cycles := d.thrownTimetable(2 + i%4).cycles
		want, is := firstByClashes(cycles, slices.Repeat([]uint64{math.MaxUint64}, len(cycles)))
		offsets, ok := impl.FindOffsets(cycles)
		checkList(t, fmt.Sprint("FindOffsets ", cycles), offsets, ok, want, is)
		if ok {
			found++
			if !freeByDays(cycles, offsets) {
				t.Error("not free", cycles, offsets)
			}
		} else {
			none++
		}
	}
	if found < 300 || none < 300 {
		t.Error("too few with offsets, or without", found, none)
	}
}

func TestP8VisitExamples(t *testing.T) {
	for _, x := range []struct {
		cycles, offsets []int
		day             int
		want            []int
		ok              bool
	}{
		{[]int{2, 4}, []int{0, 1}, 5, []int{1}, true}, {[]int{2, 4}, []int{0, 1}, 0, []int{0}, true}, {[]int{2, 4}, []int{0, 1}, 1, []int{1}, true}, {[]int{2, 4}, []int{0, 1}, 3, nil, true}, {[]int{2, 4}, []int{0, 2}, 2, []int{0, 1}, true}, {[]int{4, 2}, []int{2, 0}, 2, []int{0, 1}, true}, {[]int{1, 1, 1, 1, 1}, []int{0, 0, 0, 0, 0}, 77, []int{0, 1, 2, 3, 4}, true},
		{nil, nil, 0, nil, true}, {nil, nil, 1000000, nil, true}, {[]int{64}, []int{0}, 1000000, []int{0}, true}, {[]int{64}, []int{63}, 999999, []int{0}, true}, {[]int{64}, []int{63}, 1000000, nil, true}, {[]int{3, 7}, []int{1, 1}, 1000000, []int{0, 1}, true}, {[]int{3, 7, 1}, []int{1, 2, 0}, 1000000, []int{0, 2}, true}, {[]int{64}, []int{63}, 63, []int{0}, true}, {[]int{64}, []int{63}, 64, nil, true},
		{[]int{2, 4}, []int{0, 1}, -1, nil, false}, {[]int{2, 4}, []int{0, 1}, 1000001, nil, false}, {[]int{2, 4}, []int{0, 1}, -4, nil, false}, {nil, nil, -1, nil, false}, {nil, nil, 1000001, nil, false}, {[]int{2, 4}, []int{0, 4}, 0, nil, false}, {[]int{2, 4}, []int{2, 0}, 0, nil, false}, {[]int{2, 4}, []int{0}, 0, nil, false}, {[]int{2}, []int{0, 1}, 0, nil, false},
	} {
		visits, ok := impl.VisitsOn(x.cycles, x.offsets, x.day)
		checkList(t, fmt.Sprint("VisitsOn ", x.cycles, x.offsets, x.day), visits, ok, x.want, x.ok)
	}
}

func TestP8BusyExamples(t *testing.T) {
	for _, x := range []struct {
		cycles, offsets []int
		days, want      int
		ok              bool
	}{
		{[]int{2, 4}, []int{0, 1}, 8, 6, true}, {[]int{2, 4}, []int{0, 1}, 0, 0, true}, {[]int{2, 4}, []int{0, 1}, 1, 1, true}, {[]int{2, 4}, []int{0, 1}, 2, 2, true}, {[]int{2, 4}, []int{0, 1}, 4, 3, true}, {[]int{2, 4}, []int{0, 1}, 1000, 750, true}, {[]int{2, 4}, []int{0, 2}, 8, 4, true}, {[]int{2, 3}, []int{0, 0}, 6, 4, true}, {[]int{2, 3}, []int{0, 0}, 1000, 667, true},
		{nil, nil, 0, 0, true}, {nil, nil, 1000, 0, true}, {[]int{1}, []int{0}, 1000, 1000, true}, {[]int{1, 1, 1, 1, 1}, []int{0, 0, 0, 0, 0}, 1000, 1000, true}, {[]int{64}, []int{63}, 63, 0, true}, {[]int{64}, []int{63}, 64, 1, true}, {[]int{64}, []int{63}, 1000, 15, true}, {[]int{64}, []int{0}, 1000, 16, true}, {[]int{37}, []int{0}, 1000, 28, true}, {[]int{37}, []int{1}, 1000, 27, true},
		{[]int{2, 4}, []int{0, 1}, -1, 0, false}, {[]int{2, 4}, []int{0, 1}, 1001, 0, false}, {nil, nil, -1, 0, false}, {nil, nil, 1001, 0, false}, {[]int{2, 4}, []int{0, 4}, 8, 0, false}, {[]int{2, 4}, []int{2, 0}, 8, 0, false}, {[]int{2, 4}, []int{0}, 8, 0, false},
	} {
		busy, ok := impl.DaysBusy(x.cycles, x.offsets, x.days)
		checkNumber(t, fmt.Sprint("DaysBusy ", x.cycles, x.offsets, x.days), busy, ok, x.want, x.ok)
	}
}

func TestP8VisitsAndBusyDaysAgree(t *testing.T) {
	var d dice = 461
	for i := range 120 {
		x := d.thrownTimetable(i % 6)
		busy := 0
		for day := range 1001 {
			got, ok := impl.DaysBusy(x.cycles, x.offsets, day)
			checkNumber(t, fmt.Sprint("DaysBusy ", x.cycles, x.offsets, day), got, ok, busy, true)
			var want []int
			for place, offset := range x.offsets {
				for ; offset < day; offset += x.cycles[place] {
				}
				if offset == day {
					want = append(want, place)
				}
			}
			visits, ok := impl.VisitsOn(x.cycles, x.offsets, day)
			checkList(t, fmt.Sprint("VisitsOn ", x.cycles, x.offsets, day), visits, ok, want, true)
			if free, _ := impl.IsFree(x.cycles, x.offsets); free && len(visits) > 1 {
				t.Error("two visits of a free timetable", x, day, visits)
			}
			busy += min(1, len(visits))
		}
	}
}

func TestP8VisitsOnDaysFarAway(t *testing.T) {
	var d dice = 463
	for i := range 2000 {
		x := d.thrownTimetable(i % 6)
		day := 1000000 - d.throw(70) - d.throw(1)*d.throw(900000)
		var want []int
		for place, offset := range x.offsets {
			if cycle := x.cycles[place]; day-day/cycle*cycle == offset {
				want = append(want, place)
			}
		}
		visits, ok := impl.VisitsOn(x.cycles, x.offsets, day)
		checkList(t, fmt.Sprint("VisitsOn ", x.cycles, x.offsets, day), visits, ok, want, true)
	}
}

func TestP8DaysThatAreNone(t *testing.T) {
	for _, x := range []timetable{{}, {[]int{1}, []int{0}, false}, {[]int{2, 4}, []int{0, 1}, false}, {[]int{64, 1, 3, 64, 64}, []int{63, 0, 2, 0, 5}, false}} {
		for _, day := range beyond(1000000) {
			visits, ok := impl.VisitsOn(x.cycles, x.offsets, day)
			checkList(t, fmt.Sprint("VisitsOn ", x, day), visits, ok, nil, false)
		}
		for _, days := range beyond(1000) {
			busy, ok := impl.DaysBusy(x.cycles, x.offsets, days)
			checkNumber(t, fmt.Sprint("DaysBusy ", x, days), busy, ok, 0, false)
		}
	}
}

func TestP8ListsThatAreNoTimetables(t *testing.T) {
	for _, x := range noTimetables() {
		for _, call := range cycleCalls(cycleArgs{cycles: x.cycles, offsets: x.offsets, day: 3, days: 9}) {
			if isOfTimetables(call.name) || x.noCycles && isOfVisits(call.name) {
				checkAllFail(t, []lotCall{call})
			}
		}
	}
}

// cycleArgs are arguments of the functions of the chapter.
type cycleArgs struct {
	x                   impl.Item
	cycle               int
	family              []impl.Item
	joint, base, common int
	factors             []int
	cycles, offsets     []int
	day, days           int
}

// cycleCalls calls each function of the chapter.
func cycleCalls(x cycleArgs) []lotCall {
	var calls []lotCall
	add := func(name string, result any, ok bool) { calls = append(calls, lotCall{name, []any{result}, ok}) }
	add("IsItem", impl.IsItem(x.x), true)
	cost, ok := impl.CycleCost(x.x, x.cycle)
	add("CycleCost", cost, ok)
	best, ok := impl.BestCycle(x.x)
	add("BestCycle", best, ok)
	power, ok := impl.PowerCycle(x.x)
	add("PowerCycle", power, ok)
	cost, ok = impl.FamilyCost(x.family, x.joint, x.base, x.factors)
	add("FamilyCost", cost, ok)
	factors, ok := impl.BestFactors(x.family, x.base)
	add("BestFactors", factors, ok)
	base, list, ok := impl.BestBase(x.family, x.joint)
	calls = append(calls, lotCall{"BestBase", []any{base, list}, ok})
	fits, ok := impl.CycleFits(x.family, x.common)
	add("CycleFits", fits, ok)
	least, ok := impl.LeastCommon(x.family)
	add("LeastCommon", least, ok)
	cost, ok = impl.CommonCost(x.family, x.common)
	add("CommonCost", cost, ok)
	common, ok := impl.BestCommon(x.family)
	add("BestCommon", common, ok)
	free, ok := impl.IsFree(x.cycles, x.offsets)
	add("IsFree", free, ok)
	share, ok := impl.ShareOf(x.cycles)
	add("ShareOf", share, ok)
	offsets, ok := impl.FindOffsets(x.cycles)
	add("FindOffsets", offsets, ok)
	visits, ok := impl.VisitsOn(x.cycles, x.offsets, x.day)
	add("VisitsOn", visits, ok)
	busy, ok := impl.DaysBusy(x.cycles, x.offsets, x.days)
	add("DaysBusy", busy, ok)
	return calls
}

// isOfFamilies tells of which functions a family is an argument.
func isOfFamilies(name string) bool {
	return slices.Contains([]string{"FamilyCost", "BestFactors", "BestBase", "CycleFits", "LeastCommon", "CommonCost", "BestCommon"}, name)
}

// isOfTimetables tells of which functions cycles and offsets are arguments.
func isOfTimetables(name string) bool {
	return slices.Contains([]string{"IsFree", "VisitsOn", "DaysBusy"}, name)
}

// isOfVisits tells of which functions the cycles of a timetable are an argument.
func isOfVisits(name string) bool {
	return isOfTimetables(name) || name == "ShareOf" || name == "FindOffsets"
}

// manyCycleArgs gives arguments of which all are valid, and others of which some are not.
func manyCycleArgs() []cycleArgs {
	var d dice = 467
	items, families, tables := noItems(), noFamilies(), noTimetables()
	var found []cycleArgs
	for i := range 250 {
		n := 1 + i%4
		family := d.thrownFamily(n, 20/n, 99, 9, 9)
		table := d.thrownTimetable(i % 6)
		good := cycleArgs{family[0], 1 + d.throw(63), family, d.throw(99), 1 + d.throw(31), 1 + d.throw(399), d.thrownFactors(n), table.cycles, table.offsets, d.throw(1000000), d.throw(1000)}
		found = append(found, good)
		x := good
		x.x, x.family = items[d.throw(len(items)-1)], families[d.throw(len(families)-1)]
		bad := tables[d.throw(len(tables)-1)]
		x.cycles, x.offsets = bad.cycles, bad.offsets
		found = append(found, x)
		x = good
		x.cycle, x.joint, x.base, x.common, x.day, x.days = beyond(64)[i%10], beyond(99)[i%10], beyond(32)[i%10], beyond(400)[i%10], beyond(1000000)[i%10], beyond(1000)[i%10]
		found = append(found, x)
		x = good
		x.factors = append(slices.Clone(x.factors), 1)
		x.offsets = append(slices.Clone(x.offsets), 0)
		x.family = append(slices.Clone(x.family), slices.Repeat([]impl.Item{greatItem}, 5-n)...)
		found = append(found, x)
		x = good
		x.factors = slices.Clone(x.factors)
		x.factors[d.throw(n-1)] = append(beyond(8), 0)[i%11]
		x.x.Make = x.x.Daily
		found = append(found, x)
	}
	return append(found, cycleArgs{}, cycleArgs{cycle: 1, base: 1, common: 1})
}

func TestP13CycleFunctionsFailWithoutAnItem(t *testing.T) {
	for _, x := range noItems() {
		for _, cycle := range []int{0, 1, 3, 64} {
			for i, call := range cycleCalls(cycleArgs{x: x, cycle: cycle})[:4] {
				if i > 0 {
					checkAllFail(t, []lotCall{call})
				} else if call.results[0] != false {
					t.Error("an Item", x)
				}
			}
		}
	}
}

func TestP13WhereCycleFunctionsFailAllResultsAreZero(t *testing.T) {
	var calls []lotCall
	for _, x := range manyCycleArgs() {
		calls = append(calls, cycleCalls(x)...)
	}
	checkEachFailsAndDoesNot(t, calls, 16, "IsItem")
}

// roomyCycles gives the same arguments in memory that goes on behind them, and all this memory.
func roomyCycles(x cycleArgs) (cycleArgs, [][]int) {
	memory := make([][]int, 3)
	x.factors, memory[0] = withRoom(x.factors)
	x.cycles, memory[1] = withRoom(x.cycles)
	x.offsets, memory[2] = withRoom(x.offsets)
	x.family = append(slices.Clone(x.family), impl.Item{Daily: 91}, impl.Item{Setup: 92}, impl.Item{Hold: 93})[:len(x.family)]
	return x, memory
}

func TestP13CycleFunctionsLeaveTheirArguments(t *testing.T) {
	for _, x := range manyCycleArgs() {
		given, memory := roomyCycles(x)
		family, lists := slices.Clone(given.family[:cap(given.family)]), copyTable(memory)
		calls := cycleCalls(given)
		checkResultsAreApart(t, calls)
		if !slices.EqualFunc(memory, lists, slices.Equal[[]int]) || !slices.Equal(given.family[:cap(given.family)], family) {
			t.Fatal("changed", x, given, memory)
		}
		if again := cycleCalls(x); !slices.EqualFunc(again, calls, func(a, b lotCall) bool { return a.ok == b.ok }) {
			t.Fatal("another answer", x, again, calls)
		}
	}
}

func TestP13CycleFunctionsReturnTheSameAgain(t *testing.T) {
	for _, x := range manyCycleArgs() {
		first := cycleCalls(x)
		checkResultsAreApart(t, cycleCalls(x))
		if second := cycleCalls(x); !reflect.DeepEqual(first, second) {
			t.Fatal("another result", first, second)
		}
	}
}

func TestP13NilAndEmptyListsOfCycles(t *testing.T) {
	none := cycleCalls(cycleArgs{day: 3, days: 4})
	empty := cycleCalls(cycleArgs{family: []impl.Item{}, factors: []int{}, cycles: []int{}, offsets: []int{}, day: 3, days: 4})
	if fmt.Sprint(none) != fmt.Sprint(empty) {
		t.Error("not the same", none, empty)
	}
	for _, call := range none[1:] {
		if call.ok != isOfVisits(call.name) {
			t.Error("fails, or does not", call)
		}
	}
	checkZeroBesideFalse(t, none, false)
	for _, x := range []cycleArgs{{cycles: []int{}}, {offsets: []int{}}} {
		if got := cycleCalls(x); fmt.Sprint(got) != fmt.Sprint(cycleCalls(cycleArgs{})) {
			t.Error("not the same", x, got)
		}
	}
}
