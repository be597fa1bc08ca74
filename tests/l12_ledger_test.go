package tests

import (
	"fmt"
	"math"
	"reflect"
	"slices"
	"strconv"
	"strings"
	"testing"

	"loop.example/g01111/impl"
)

// ledgerOf gives the Ledger of a Case with amounts, of which so many periods are over.
func ledgerOf(c impl.Case, now int, plan ...int) impl.Ledger {
	return impl.Ledger{Case: c, Plan: plan, Now: now}
}

func sameLedger(a, b impl.Ledger) bool {
	return sameCase(a.Case, b.Case) && slices.Equal(a.Plan, b.Plan) && a.Now == b.Now
}

func copyLedger(l impl.Ledger) impl.Ledger {
	return impl.Ledger{Case: copyCase(l.Case), Plan: slices.Clone(l.Plan), Now: l.Now}
}

// stockBehindPeriods gives the stock behind so many periods.
func stockBehindPeriods(l impl.Ledger, periods int) int {
	return totalOf(l.Plan[:periods]) - totalOf(l.Case.Need[:periods])
}

// isSomeLedger tells by the document's words whether a Ledger is valid.
func isSomeLedger(l impl.Ledger) bool {
	n := len(l.Case.Need)
	for row, most := range []int{20, 99, 9, 9} {
		if list := rowsOf(l.Case)[row]; len(list) != n || !areFrom(0, most, 8, list) {
			return false
		}
	}
	if len(l.Plan) != n || !areFrom(0, 200, 8, l.Plan) || l.Now < 0 || l.Now > n {
		return false
	}
	for t := range l.Now {
		if stockBehindPeriods(l, t+1) < 0 {
			return false
		}
	}
	return true
}

// shortOfLedger gives the short periods of a valid Ledger.
func shortOfLedger(l impl.Ledger) []int {
	var short []int
	for t := l.Now; t < len(l.Plan); t++ {
		if stockBehindPeriods(l, t+1) < 0 {
			short = append(short, t)
		}
	}
	return short
}

// costOfPeriods gives the cost of the periods of a Ledger from one on up to the one before another.
func costOfPeriods(l impl.Ledger, from, to int) int {
	cost := 0
	for t := from; t < to; t++ {
		if l.Plan[t] != 0 {
			cost += l.Case.Setup[t]
		}
		cost += l.Case.Unit[t]*l.Plan[t] + l.Case.Hold[t]*stockBehindPeriods(l, t+1)
	}
	return cost
}

// leftBySteps gives the Needs that are left when the stock is used unit by unit.
func leftBySteps(l impl.Ledger) []int {
	stock := stockBehindPeriods(l, l.Now)
	var left []int
	for _, need := range l.Case.Need[l.Now:] {
		for ; need > 0 && stock > 0; stock-- {
			need--
		}
		left = append(left, need)
	}
	return left
}

// replanBySteps gives the amounts with which a Ledger is replanned: of all lists of order periods for
// the Needs that are left, the first one with the least cost.
func replanBySteps(l impl.Ledger) []int {
	c := l.Case
	rest := impl.Case{Need: leftBySteps(l), Setup: c.Setup[l.Now:], Unit: c.Unit[l.Now:], Hold: c.Hold[l.Now:]}
	periods, _ := bestByAll(rest)
	amounts, _ := planBySteps(rest, periods)
	return slices.Concat(l.Plan[:l.Now], amounts)
}

// actBySteps gives the Ledger behind an Act by the document's words, if the Act is possible.
func actBySteps(l impl.Ledger, a impl.Act) (impl.Ledger, bool) {
	if !isSomeLedger(l) || a.Kind < 1 || a.Kind > 6 {
		return impl.Ledger{}, false
	}
	named := []int{0, 4, 2, 2, 0, 0, 0}[a.Kind]
	if slices.ContainsFunc([]int{a.A, a.B, a.C, a.D}[named:], func(x int) bool { return x != 0 }) {
		return impl.Ledger{}, false
	}
	ahead := a.A >= l.Now && a.A < len(l.Plan)
	next := copyLedger(l)
	switch {
	case a.Kind == 1:
		next.Case, next.Plan = joinRow(l.Case, [4]int{a.A, a.B, a.C, a.D}), append(next.Plan, 0)
	case a.Kind == 2 && ahead:
		next.Case.Need[a.A] = a.B
	case a.Kind == 3 && ahead:
		next.Plan[a.A] = a.B
	case a.Kind == 4 && l.Now < len(l.Plan):
		next.Now = l.Now + 1
	case a.Kind == 5:
		next.Plan = replanBySteps(l)
	case a.Kind == 6:
		next.Plan = append(next.Plan[:l.Now], make([]int, len(l.Plan)-l.Now)...)
	default:
		return impl.Ledger{}, false
	}
	if !isSomeLedger(next) {
		return impl.Ledger{}, false
	}
	return next, true
}

// joinRow gives a Case with one more period.
func joinRow(c impl.Case, row [4]int) impl.Case {
	d := copyCase(c)
	d.Need, d.Setup = append(d.Need, row[0]), append(d.Setup, row[1])
	d.Unit, d.Hold = append(d.Unit, row[2]), append(d.Hold, row[3])
	return d
}

// thrownLedger gives a Ledger with n periods, of which any number is over: a deficit there is ended by
// a greater amount, or by a Need that is less.
func (d *dice) thrownLedger(n int) impl.Ledger {
	c := d.thrownCase(n, 20, 99, 9)
	if d.throw(1) == 0 {
		c = d.thrownCase(n, 6, 9, 2)
	}
	l := impl.Ledger{Case: c, Plan: []int{}, Now: d.throw(n)}
	most := []int{0, 3, 12, 12, 30, 200}[d.throw(5)]
	for range n {
		l.Plan = append(l.Plan, d.thrownNumber(most)*d.throw(1))
	}
	for t := range l.Now {
		missing := -stockBehindPeriods(l, t+1)
		if missing > 0 && d.throw(1) == 0 {
			l.Plan[t] += missing
		} else if missing > 0 {
			l.Case.Need[t] -= missing
		}
	}
	return l
}

// manyLedgers gives Ledgers of all numbers of periods and of periods that are over.
func manyLedgers() []impl.Ledger {
	found := []impl.Ledger{{}, {Case: impl.Case{Need: []int{}, Setup: []int{}, Unit: []int{}, Hold: []int{}}, Plan: []int{}}}
	var d dice = 901
	for i := range 1800 {
		found = append(found, d.thrownLedger(i%9))
	}
	for n := 1; n <= 8; n++ {
		full := sameRows(n, [4]int{20, 99, 9, 9})
		for now := range n + 1 {
			found = append(found, ledgerOf(full, now, slices.Repeat([]int{200}, n)...), ledgerOf(full, now, slices.Repeat([]int{20}, n)...), ledgerOf(sameRows(n, [4]int{}), now, make([]int, n)...), ledgerOf(sameRows(n, [4]int{0, 99, 9, 9}), now, slices.Repeat([]int{1}, n)...))
		}
		found = append(found, ledgerOf(full, 0, make([]int, n)...), ledgerOf(full, 1, append([]int{20}, make([]int, n-1)...)...))
	}
	return found
}

// smallLedgers gives the Ledgers of at most three periods with all Needs up to 2, a few amounts in each
// period, and each Now: each of them with other costs, which are thrown.
func smallLedgers() []impl.Ledger {
	var found []impl.Ledger
	var d dice = 907
	for n := range 4 {
		amounts := []int{0, 1, 2, 3, 5}
		if n == 3 {
			amounts = []int{0, 1, 2, 5}
		}
		for _, needs := range listsFrom([]int{0, 1, 2}, n) {
			if len(needs) != n {
				continue
			}
			for _, plan := range listsFrom(amounts, n) {
				for now := range n + 1 {
					c := d.thrownCase(n, 2, 6, 3)
					copy(c.Need, needs)
					if l := ledgerOf(c, now, plan...); len(plan) == n && isSomeLedger(l) {
						found = append(found, l)
					}
				}
			}
		}
	}
	return found
}

// noLedgers gives Ledgers of which one part is not valid.
func noLedgers() []impl.Ledger {
	var bad []impl.Ledger
	for _, c := range noCases() {
		bad = append(bad, ledgerOf(c, 0, make([]int, len(c.Need))...), ledgerOf(c, 1, slices.Repeat([]int{200}, len(c.Need))...))
	}
	for _, good := range []impl.Ledger{ledgerOf(impl.Case{}, 0), ledgerOf(sameRows(1, [4]int{3, 1, 1, 1}), 1, 3), ledgerOf(sameRows(3, [4]int{3, 1, 1, 1}), 2, 3, 4, 0), ledgerOf(sameRows(8, [4]int{20, 99, 9, 9}), 5, slices.Repeat([]int{200}, 8)...)} {
		n := len(good.Plan)
		for _, now := range append(beyond(max(1, n)), n+1, 9, 10, -9) {
			l := copyLedger(good)
			if l.Now = now; now != n {
				bad = append(bad, l)
			}
		}
		for at := range n {
			for _, x := range beyond(200) {
				l := copyLedger(good)
				l.Plan[at] = x
				bad = append(bad, l)
			}
			l := copyLedger(good)
			l.Plan = slices.Delete(l.Plan, at, at+1)
			bad = append(bad, l)
		}
		for _, more := range [][]int{{0}, {1, 2}, make([]int, 8), make([]int, 5000)} {
			l := copyLedger(good)
			l.Plan = append(l.Plan, more...)
			bad = append(bad, l)
		}
	}
	for n := 1; n <= 8; n++ {
		for at := range n {
			// The stock behind one period that is over is -1, and behind all others 0 or more.
			plan := slices.Repeat([]int{5}, n)
			plan[at]--
			if at+1 < n {
				plan[at+1]++
			}
			for now := at + 1; now <= n; now++ {
				bad = append(bad, ledgerOf(sameRows(n, [4]int{5, 1, 1, 1}), now, plan...))
			}
		}
	}
	return bad
}

func checkLedger(t *testing.T, what string, got impl.Ledger, ok bool, want impl.Ledger, wantOK bool) {
	t.Helper()
	if !sameLedger(got, want) || ok != wantOK {
		t.Errorf("%s = %v, %t, want %v, %t", what, got, ok, want, wantOK)
	}
}

// checkAct compares the Ledger behind an Act.
func checkAct(t *testing.T, l impl.Ledger, a impl.Act) (impl.Ledger, bool) {
	t.Helper()
	want, wantOK := actBySteps(l, a)
	got, ok := impl.ActLedger(l, a)
	checkLedger(t, fmt.Sprint("ActLedger ", l, a), got, ok, want, wantOK)
	if ok && !impl.IsLedger(got) {
		t.Error("not a valid Ledger behind", l, a, got)
	}
	return got, ok
}

// checkAllOfLedger compares all that is told of a valid Ledger.
func checkAllOfLedger(t *testing.T, l impl.Ledger) {
	t.Helper()
	what := fmt.Sprint(l)
	if !impl.IsLedger(l) {
		t.Error("a Ledger that is none", what)
	}
	stock, ok := impl.StockNow(l)
	checkNumber(t, "StockNow "+what, stock, ok, stockBehindPeriods(l, l.Now), true)
	cost, ok := impl.CostNow(l)
	checkNumber(t, "CostNow "+what, cost, ok, costOfPeriods(l, 0, l.Now), true)
	short, ok := impl.ShortPeriods(l)
	checkList(t, "ShortPeriods "+what, short, ok, shortOfLedger(l), true)
	left, ok := impl.NeedsLeft(l)
	checkList(t, "NeedsLeft "+what, left, ok, leftBySteps(l), true)
	want, none := 0, len(shortOfLedger(l)) == 0
	if none {
		want = costOfPeriods(l, l.Now, len(l.Plan))
	}
	ahead, ok := impl.CostAhead(l)
	checkNumber(t, "CostAhead "+what, ahead, ok, want, none)
}

func TestLedgerLimits(t *testing.T) {
	if impl.MaxAmount != 200 || impl.MaxRecords != 60 || impl.MaxCommand != 160 || impl.MaxReply != 200 || impl.MaxScriptLines != 30 {
		t.Error("limits", impl.MaxAmount, impl.MaxRecords, impl.MaxCommand, impl.MaxReply, impl.MaxScriptLines)
	}
	if kinds := []int{impl.ActPeriod, impl.ActNeed, impl.ActOrder, impl.ActStep, impl.ActReplan, impl.ActClear}; !slices.Equal(kinds, []int{1, 2, 3, 4, 5, 6}) {
		t.Error("kinds", kinds)
	}
	if impl.LogOK != 0 || impl.LogInvalid != 1 || impl.LogFull != 2 {
		t.Error("codes", impl.LogOK, impl.LogInvalid, impl.LogFull)
	}
}

func TestP12IsLedger(t *testing.T) {
	for _, l := range append(manyLedgers(), smallLedgers()...) {
		if !isSomeLedger(l) || !impl.IsLedger(l) {
			t.Error("a Ledger that is none", l)
		}
	}
	for _, l := range noLedgers() {
		if isSomeLedger(l) || impl.IsLedger(l) {
			t.Error("no Ledger", l)
		}
	}
}

func TestP12LedgersWithinTheirBounds(t *testing.T) {
	for x := -250; x <= 450; x++ {
		for n := 1; n <= 8; n++ {
			for at := range n {
				plan := slices.Repeat([]int{7}, n)
				plan[at] = x
				c := sameRows(n, [4]int{})
				if impl.IsLedger(ledgerOf(c, 0, plan...)) != (x >= 0 && x <= 200) || impl.IsLedger(ledgerOf(c, n, plan...)) != (x >= 0 && x <= 200) {
					t.Error("amount", x, n, at)
				}
			}
			if impl.IsLedger(ledgerOf(sameRows(n, [4]int{3, 1, 1, 1}), x, slices.Repeat([]int{3}, n)...)) != (x >= 0 && x <= n) {
				t.Error("Now", x, n)
			}
		}
	}
	for n := range 12 {
		for m := range 12 {
			if impl.IsLedger(ledgerOf(sameRows(n, [4]int{1, 1, 1, 1}), 0, make([]int, m)...)) != (n == m && n <= 8) {
				t.Error("periods and amounts", n, m)
			}
		}
	}
}

func TestP12StocksBehindPeriodsThatAreOver(t *testing.T) {
	c := caseOf([4]int{3, 1, 1, 1}, [4]int{0, 1, 1, 1}, [4]int{2, 1, 1, 1})
	for _, x := range []struct {
		plan []int
		now  int
		want bool
	}{
		{[]int{3, 0, 2}, 3, true}, {[]int{2, 0, 3}, 0, true}, {[]int{2, 0, 3}, 1, false}, {[]int{2, 1, 2}, 1, false}, {[]int{2, 1, 2}, 2, false}, {[]int{2, 1, 2}, 3, false}, {[]int{3, 0, 1}, 2, true}, {[]int{3, 0, 1}, 3, false}, {[]int{4, 0, 1}, 3, true}, {[]int{5, 0, 0}, 3, true}, {[]int{200, 200, 200}, 3, true}, {[]int{0, 0, 0}, 0, true}, {[]int{0, 0, 0}, 1, false}, {[]int{0, 200, 200}, 1, false}, {[]int{0, 200, 200}, 3, false},
	} {
		if l := ledgerOf(c, x.now, x.plan...); impl.IsLedger(l) != x.want {
			t.Error("IsLedger", l, !x.want)
		}
	}
}

func TestP12NewLedger(t *testing.T) {
	for _, c := range append(smallCases(), fullCases()...) {
		l, ok := impl.NewLedger(c)
		checkLedger(t, fmt.Sprint("NewLedger ", c), l, ok, ledgerOf(c, 0, make([]int, len(c.Need))...), true)
		if !impl.IsLedger(l) {
			t.Error("not a valid Ledger", c, l)
		}
	}
	for _, c := range noCases() {
		l, ok := impl.NewLedger(c)
		checkLedger(t, fmt.Sprint("NewLedger ", c), l, ok, impl.Ledger{}, false)
	}
	l, ok := impl.NewLedger(impl.Case{})
	checkLedger(t, "NewLedger of no periods", l, ok, impl.Ledger{}, true)
}

func TestP12LedgerExamples(t *testing.T) {
	c := caseOf([4]int{2, 5, 1, 1}, [4]int{0, 7, 2, 3}, [4]int{3, 4, 1, 2})
	for _, x := range []struct {
		now         int
		plan        []int
		stock, cost int
		short, left []int
		ahead       int // -1 if a period is short
	}{
		{0, []int{0, 0, 0}, 0, 0, []int{0, 1, 2}, []int{2, 0, 3}, -1}, {0, []int{2, 0, 0}, 0, 0, []int{2}, []int{2, 0, 3}, -1}, {0, []int{2, 0, 3}, 0, 0, nil, []int{2, 0, 3}, 14}, {0, []int{0, 5, 0}, 0, 0, []int{0}, []int{2, 0, 3}, -1}, {0, []int{0, 1, 9}, 0, 0, []int{0, 1}, []int{2, 0, 3}, -1}, {0, []int{5, 0, 0}, 0, 0, nil, []int{2, 0, 3}, 22}, {0, []int{9, 0, 0}, 0, 0, nil, []int{2, 0, 3}, 50}, {0, []int{2, 0, 2}, 0, 0, []int{2}, []int{2, 0, 3}, -1}, {0, []int{2, 1, 3}, 0, 0, nil, []int{2, 0, 3}, 28},
		{1, []int{2, 0, 0}, 0, 7, []int{2}, []int{0, 3}, -1}, {1, []int{4, 0, 0}, 2, 11, []int{2}, []int{0, 1}, -1}, {1, []int{5, 0, 0}, 3, 13, nil, []int{0, 0}, 9}, {1, []int{6, 0, 0}, 4, 15, nil, []int{0, 0}, 14}, {1, []int{2, 3, 0}, 0, 7, nil, []int{0, 3}, 22}, {1, []int{200, 0, 0}, 198, 403, nil, []int{0, 0}, 984}, {1, []int{3, 0, 3}, 1, 9, nil, []int{0, 2}, 12},
		{2, []int{4, 0, 0}, 2, 17, []int{2}, []int{1}, -1}, {2, []int{4, 0, 1}, 2, 17, nil, []int{1}, 5}, {2, []int{4, 0, 9}, 2, 17, nil, []int{1}, 29}, {2, []int{2, 9, 0}, 9, 59, nil, []int{0}, 12}, {3, []int{4, 0, 1}, 0, 22, nil, nil, 0}, {3, []int{200, 200, 200}, 595, 403 + 7 + 400 + 398*3 + 204 + 2*595, nil, nil, 0}, {3, []int{2, 0, 9}, 6, 32, nil, nil, 0},
	} {
		l := ledgerOf(c, x.now, x.plan...)
		what := fmt.Sprint(l)
		stock, ok := impl.StockNow(l)
		checkNumber(t, "StockNow "+what, stock, ok, x.stock, true)
		cost, ok := impl.CostNow(l)
		checkNumber(t, "CostNow "+what, cost, ok, x.cost, true)
		short, ok := impl.ShortPeriods(l)
		checkList(t, "ShortPeriods "+what, short, ok, x.short, true)
		left, ok := impl.NeedsLeft(l)
		checkList(t, "NeedsLeft "+what, left, ok, x.left, true)
		ahead, ok := impl.CostAhead(l)
		checkNumber(t, "CostAhead "+what, ahead, ok, max(0, x.ahead), x.ahead >= 0)
	}
}

func TestP12ShortPeriodsExamples(t *testing.T) {
	c := sameRows(4, [4]int{2, 1, 1, 1})
	idle := caseOf([4]int{2, 1, 1, 1}, [4]int{0, 1, 1, 1}, [4]int{0, 1, 1, 1}, [4]int{2, 1, 1, 1})
	for _, x := range []struct {
		l    impl.Ledger
		want []int
	}{
		{ledgerOf(c, 0, 0, 4, 2, 2), []int{0}}, {ledgerOf(c, 0, 2, 2, 2, 1), []int{3}}, {ledgerOf(c, 0, 2, 1, 3, 2), []int{1}}, {ledgerOf(c, 0, 1, 3, 1, 3), []int{0, 2}}, {ledgerOf(c, 0, 1, 2, 2, 2), []int{0, 1, 2, 3}}, {ledgerOf(c, 0, 8, 0, 0, 0), nil}, {ledgerOf(c, 0, 7, 0, 0, 0), []int{3}}, {ledgerOf(c, 0, 0, 0, 0, 8), []int{0, 1, 2}}, {ledgerOf(c, 0, 2, 2, 2, 2), nil}, {ledgerOf(c, 0, 200, 0, 0, 200), nil},
		{ledgerOf(c, 2, 2, 2, 0, 9), []int{2}}, {ledgerOf(c, 2, 3, 2, 0, 1), []int{2, 3}}, {ledgerOf(c, 2, 5, 1, 0, 1), []int{3}}, {ledgerOf(c, 2, 2, 6, 0, 0), nil}, {ledgerOf(c, 3, 2, 2, 2, 1), []int{3}}, {ledgerOf(c, 4, 2, 2, 2, 2), nil}, {ledgerOf(c, 4, 9, 0, 0, 0), nil},
		// The periods 1 and 2 need nothing: they are short only because of the one before.
		{ledgerOf(idle, 0, 1, 0, 0, 3), []int{0, 1, 2}}, {ledgerOf(idle, 0, 0, 1, 1, 2), []int{0, 1}}, {ledgerOf(idle, 0, 2, 0, 0, 0), []int{3}}, {ledgerOf(idle, 1, 2, 0, 0, 0), []int{3}}, {impl.Ledger{}, nil},
	} {
		short, ok := impl.ShortPeriods(x.l)
		checkList(t, fmt.Sprint("ShortPeriods ", x.l), short, ok, x.want, true)
		_, ok = impl.CostAhead(x.l)
		if ok != (len(x.want) == 0) {
			t.Error("CostAhead", x.l, ok)
		}
	}
}

func TestP12ManyLedgers(t *testing.T) {
	short, never, begins := map[int]int{}, 0, 0
	for _, l := range append(manyLedgers(), smallLedgers()...) {
		checkAllOfLedger(t, l)
		list := shortOfLedger(l)
		short[len(list)]++
		if len(list) > 0 && list[0] == l.Now {
			begins++
		}
		if stockBehindPeriods(l, l.Now) > totalOf(l.Case.Need[l.Now:]) {
			never++
		}
	}
	if len(short) != 9 || short[0] < 1000 || short[1] < 300 || begins < 300 || never < 500 {
		t.Error("too few of one kind", short, begins, never)
	}
}

func TestP12LedgersThatAreNone(t *testing.T) {
	for i, l := range noLedgers() {
		for _, x := range []ledgerArgs{{l: l}, {l: l, a: impl.Act{Kind: 1 + i%6}, acts: []impl.Act{{Kind: 6}}}, {l: l, a: impl.Act{Kind: 3}, acts: []impl.Act{{Kind: 5}, {Kind: 4}}}} {
			for _, call := range ledgerCalls(x) {
				if call.name == "IsLedger" && call.results[0] != false {
					t.Error("a Ledger", l)
				}
				if isOfLedgers(call.name) {
					checkAllFail(t, []lotCall{call})
				}
			}
		}
	}
}

func TestP12StockThatIsNeverUsed(t *testing.T) {
	c := caseOf([4]int{1, 2, 1, 3}, [4]int{2, 2, 1, 1}, [4]int{0, 2, 1, 2}, [4]int{3, 2, 1, 1})
	for amount := 1; amount <= 200; amount++ {
		l := ledgerOf(c, 1, amount, 0, 0, 0)
		stock := amount - 1
		left, ok := impl.NeedsLeft(l)
		checkList(t, fmt.Sprint("NeedsLeft ", l), left, ok, []int{max(0, 2-stock), 0, max(0, min(3, 5-stock))}, true)
		behind, ok := impl.ActLedger(l, impl.Act{Kind: impl.ActReplan})
		if stock >= 5 {
			// No order is needed, and what is never used is held up to the end.
			checkLedger(t, fmt.Sprint("replanned ", l), behind, ok, l, true)
			cost, fine := impl.CostAhead(behind)
			checkNumber(t, fmt.Sprint("CostAhead ", behind), cost, fine, (stock-2)+2*(stock-2)+(stock-5), true)
		} else if missing := totalOf(behind.Plan[1:]); !ok || missing != 5-stock {
			t.Error("replanned", l, behind, ok)
		}
		// Amounts that are too great ahead are not used either, and are held, too.
		l.Plan[3] = 200
		if stock >= 2 {
			cost, fine := impl.CostAhead(l)
			checkNumber(t, fmt.Sprint("CostAhead ", l), cost, fine, 3*(stock-2)+2+200+(stock-5+200), true)
		}
	}
}

func TestP12ActExamples(t *testing.T) {
	c := caseOf([4]int{2, 5, 1, 1}, [4]int{0, 7, 2, 3}, [4]int{3, 4, 1, 2})
	l := ledgerOf(c, 1, 4, 0, 1)
	more := func(row [4]int) impl.Ledger { return ledgerOf(joinRow(c, row), 1, 4, 0, 1, 0) }
	need := func(at, x int) impl.Ledger {
		d := copyLedger(l)
		d.Case.Need[at] = x
		return d
	}
	none := impl.Ledger{}
	for _, x := range []struct {
		a    impl.Act
		want impl.Ledger
		ok   bool
	}{
		{impl.Act{Kind: 1, A: 6, B: 7, C: 8, D: 9}, more([4]int{6, 7, 8, 9}), true}, {impl.Act{Kind: 1}, more([4]int{}), true}, {impl.Act{Kind: 1, A: 20, B: 99, C: 9, D: 9}, more([4]int{20, 99, 9, 9}), true}, {impl.Act{Kind: 1, A: 21}, none, false}, {impl.Act{Kind: 1, B: 100}, none, false}, {impl.Act{Kind: 1, C: 10}, none, false}, {impl.Act{Kind: 1, D: 10}, none, false}, {impl.Act{Kind: 1, A: -1}, none, false}, {impl.Act{Kind: 1, B: -1}, none, false}, {impl.Act{Kind: 1, C: -1}, none, false}, {impl.Act{Kind: 1, D: -1}, none, false},
		{impl.Act{Kind: 2, A: 1, B: 20}, need(1, 20), true}, {impl.Act{Kind: 2, A: 2, B: 0}, need(2, 0), true}, {impl.Act{Kind: 2, A: 2, B: 3}, l, true}, {impl.Act{Kind: 2, A: 1, B: 21}, none, false}, {impl.Act{Kind: 2, A: 1, B: -1}, none, false}, {impl.Act{Kind: 2, A: 0, B: 2}, none, false}, {impl.Act{Kind: 2, A: -1, B: 2}, none, false}, {impl.Act{Kind: 2, A: 3, B: 2}, none, false}, {impl.Act{Kind: 2, A: 1, B: 2, C: 1}, none, false}, {impl.Act{Kind: 2, A: 1, B: 2, D: 1}, none, false}, {impl.Act{Kind: 2, A: 1, B: 2, D: -1}, none, false},
		{impl.Act{Kind: 3, A: 1, B: 200}, ledgerOf(c, 1, 4, 200, 1), true}, {impl.Act{Kind: 3, A: 2, B: 0}, ledgerOf(c, 1, 4, 0, 0), true}, {impl.Act{Kind: 3, A: 1, B: 201}, none, false}, {impl.Act{Kind: 3, A: 1, B: -1}, none, false}, {impl.Act{Kind: 3, A: 0, B: 4}, none, false}, {impl.Act{Kind: 3, A: -1, B: 4}, none, false}, {impl.Act{Kind: 3, A: 3, B: 4}, none, false}, {impl.Act{Kind: 3, A: 1, B: 2, C: 1}, none, false}, {impl.Act{Kind: 3, A: 1, B: 2, D: 1}, none, false},
		{impl.Act{Kind: 4}, ledgerOf(c, 2, 4, 0, 1), true}, {impl.Act{Kind: 4, A: 1}, none, false}, {impl.Act{Kind: 4, B: 1}, none, false}, {impl.Act{Kind: 4, C: 1}, none, false}, {impl.Act{Kind: 4, D: 1}, none, false}, {impl.Act{Kind: 5}, l, true}, {impl.Act{Kind: 5, A: 1}, none, false}, {impl.Act{Kind: 5, D: -1}, none, false}, {impl.Act{Kind: 6}, ledgerOf(c, 1, 4, 0, 0), true}, {impl.Act{Kind: 6, A: 2}, none, false}, {impl.Act{Kind: 6, C: 2}, none, false},
		{impl.Act{}, none, false}, {impl.Act{Kind: 7}, none, false}, {impl.Act{Kind: -1}, none, false}, {impl.Act{Kind: 1<<32 + 4}, none, false}, {impl.Act{Kind: math.MaxInt}, none, false}, {impl.Act{Kind: math.MinInt}, none, false}, {impl.Act{Kind: 3, A: math.MaxInt, B: 1}, none, false}, {impl.Act{Kind: 3, A: math.MinInt, B: 1}, none, false}, {impl.Act{Kind: 3, A: 1, B: math.MaxInt}, none, false}, {impl.Act{Kind: 2, A: 1, B: math.MinInt}, none, false}, {impl.Act{Kind: 3, A: 1 + 1<<32, B: 1}, none, false},
	} {
		got, ok := impl.ActLedger(l, x.a)
		checkLedger(t, fmt.Sprint("ActLedger ", l, x.a), got, ok, x.want, x.ok)
	}
}

func TestP12ActsAtTheEndsOfTime(t *testing.T) {
	for n := range 9 {
		for now := range n + 1 {
			l := ledgerOf(sameRows(n, [4]int{3, 2, 1, 1}), now, slices.Repeat([]int{3}, n)...)
			for _, period := range []int{-1, 0, now - 1, now, now + 1, n - 1, n, n + 1, 8, 9} {
				over := period < now || period >= n
				for _, kind := range []int{impl.ActNeed, impl.ActOrder} {
					if _, ok := checkAct(t, l, impl.Act{Kind: kind, A: period, B: 5}); ok == over {
						t.Error("possible, or not", l, kind, period)
					}
				}
			}
			if next, ok := checkAct(t, l, impl.Act{Kind: impl.ActStep}); ok != (now < n) || ok && next.Now != now+1 {
				t.Error("a step", l, next, ok)
			}
			if next, ok := checkAct(t, l, impl.Act{Kind: impl.ActPeriod, A: 1}); ok != (n < 8) || ok && len(next.Plan) != n+1 {
				t.Error("one more period", l, next, ok)
			}
			if now < n {
				// The stock behind the period at Now is -1, and then 0.
				l.Plan[now]--
				if _, ok := checkAct(t, l, impl.Act{Kind: impl.ActStep}); ok {
					t.Error("a step over a short period", l)
				}
				l.Case.Need[now]--
				if _, ok := checkAct(t, l, impl.Act{Kind: impl.ActStep}); !ok {
					t.Error("no step over a period that is not short", l)
				}
			}
			for _, kind := range []int{impl.ActReplan, impl.ActClear} {
				if next, ok := checkAct(t, l, impl.Act{Kind: kind}); !ok || now == n && !sameLedger(next, l) {
					t.Error("not possible, or a period that is over has changed", l, kind, next, ok)
				}
			}
		}
	}
}

// manyActs gives Acts of all Kinds, and of none, with numbers at their bounds in a Ledger.
func manyActs(l impl.Ledger) []impl.Act {
	var acts []impl.Act
	for kind := range 8 {
		for _, a := range []int{-1, 0, l.Now - 1, l.Now, len(l.Plan) - 1, len(l.Plan)} {
			for _, b := range []int{-1, 0, 1, 20, 21, 200, 201} {
				acts = append(acts, impl.Act{Kind: kind, A: a, B: b})
			}
		}
		acts = append(acts, impl.Act{Kind: kind, A: 20, B: 99, C: 9, D: 9}, impl.Act{Kind: kind, A: 21, B: 99, C: 9, D: 9}, impl.Act{Kind: kind, B: 100}, impl.Act{Kind: kind, C: 10}, impl.Act{Kind: kind, D: 10}, impl.Act{Kind: kind, C: -1}, impl.Act{Kind: kind, D: -1}, impl.Act{Kind: kind, C: 1}, impl.Act{Kind: kind, D: 1})
	}
	return append(acts, impl.Act{Kind: -1}, impl.Act{Kind: math.MaxInt}, impl.Act{Kind: 1 << 32})
}

// thrownAct gives an Act that is often possible in a Ledger.
func (d *dice) thrownAct(l impl.Ledger) impl.Act {
	n := len(l.Plan)
	ahead := l.Now + d.throw(max(0, n-l.Now))
	switch d.throw(11) {
	case 0, 1:
		return impl.Act{Kind: 1, A: d.thrownNumber(21), B: d.thrownNumber(99), C: d.throw(9), D: d.throw(9)}
	case 2, 3:
		return impl.Act{Kind: 2, A: ahead, B: d.thrownNumber(20)}
	case 4, 5:
		return impl.Act{Kind: 3, A: ahead, B: d.thrownNumber(30)}
	case 6, 7, 8:
		return impl.Act{Kind: 4}
	case 9:
		return impl.Act{Kind: 5}
	case 10:
		return impl.Act{Kind: 6}
	}
	return manyActs(l)[d.throw(300)]
}

func TestP12ActsOfManyLedgers(t *testing.T) {
	possible, not := map[int]int{}, map[int]int{}
	ledgers := manyLedgers()
	for i := 0; i < len(ledgers); i += 3 {
		for _, a := range manyActs(ledgers[i]) {
			if _, ok := checkAct(t, ledgers[i], a); ok {
				possible[a.Kind]++
			} else {
				not[a.Kind]++
			}
		}
	}
	for kind := 1; kind <= 6; kind++ {
		if possible[kind] < 200 || not[kind] < 1000 {
			t.Error("too few possible Acts, or others", kind, possible, not)
		}
	}
	if len(possible) != 6 || not[0] < 1000 || not[7] < 1000 {
		t.Error("Kinds that are none", possible, not)
	}
}

func TestP12ActAllMakesOneActAfterTheOther(t *testing.T) {
	var d dice = 911
	ends := map[bool]int{}
	for i := range 3000 {
		l := d.thrownLedger(i % 9)
		want, made := copyLedger(l), 0
		var list []impl.Act
		possible := true
		for range d.throw(12) {
			a := d.thrownAct(want)
			list = append(list, a)
			next, ok := actBySteps(want, a)
			if possible = possible && ok; possible {
				want, made = next, made+1
			}
		}
		got, many, ok := impl.ActAll(l, list)
		checkLedger(t, fmt.Sprint("ActAll ", l, list), got, ok, want, true)
		checkNumber(t, fmt.Sprint("ActAll, number, ", l, list), many, ok, made, true)
		next, behind := copyLedger(l), 0
		for _, a := range list {
			after, fine := impl.ActLedger(next, a)
			if !fine {
				break
			}
			next, behind = after, behind+1
		}
		if !sameLedger(next, got) || behind != many || !impl.IsLedger(got) {
			t.Fatal("not as one Act after the other", l, list, got, many, next, behind)
		}
		ends[made < len(list)]++
	}
	if ends[true] < 500 || ends[false] < 500 {
		t.Error("too few lists with Acts that are not possible, or without", ends)
	}
}

func TestP12ActAllExamples(t *testing.T) {
	c := caseOf([4]int{2, 5, 1, 1}, [4]int{0, 7, 2, 3}, [4]int{3, 4, 1, 2})
	l := ledgerOf(c, 0, 0, 0, 0)
	step := impl.Act{Kind: impl.ActStep}
	for _, x := range []struct {
		list []impl.Act
		want impl.Ledger
		many int
	}{
		{nil, l, 0}, {[]impl.Act{}, l, 0}, {[]impl.Act{step}, l, 0}, {[]impl.Act{{}, {Kind: 5}}, l, 0}, {[]impl.Act{{Kind: 5}, step, step, step, step}, ledgerOf(c, 3, 2, 0, 3), 4}, {[]impl.Act{{Kind: 3, B: 2}, step, step, step}, ledgerOf(c, 2, 2, 0, 0), 3}, {[]impl.Act{{Kind: 3, B: 2}, step, {Kind: 3, B: 2}, step}, ledgerOf(c, 1, 2, 0, 0), 2}, {[]impl.Act{{Kind: 3, B: 9}, step, {Kind: 6}, step, step, {Kind: 1, A: 4}, {Kind: 5}}, ledgerOf(joinRow(c, [4]int{4, 0, 0, 0}), 3, 9, 0, 0, 0), 7},
		{[]impl.Act{{Kind: 3, B: 2}, {Kind: 3, B: 3}, {Kind: 3, B: 4}}, ledgerOf(c, 0, 4, 0, 0), 3}, {slices.Repeat([]impl.Act{{Kind: 6}}, 5000), l, 5000}, {append(slices.Repeat([]impl.Act{{Kind: 1}}, 6), step), ledgerOf(caseOf([][4]int{{2, 5, 1, 1}, {0, 7, 2, 3}, {3, 4, 1, 2}, {}, {}, {}, {}, {}}...), 0, 0, 0, 0, 0, 0, 0, 0, 0), 5},
	} {
		got, many, ok := impl.ActAll(l, x.list)
		what := fmt.Sprintf("ActAll %.200v", x.list)
		checkLedger(t, what, got, ok, x.want, true)
		checkNumber(t, what, many, ok, x.many, true)
	}
}

func TestP12ReplanExamples(t *testing.T) {
	c := caseOf([4]int{2, 5, 1, 1}, [4]int{0, 7, 2, 3}, [4]int{3, 4, 1, 2})
	flat := sameRows(4, [4]int{2, 9, 1, 1})
	for _, x := range []struct {
		l    impl.Ledger
		want []int
	}{
		{ledgerOf(c, 0, 0, 0, 0), []int{2, 0, 3}}, {ledgerOf(c, 0, 200, 200, 200), []int{2, 0, 3}}, {ledgerOf(c, 1, 2, 9, 9), []int{2, 0, 3}}, {ledgerOf(c, 1, 4, 9, 9), []int{4, 0, 1}}, {ledgerOf(c, 1, 5, 9, 9), []int{5, 0, 0}}, {ledgerOf(c, 1, 200, 9, 9), []int{200, 0, 0}}, {ledgerOf(c, 2, 2, 1, 0), []int{2, 1, 2}}, {ledgerOf(c, 3, 2, 1, 2), []int{2, 1, 2}}, {ledgerOf(c, 3, 2, 1, 200), []int{2, 1, 200}}, {impl.Ledger{}, nil},
		{ledgerOf(flat, 0, 0, 0, 0, 0), []int{8, 0, 0, 0}}, {ledgerOf(flat, 1, 2, 0, 0, 0), []int{2, 6, 0, 0}}, {ledgerOf(flat, 1, 3, 0, 0, 0), []int{3, 5, 0, 0}}, {ledgerOf(flat, 1, 4, 9, 0, 9), []int{4, 0, 4, 0}}, {ledgerOf(flat, 1, 5, 0, 0, 0), []int{5, 0, 3, 0}}, {ledgerOf(flat, 1, 7, 0, 0, 0), []int{7, 0, 0, 1}}, {ledgerOf(flat, 1, 8, 1, 1, 1), []int{8, 0, 0, 0}}, {ledgerOf(flat, 3, 6, 0, 0, 9), []int{6, 0, 0, 2}},
		// Of plans that cost as little, the one with fewer orders, and then with earlier ones.
		{ledgerOf(sameRows(3, [4]int{1, 0, 1, 0}), 1, 1, 1, 1), []int{1, 2, 0}}, {ledgerOf(caseOf([4]int{1, 0, 0, 0}, [4]int{0, 3, 1, 0}, [4]int{2, 3, 1, 0}), 1, 1, 0, 2), []int{1, 2, 0}},
	} {
		got, ok := impl.ActLedger(x.l, impl.Act{Kind: impl.ActReplan})
		checkLedger(t, fmt.Sprint("replanned ", x.l), got, ok, ledgerOf(x.l.Case, x.l.Now, x.want...), true)
	}
}

func TestP12BehindANewPlanNothingIsShortAndNothingCostsMore(t *testing.T) {
	less, as, short := 0, 0, 0
	for _, l := range append(manyLedgers(), smallLedgers()...) {
		behind, ok := checkAct(t, l, impl.Act{Kind: impl.ActReplan})
		list, fine := impl.ShortPeriods(behind)
		cost, good := impl.CostAhead(behind)
		if !ok || !fine || !good || len(list) > 0 {
			t.Fatal("not replanned, or short", l, behind, list)
		}
		before, none := impl.CostAhead(l)
		if none && cost > before {
			t.Fatal("costs more", l, behind, before, cost)
		}
		switch {
		case !none:
			short++
		case cost < before:
			less++
		default:
			as++
		}
		if now, _ := impl.CostNow(l); now != costOfPeriods(behind, 0, behind.Now) {
			t.Fatal("a period that is over has changed", l, behind)
		}
		if again, ok := impl.ActLedger(behind, impl.Act{Kind: impl.ActReplan}); !ok || !sameLedger(again, behind) {
			t.Fatal("another plan", l, behind, again)
		}
	}
	if less < 1000 || as < 300 || short < 1000 {
		t.Error("too few of one kind", less, as, short)
	}
}

func TestP12NoAmountsFromNowOnCostLess(t *testing.T) {
	met := 0
	for _, l := range smallLedgers() {
		behind, _ := impl.ActLedger(l, impl.Act{Kind: impl.ActReplan})
		cost, _ := impl.CostAhead(behind)
		ahead := len(l.Plan) - l.Now
		least := math.MaxInt
		for _, amounts := range listsFrom([]int{0, 1, 2, 3, 4, 5, 6}, ahead) {
			other := ledgerOf(l.Case, l.Now, slices.Concat(l.Plan[:l.Now], amounts)...)
			if len(amounts) != ahead || len(shortOfLedger(other)) > 0 {
				continue
			}
			least = min(least, costOfPeriods(other, l.Now, len(l.Plan)))
		}
		if cost != least {
			t.Fatal("another cost than the least one", l, behind, cost, least)
		}
		met++
	}
	if met < 2000 {
		t.Error("too few Ledgers", met)
	}
}

func TestP12ReplannedAtTheBeginningItCostsBestCost(t *testing.T) {
	for _, c := range append(smallCases(), fullCases()...) {
		l, _ := impl.NewLedger(c)
		behind, ok := impl.ActLedger(l, impl.Act{Kind: impl.ActReplan})
		least, _ := impl.BestCost(c)
		cost, fine := impl.CostAhead(behind)
		checkNumber(t, fmt.Sprint("CostAhead ", behind), cost, ok && fine, least, true)
		periods, _ := impl.BestPeriods(c)
		plan, _ := impl.PlanFrom(c, periods)
		checkList(t, fmt.Sprint("replanned ", c), behind.Plan, ok, plan, true)
	}
}

func TestP12BothCostsTogetherAreThoseOfAPlan(t *testing.T) {
	var d dice = 919
	for _, c := range fullCases() {
		for range 3 {
			plan := d.thrownPlan(c)
			want, _ := impl.PlanCost(c, plan)
			stocks, _ := impl.StocksOf(c, plan)
			for now := range len(plan) + 1 {
				l := ledgerOf(c, now, plan...)
				over, ok := impl.CostNow(l)
				ahead, fine := impl.CostAhead(l)
				stock, good := impl.StockNow(l)
				if !ok || !fine || !good || over+ahead != want || now > 0 && stock != stocks[now-1] {
					t.Fatal("not the cost of the plan, or not its stock", l, over, ahead, want, stock)
				}
			}
		}
	}
}

func TestP12NeedsLeftAreWhatTheStockDoesNotMeet(t *testing.T) {
	all, some, none := 0, 0, 0
	for _, l := range append(manyLedgers(), smallLedgers()...) {
		left, ok := impl.NeedsLeft(l)
		stock, _ := impl.StockNow(l)
		needs := l.Case.Need[l.Now:]
		if !ok || len(left) != len(needs) || totalOf(left) != max(0, totalOf(needs)-stock) {
			t.Fatal("not what is left", l, left, stock)
		}
		for at := range left {
			// The stock is used in order, so nothing is left before a Need that it still meets in part.
			if left[at] < 0 || left[at] > needs[at] || left[at] < needs[at] && totalOf(left[:at]) > 0 {
				t.Fatal("not in order", l, left, stock)
			}
		}
		switch {
		case totalOf(left) == 0:
			all++
		case stock > 0:
			some++
		default:
			none++
		}
	}
	if all < 500 || some < 300 || none < 500 {
		t.Error("too few of one kind", all, some, none)
	}
}

// sealedLine gives the encoding of a command and a reply by the document's words, valid or not.
func sealedLine(k int, command, reply string) string {
	text := fmt.Sprint(k) + " " + command + "@" + reply
	return text + "#" + strconv.Itoa(sumBySteps(text)) + "\n"
}

// isSomeText tells by the document's words whether a text may stand in a record.
func isSomeText(s string, least, most int, forbidden string) bool {
	for _, b := range []byte(s) {
		if b < 32 || b > 126 || strings.IndexByte(forbidden, b) >= 0 {
			return false
		}
	}
	return len(s) >= least && len(s) <= most
}

// isSomeRecord tells by the document's words whether a record is valid.
func isSomeRecord(e impl.LogRecord) bool {
	return isSomeText(e.Command, 1, 160, "#@") && isSomeText(e.Reply, 0, 200, "#")
}

// recordsOf gives the records with these commands and replies.
func recordsOf(pairs ...[2]string) []impl.LogRecord {
	var records []impl.LogRecord
	for _, x := range pairs {
		records = append(records, impl.LogRecord{Command: x[0], Reply: x[1]})
	}
	return records
}

// linesOf gives the encodings of records, the first one with the sequence number k.
func linesOf(k int, records []impl.LogRecord) string {
	text := ""
	for i, e := range records {
		text += sealedLine(k+i, e.Command, e.Reply)
	}
	return text
}

// logOf gives the log of records of which so many are durable.
func logOf(records []impl.LogRecord, durable int) impl.Log {
	return impl.Log{Durable: linesOf(0, records[:durable]), Pending: linesOf(durable, records[durable:]), Count: len(records)}
}

// plainSigns are the bytes that may stand in a command.
func plainSigns() string {
	signs := ""
	for b := byte(32); b <= 126; b++ {
		if b != '#' && b != '@' {
			signs += string([]byte{b})
		}
	}
	return signs
}

// thrownText gives a text of so many bytes.
func (d *dice) thrownText(size int, signs string) string {
	text := make([]byte, size)
	for i := range text {
		text[i] = signs[d.throw(len(signs)-1)]
	}
	return string(text)
}

// thrownRecords gives n records; some of them are the longest ones, some have signs of encodings.
func (d *dice) thrownRecords(n int) []impl.LogRecord {
	var records []impl.LogRecord
	for range n {
		e := impl.LogRecord{Command: d.thrownText(1+d.throw(30), plainSigns()), Reply: d.thrownText(d.throw(30), plainSigns()+"@")}
		switch d.throw(5) {
		case 0:
			e = impl.LogRecord{Command: d.thrownText(160, plainSigns()), Reply: d.thrownText(200, plainSigns()+"@")}
		case 1:
			e = impl.LogRecord{Command: d.thrownText(1+d.throw(3), " 01"), Reply: d.thrownText(d.throw(3), "@ 1")}
		}
		records = append(records, e)
	}
	return records
}

// fullRecords gives 60 records, the longest ones.
func fullRecords() []impl.LogRecord {
	var d dice = 929
	var records []impl.LogRecord
	for range 60 {
		records = append(records, impl.LogRecord{Command: d.thrownText(160, plainSigns()), Reply: d.thrownText(200, plainSigns())})
	}
	return records
}

// manyRecords gives lists of records of many lengths.
func manyRecords() [][]impl.LogRecord {
	var d dice = 937
	found := [][]impl.LogRecord{nil, recordsOf([2]string{" ", ""}), recordsOf([2]string{"0 now", "@"}, [2]string{"1 now", "@@"}, [2]string{"~", "1 a@b"}), slices.Repeat(recordsOf([2]string{"a", "a"}), 12), fullRecords(), d.thrownRecords(59), d.thrownRecords(60)}
	for i := range 60 {
		found = append(found, d.thrownRecords(i%15))
	}
	return found
}

// noLogs gives logs that are not valid.
func noLogs() []impl.Log {
	records := recordsOf([2]string{"now", "0"}, [2]string{"stock", "5"}, [2]string{"plan", "1 2"}, [2]string{"x", "?"})
	all := linesOf(0, records)
	first := len(linesOf(0, records[:1]))
	bad := []impl.Log{{Count: 1}, {Count: -1}, {Durable: "\n"}, {Pending: "\n"}, {Durable: "\n", Count: 1}, {Durable: "#7\n", Count: 1}, {Pending: " ", Count: 0}, {Pending: all[:first-1], Count: 1}, {Durable: all[:first-1], Count: 1}, {Durable: all[:first-1], Pending: "\n", Count: 1}}
	for _, count := range []int{-4, -1, 0, 3, 5, 60, 61, 4 + 1<<32, math.MinInt, math.MaxInt} {
		bad = append(bad, impl.Log{Durable: all, Count: count}, impl.Log{Pending: all, Count: count}, impl.Log{Durable: all[:first], Pending: all[first:], Count: count})
	}
	for at := range all {
		if at > 0 && all[at-1] != '\n' {
			bad = append(bad, impl.Log{Durable: all[:at], Pending: all[at:], Count: 4}, impl.Log{Durable: all[:at], Count: strings.Count(all[:at], "\n")}, impl.Log{Pending: all[:at], Count: strings.Count(all[:at], "\n")}, impl.Log{Pending: all[:at], Count: strings.Count(all[:at], "\n") + 1})
		}
	}
	for _, order := range [][]int{{0, 2, 1, 3}, {1, 0}, {1}, {0, 0}, {0, 1, 1, 2}, {0, 2, 3}, {0, 1, 3}, {0, 1, 2, 3, 0}} {
		var lines []string
		for at, k := range order {
			lines = append(lines, sealedLine(k, records[at%4].Command, records[at%4].Reply))
		}
		text := strings.Join(lines, "")
		bad = append(bad, impl.Log{Durable: text, Count: len(order)}, impl.Log{Pending: text, Count: len(order)}, impl.Log{Durable: lines[0], Pending: text[len(lines[0]):], Count: len(order)})
	}
	for _, line := range noLines(0) {
		bad = append(bad, impl.Log{Durable: line, Count: 1}, impl.Log{Pending: line, Count: 1}, impl.Log{Pending: line, Count: 0}, impl.Log{Durable: line + sealedLine(1, "a", "b"), Count: 2}, impl.Log{Durable: line + sealedLine(0, "a", "b"), Count: 1})
	}
	for _, line := range noLines(1) {
		bad = append(bad, impl.Log{Durable: all[:first], Pending: line, Count: 2}, impl.Log{Durable: all[:first] + line, Count: 2}, impl.Log{Durable: all[:first] + line, Count: 1}, impl.Log{Pending: all[:first] + line + sealedLine(2, "a", "b"), Count: 3})
	}
	// More records than there may be, and more bytes.
	more := linesOf(0, slices.Repeat(records[:1], 61))
	full := linesOf(0, fullRecords())
	long := strings.Repeat("a", 30001)
	return append(bad, impl.Log{Durable: more, Count: 61}, impl.Log{Pending: more, Count: 61}, impl.Log{Durable: more, Count: 60}, impl.Log{Durable: full, Pending: sealedLine(60, "a", ""), Count: 61}, impl.Log{Durable: full, Pending: sealedLine(0, "a", ""), Count: 61}, impl.Log{Durable: full, Pending: long, Count: 60}, impl.Log{Durable: long, Count: 0}, impl.Log{Pending: long, Count: 1}, impl.Log{Pending: strings.Repeat("\n", 1<<20), Count: 0}, impl.Log{Durable: strings.Repeat(sealedLine(0, "a", ""), 1<<16), Count: 1})
}

// noLines gives lines that are no encodings with a sequence number.
func noLines(k int) []string {
	number := strconv.Itoa(k)
	seal := func(text string) string { return text + "#" + strconv.Itoa(sumBySteps(text)) + "\n" }
	line := sealedLine(k, "now", "0")
	lines := []string{
		line[:len(line)-1], line[:len(line)-1] + "\r\n", line[:len(line)-1] + " \n", " " + line, "\n" + line, line[1:], strings.ReplaceAll(line, " ", ""), strings.ReplaceAll(line, "#", ""), strings.ReplaceAll(line, "@", ""), strings.ReplaceAll(line, "@", " "),
		sealedLine(k+1, "now", "0"), sealedLine(k-1, "now", "0"), sealedLine(-k-1, "now", "0"), seal("0" + number + " now@0"), seal("+" + number + " now@0"), seal("-" + number + " now@0"), number + "\n", seal(number + "now@0"), seal(number + " now"), seal(number + " now 0"), seal(" now@0"), seal("now@0"), seal("x now@0"), seal(number + ".0 now@0"), seal(number + "\tnow@0"),
		sealedLine(k, "", "0"), sealedLine(k, "", ""), sealedLine(k, strings.Repeat("a", 161), "0"), sealedLine(k, "now", strings.Repeat("a", 201)), sealedLine(k, "n\tw", "0"), sealedLine(k, "n\x1fw", "0"), sealedLine(k, "n\x7fw", "0"), sealedLine(k, "n\xffw", "0"), sealedLine(k, "now", "\x00"), sealedLine(k, "now", "\x7f"), sealedLine(k, "now", "\u00e9"), sealedLine(k, "now", "a#b"), sealedLine(k, "n#w", "0"), sealedLine(k, "n\nw", "0"), sealedLine(k, "now", "0\n"),
		number + " now@0\n", number + " now@0#\n", number + " now@0#7\n", number + " now@0#0" + strconv.Itoa(sumBySteps(number+" now@0")) + "\n", number + " now@0#+" + strconv.Itoa(sumBySteps(number+" now@0")) + "\n", number + " now@0#" + strconv.Itoa(sumBySteps(number+" now@0")+1) + "\n", number + " now@0#" + strconv.Itoa(sumBySteps(number+" now@0")+999979) + "\n", number + " now@0# " + strconv.Itoa(sumBySteps(number+" now@0")) + "\n", line[:len(line)-1] + "#\n", line[:len(line)-1] + "#7\n",
	}
	return append(lines, sealedLine(k, strings.Repeat("a", 5000), ""), strings.Repeat("#", 5000)+"\n", strings.Repeat("@", 5000)+"\n", number+strings.Repeat(" ", 5000)+"\n")
}

func checkLog(t *testing.T, what string, got impl.Log, want impl.Log) {
	t.Helper()
	if got != want {
		t.Errorf("%.300s = %.300v, want %.300v", what, got, want)
	}
}

// checkRecords compares the records of a log.
func checkRecords(t *testing.T, l impl.Log, want []impl.LogRecord, wantOK bool) {
	t.Helper()
	records, ok := impl.LogRecords(l)
	if !slices.Equal(records, want) || ok != wantOK {
		t.Errorf("LogRecords %.300v = %d, %t, want %d, %t", l, len(records), ok, len(want), wantOK)
	}
	if impl.IsValidLog(l) != wantOK {
		t.Errorf("IsValidLog %.300v = %t", l, !wantOK)
	}
}

func TestP12IsValidRecord(t *testing.T) {
	for size := range 420 {
		text := strings.Repeat("a", size)
		if impl.IsValidRecord(impl.LogRecord{Command: text}) != (size >= 1 && size <= 160) {
			t.Error("Command", size)
		}
		if impl.IsValidRecord(impl.LogRecord{Command: "a", Reply: text}) != (size <= 200) {
			t.Error("Reply", size)
		}
		if impl.IsValidRecord(impl.LogRecord{Command: text, Reply: text}) != (size >= 1 && size <= 160) {
			t.Error("both", size)
		}
	}
	for b := range 256 {
		sign := string([]byte{byte(b)})
		plain := b >= 32 && b <= 126 && b != '#'
		for _, around := range [][2]string{{"", ""}, {"a", ""}, {"", "a"}, {"now ", " 1"}, {strings.Repeat("a", 159), ""}, {"", strings.Repeat("a", 159)}} {
			text := around[0] + sign + around[1]
			if impl.IsValidRecord(impl.LogRecord{Command: text, Reply: "0"}) != (plain && b != '@') {
				t.Error("Command", b, around)
			}
			if impl.IsValidRecord(impl.LogRecord{Command: "now", Reply: text}) != plain {
				t.Error("Reply", b, around)
			}
		}
	}
	for _, e := range recordsOf([2]string{"", ""}, [2]string{"", "0"}, [2]string{strings.Repeat("a", 1<<20), ""}, [2]string{"a", strings.Repeat("a", 1<<20)}, [2]string{strings.Repeat("\u00e9", 20), ""}, [2]string{"a", "\u00e9"}) {
		if isSomeRecord(e) || impl.IsValidRecord(e) {
			t.Errorf("a record that is valid: %.40q %.40q", e.Command, e.Reply)
		}
	}
}

func TestP12EncodeRecordExamples(t *testing.T) {
	for _, x := range []struct {
		k              int
		command, reply string
		want           string
	}{
		{0, "now", "?", "0 now@?#" + strconv.Itoa(sumBySteps("0 now@?")) + "\n"}, {0, "step", "3", "0 step@3#416158\n"}, {59, "a", "", "59 a@#" + strconv.Itoa(sumBySteps("59 a@")) + "\n"}, {7, " ", "@ @", "7  @@ @#" + strconv.Itoa(sumBySteps("7  @@ @")) + "\n"}, {10, "~", "~", "10 ~@~#" + strconv.Itoa(sumBySteps("10 ~@~")) + "\n"},
		{-1, "now", "?", ""}, {60, "now", "?", ""}, {61, "now", "?", ""}, {1 << 32, "now", "?", ""}, {math.MinInt, "now", "?", ""}, {math.MaxInt, "now", "?", ""}, {0, "", "?", ""}, {0, "n@w", "?", ""}, {0, "n#w", "?", ""}, {0, "now", "#", ""}, {0, "now\n", "?", ""}, {0, "now", "\n", ""}, {-1, "", "#", ""}, {60, "now", "\x7f", ""},
	} {
		line, ok := impl.EncodeRecord(x.k, impl.LogRecord{Command: x.command, Reply: x.reply})
		checkText(t, fmt.Sprint("EncodeRecord ", x.k, x.command, x.reply), line, ok, x.want, x.want != "")
	}
}

func TestP12EncodingsAreThoseOfTheirLinesAndDiffer(t *testing.T) {
	lines := map[string]string{}
	check := func(k int, e impl.LogRecord) {
		want, is := "", k >= 0 && k < 60 && isSomeRecord(e)
		if is {
			want = sealedLine(k, e.Command, e.Reply)
			sealed, ok := impl.AppendChecksum(strings.TrimSuffix(want, want[strings.IndexByte(want, '#'):]))
			if !ok || sealed+"\n" != want {
				t.Error("not the line with its checksum", want, sealed)
			}
		}
		line, ok := impl.EncodeRecord(k, e)
		checkText(t, fmt.Sprintf("EncodeRecord %d %.40q %.40q", k, e.Command, e.Reply), line, ok, want, is)
		what := fmt.Sprintf("%d %q %q", k, e.Command, e.Reply)
		if other, found := lines[line]; ok && found && other != what {
			t.Error("the same encoding", line, other, what)
		}
		lines[line] = what
	}
	texts := textsOf("1 @a", 3)
	for k := -2; k < 64; k++ {
		for i, command := range texts {
			if k != 0 && k != 1 && k != 11 {
				check(k, impl.LogRecord{Command: command, Reply: texts[(i*7+k+2)%len(texts)]})
				continue
			}
			for _, reply := range texts {
				check(k, impl.LogRecord{Command: command, Reply: reply})
			}
		}
	}
	var d dice = 941
	for i := range 500 {
		for _, e := range d.thrownRecords(3) {
			check(i%60, e)
		}
	}
}

func TestP12LogsAreTheRecordsAppended(t *testing.T) {
	for _, records := range manyRecords() {
		var l impl.Log
		for i, e := range records {
			next, code := impl.AppendRecord(l, e)
			if code != impl.LogOK {
				t.Fatal("not appended", i, code, l, e)
			}
			checkLog(t, "AppendRecord", next, impl.Log{Durable: l.Durable, Pending: l.Pending + sealedLine(i, e.Command, e.Reply), Count: i + 1})
			if l = next; i%5 == 3 {
				synced, ok := impl.SyncLog(l)
				if checkLog(t, "SyncLog", synced, impl.Log{Durable: l.Durable + l.Pending, Count: l.Count}); !ok {
					t.Error("not made durable", l)
				}
				l = synced
			}
			checkRecords(t, l, records[:i+1], true)
		}
		checkRecords(t, l, records, true)
	}
}

func TestP12LogsWithAnyPartThatIsDurable(t *testing.T) {
	for _, records := range manyRecords() {
		for durable := range len(records) + 1 {
			l := logOf(records, durable)
			checkRecords(t, l, records, true)
			synced, ok := impl.SyncLog(l)
			if checkLog(t, "SyncLog", synced, logOf(records, len(records))); !ok {
				t.Error("not made durable", l)
			}
			checkRecords(t, synced, records, true)
		}
	}
}

func TestP12IsValidLog(t *testing.T) {
	for _, l := range noLogs() {
		checkRecords(t, l, nil, false)
		synced, ok := impl.SyncLog(l)
		if checkLog(t, "SyncLog", synced, impl.Log{}); ok {
			t.Errorf("made durable: %.300v", l)
		}
		for _, keep := range []int{0, 1, len(l.Pending)} {
			left, ok := impl.CrashLog(l, keep, keep%2 == 1)
			checkText(t, fmt.Sprintf("CrashLog %.300v", l), left, ok, "", false)
		}
		same, code := impl.AppendRecord(l, impl.LogRecord{Command: "now", Reply: "0"})
		if checkLog(t, "AppendRecord", same, l); code != impl.LogInvalid {
			t.Errorf("appended, or full: %d %.300v", code, l)
		}
	}
	if full := linesOf(0, fullRecords()); len(full) > 30000 || !impl.IsValidLog(impl.Log{Durable: full, Count: 60}) {
		t.Error("no log of the longest records", len(full))
	}
}

func TestP12AppendRecordChecksInOrder(t *testing.T) {
	good, bad := impl.LogRecord{Command: "now", Reply: "0"}, impl.LogRecord{Command: "n@w"}
	full := logOf(fullRecords(), 30)
	short := logOf(fullRecords()[:59], 0)
	broken := full
	broken.Count--
	for _, x := range []struct {
		l    impl.Log
		e    impl.LogRecord
		code int
	}{
		{full, good, impl.LogFull}, {full, bad, impl.LogInvalid}, {broken, good, impl.LogInvalid}, {broken, bad, impl.LogInvalid}, {impl.Log{}, bad, impl.LogInvalid}, {impl.Log{Count: 60}, good, impl.LogInvalid}, {impl.Log{Count: 61}, good, impl.LogInvalid}, {short, bad, impl.LogInvalid}, {short, impl.LogRecord{}, impl.LogInvalid}, {short, impl.LogRecord{Command: "a", Reply: strings.Repeat("a", 201)}, impl.LogInvalid}, {logOf(fullRecords(), 60), good, impl.LogFull}, {logOf(fullRecords(), 0), good, impl.LogFull},
	} {
		same, code := impl.AppendRecord(x.l, x.e)
		if checkLog(t, "AppendRecord", same, x.l); code != x.code {
			t.Errorf("AppendRecord %.300v %v = %d, want %d", x.l, x.e, code, x.code)
		}
	}
	if l, code := impl.AppendRecord(short, good); code != impl.LogOK || l.Count != 60 || !impl.IsValidLog(l) {
		t.Error("the last record", code, l.Count)
	}
}

// checkCrash compares what survives of a log, and what is recovered from it.
func checkCrash(t *testing.T, l impl.Log, records []impl.LogRecord, keep int, torn bool) {
	t.Helper()
	want := l.Durable + l.Pending[:keep]
	if torn && keep > 0 {
		want = want[:len(want)-1] + string([]byte{255 - want[len(want)-1]})
	}
	left, ok := impl.CrashLog(l, keep, torn)
	if left != want || !ok {
		t.Fatal("CrashLog", l, keep, torn, left, want)
	}
	// The records of which all bytes are still there: a byte that is torn is never the right one.
	whole := l.Pending[:keep]
	if torn && keep > 0 {
		whole = l.Pending[:keep-1]
	}
	count := strings.Count(l.Durable+whole, "\n")
	back, size, ok := impl.RecoverLog(left)
	if !ok || size != len(linesOf(0, records[:count])) {
		t.Fatal("RecoverLog", l, keep, torn, size, count)
	}
	checkLog(t, "RecoverLog", back, logOf(records[:count], count))
	checkRecords(t, back, records[:count], true)
}

func TestP12ACrashLosesNoDurableRecord(t *testing.T) {
	for i, records := range manyRecords() {
		for durable := 0; durable <= len(records); durable += 1 + len(records)/4 {
			l := logOf(records, durable)
			step := 1
			if len(l.Pending) > 300 {
				step = 7 + i%60 + len(l.Pending)/40
			}
			for keep := 0; keep <= len(l.Pending); keep += step {
				checkCrash(t, l, records, keep, false)
				checkCrash(t, l, records, keep, true)
			}
			checkCrash(t, l, records, len(l.Pending), false)
			checkCrash(t, l, records, len(l.Pending), true)
		}
	}
}

func TestP12CrashesKeepNoMoreThanThereIs(t *testing.T) {
	records := recordsOf([2]string{"now", "0"}, [2]string{"stock", "5"})
	for durable := range 3 {
		l := logOf(records, durable)
		n := len(l.Pending)
		for _, torn := range []bool{false, true} {
			for _, keep := range append(beyond(max(1, n)), n+1, n+2, -n-2, len(l.Durable)+n+1) {
				if keep >= 0 && keep <= n {
					continue
				}
				left, ok := impl.CrashLog(l, keep, torn)
				checkText(t, fmt.Sprint("CrashLog ", l, keep, torn), left, ok, "", false)
			}
			// With nothing kept, nothing is torn: the last durable byte stays.
			left, ok := impl.CrashLog(l, 0, torn)
			checkText(t, fmt.Sprint("CrashLog ", l, 0, torn), left, ok, l.Durable, true)
		}
	}
}

func TestP12RecoverLogReadsUpToTheFirstOtherLine(t *testing.T) {
	records := recordsOf([2]string{"now", "0"}, [2]string{"0 now", "@"}, [2]string{"plan", "1 2 3"}, [2]string{"x", "?"})
	all := linesOf(0, records)
	for at := range len(all) {
		before := strings.Count(all[:at], "\n")
		for b := range 256 {
			changed := all[:at] + string([]byte{byte(b)}) + all[at+1:]
			if changed == all {
				continue
			}
			l, size, ok := impl.RecoverLog(changed)
			checkLog(t, fmt.Sprint("RecoverLog ", at, b), l, logOf(records[:before], before))
			checkNumber(t, fmt.Sprint("RecoverLog ", at, b), size, ok, len(linesOf(0, records[:before])), true)
		}
		l, size, ok := impl.RecoverLog(all[:at])
		checkLog(t, fmt.Sprint("RecoverLog, cut at ", at), l, logOf(records[:before], before))
		checkNumber(t, fmt.Sprint("RecoverLog, cut at ", at), size, ok, len(linesOf(0, records[:before])), true)
	}
	for count := range 4 {
		prefix := linesOf(0, records[:count])
		for _, line := range noLines(count) {
			for _, rest := range []string{"", sealedLine(count+1, "a", "b"), sealedLine(count, "a", "b")} {
				l, size, ok := impl.RecoverLog(prefix + line + rest)
				checkLog(t, fmt.Sprintf("RecoverLog %.200q", prefix+line+rest), l, logOf(records[:count], count))
				checkNumber(t, fmt.Sprintf("RecoverLog %.200q", prefix+line+rest), size, ok, len(prefix), true)
			}
		}
	}
}

func TestP12RecoverLogOfOtherSequenceNumbers(t *testing.T) {
	for _, x := range []struct {
		numbers []int
		count   int
	}{
		{nil, 0}, {[]int{1}, 0}, {[]int{0}, 1}, {[]int{0, 0}, 1}, {[]int{0, 2}, 1}, {[]int{0, 1, 1}, 2}, {[]int{0, 1, 3}, 2}, {[]int{1, 0}, 0}, {[]int{0, 1, 2, 4, 3}, 3}, {[]int{0, 1, 0, 1, 2}, 2}, {[]int{-1, 0}, 0}, {rise(0, 1, 60), 60}, {rise(0, 1, 61), 60}, {rise(0, 1, 70), 60}, {append(rise(0, 1, 60), 0), 60}, {append(rise(0, 1, 60), 59), 60}, {rise(1, 1, 60), 0}, {append(rise(0, 1, 59), 60), 59},
	} {
		text, size := "", 0
		for i, k := range x.numbers {
			text += sealedLine(k, "now", "0")
			if i+1 == x.count {
				size = len(text)
			}
		}
		l, got, ok := impl.RecoverLog(text)
		checkLog(t, fmt.Sprint("RecoverLog ", x.numbers), l, impl.Log{Durable: text[:size], Count: x.count})
		checkNumber(t, fmt.Sprint("RecoverLog ", x.numbers), got, ok, size, true)
		if !impl.IsValidLog(l) {
			t.Error("not a valid log", x.numbers)
		}
	}
}

func TestP12RecoverLogOfAsManyBytesAsThereMayBe(t *testing.T) {
	full := linesOf(0, fullRecords())
	three := linesOf(0, fullRecords()[:3])
	for _, x := range []struct {
		start string
		count int
	}{
		{"", 0}, {three, 3}, {full, 60},
	} {
		for _, end := range []string{"a", "\n", "#", "\xff", "0 now@0#7\n"} {
			for _, size := range []int{29998, 29999, 30000, 30001, 30002, 60000} {
				text := (x.start + strings.Repeat(end, 60000))[:size]
				want, bytes := impl.Log{Durable: x.start, Count: x.count}, len(x.start)
				if size > 30000 {
					want, bytes = impl.Log{}, 0
				}
				l, got, ok := impl.RecoverLog(text)
				checkLog(t, fmt.Sprintf("RecoverLog %.100q %d", text, size), l, want)
				checkNumber(t, fmt.Sprintf("RecoverLog %.100q %d", text, size), got, ok, bytes, size <= 30000)
			}
		}
	}
}

func TestP12RecoverLogOfAnyBytes(t *testing.T) {
	var d dice = 947
	recovered := map[int]int{}
	for i, records := range manyRecords() {
		text := linesOf(0, records)
		for range 60 {
			bytes := []byte(text)
			for range d.throw(3) {
				if len(bytes) > 0 {
					at := d.throw(len(bytes) - 1)
					switch d.throw(3) {
					case 0:
						bytes[at] = byte(d.throw(255))
					case 1:
						bytes = slices.Insert(bytes, at, byte(d.throw(255)))
					case 2:
						bytes = slices.Delete(bytes, at, at+1)
					default:
						bytes = append(bytes[:at:at], bytes[d.throw(len(bytes)-1):]...)
					}
				}
			}
			if len(bytes) > 30000 {
				continue
			}
			l, size, ok := impl.RecoverLog(string(bytes))
			if !ok || !impl.IsValidLog(l) || l.Pending != "" || l.Durable != string(bytes[:size]) || l.Count > len(records)+1 {
				t.Fatalf("RecoverLog %d %.200q = %.200v %d %t", i, bytes, l, size, ok)
			}
			// What comes behind is no encoding with the next sequence number.
			if line, _, found := strings.Cut(string(bytes[size:]), "\n"); found && l.Count < 60 {
				if impl.IsValidLog(impl.Log{Durable: l.Durable, Pending: line + "\n", Count: l.Count + 1}) {
					t.Fatalf("one more record %.200q %.200q", bytes, line)
				}
			}
			recovered[l.Count]++
		}
	}
	if len(recovered) < 20 {
		t.Error("too few lengths", recovered)
	}
}

func sameConsole(a, b impl.Console) bool {
	return sameLedger(a.Run, b.Run) && a.Log == b.Log
}

// consoleOf gives the Console of a Ledger with no records.
func consoleOf(l impl.Ledger) impl.Console {
	return impl.Console{Run: copyLedger(l)}
}

// commandWords gives each word of the table, with how many numbers it has.
func commandWords() map[string]int {
	return map[string]int{"period": 4, "need": 2, "order": 2, "step": 0, "replan": 0, "clear": 0, "now": 0, "stock": 0, "cost": 0, "ahead": 0, "short": 0, "left": 0, "plan": 0, "case": 0, "best": 0, "table": 0, "turns": 0, "horizons": 0, "prices": 0, "rule": 1, "gap": 1, "fresh": 1}
}

// listText gives the text of a list of numbers.
func listText(list []int) string {
	if len(list) == 0 {
		return "none"
	}
	return strings.Trim(fmt.Sprint(list), "[]")
}

// toldBySteps gives the reply of a command of the table for a Ledger behind its Act, if no function
// fails: what the other chapters tell of the Case is told by their functions.
func toldBySteps(l impl.Ledger, word string, x int) (string, bool) {
	number := func(n int, ok bool) (string, bool) { return strconv.Itoa(n), ok }
	list := func(n []int, ok bool) (string, bool) { return listText(n), ok }
	switch word {
	case "period":
		return number(len(l.Plan), true)
	case "need", "order", "clear", "short":
		return list(shortOfLedger(l), true)
	case "step", "stock":
		return number(stockBehindPeriods(l, l.Now), true)
	case "replan", "plan":
		return list(l.Plan, true)
	case "now":
		return number(l.Now, true)
	case "cost":
		return number(costOfPeriods(l, 0, l.Now), true)
	case "ahead":
		return number(costOfPeriods(l, l.Now, len(l.Plan)), len(shortOfLedger(l)) == 0)
	case "left":
		return list(leftBySteps(l), true)
	case "case":
		return impl.CaseText(l.Case)
	case "best":
		return number(impl.BestCost(l.Case))
	case "table":
		return list(impl.ForwardCosts(l.Case))
	case "turns":
		return list(impl.TurningPeriods(l.Case))
	case "horizons":
		return list(impl.HorizonsOf(l.Case))
	case "prices":
		return list(impl.FairPrices(l.Case))
	case "rule":
		return list(impl.RulePeriods(l.Case, x))
	case "gap":
		return number(impl.RuleGap(l.Case, x))
	case "fresh":
		_, cost, ok := impl.BestFresh(l.Case, x)
		return number(cost, ok)
	}
	return "", false
}

// commandBySteps gives the Ledger behind a command and its reply by the document's table.
func commandBySteps(l impl.Ledger, line string) (impl.Ledger, string) {
	words := strings.Split(line, " ")
	count, known := commandWords()[words[0]]
	if !known || len(words) != count+1 {
		return l, "?"
	}
	var x [4]int
	for i, word := range words[1:] {
		n, err := strconv.Atoi(word)
		if err != nil || strconv.Itoa(n) != word || n < -999999 || n > 999999 {
			return l, "?"
		}
		x[i] = n
	}
	kinds := map[string]int{"period": 1, "need": 2, "order": 3, "step": 4, "replan": 5, "clear": 6}
	next := l
	if kind := kinds[words[0]]; kind > 0 {
		behind, ok := actBySteps(l, impl.Act{Kind: kind, A: x[0], B: x[1], C: x[2], D: x[3]})
		if !ok {
			return l, "?"
		}
		next = behind
	}
	reply, ok := toldBySteps(next, words[0], x[0])
	if !ok {
		return l, "?"
	}
	return next, reply
}

// checkCommand compares the Console behind a command line and its reply.
func checkCommand(t *testing.T, c impl.Console, line string) (impl.Console, string) {
	t.Helper()
	before := impl.Console{Run: copyLedger(c.Run), Log: c.Log}
	want, reply := before, ""
	switch {
	case !isSomeLedger(c.Run) || !impl.IsValidLog(c.Log):
		reply = "no"
	case !isSomeText(line, 1, 160, "#@"):
		reply = "bad"
	case c.Log.Count == 60:
		reply = "full"
	default:
		want.Run, reply = commandBySteps(c.Run, line)
		want.Log.Pending += sealedLine(c.Log.Count, line, reply)
		want.Log.Count++
	}
	next, got := impl.ExecuteCommand(c, line)
	if got != reply || !sameConsole(next, want) {
		t.Errorf("ExecuteCommand %.400v %.170q = %.400v %q, want %.400v %q", before, line, next, got, want, reply)
	}
	if !sameConsole(c, before) {
		t.Fatal("the Console is another one", c, before)
	}
	if impl.IsValidConsole(next) != (reply != "no") {
		t.Errorf("IsValidConsole %.400v", next)
	}
	return next, got
}

// numberWord gives the text of a number of a command; some are not as the table wants them.
func (d *dice) numberWord(x int) string {
	if d.throw(40) == 0 {
		return []string{"", "01", "+1", "-0", "x", "1000000", "1.0", "-"}[d.throw(7)]
	}
	return strconv.Itoa(x)
}

// thrownLine gives a command line that often does something in a Ledger.
func (d *dice) thrownLine(l impl.Ledger) string {
	a := d.thrownAct(l)
	line := ""
	switch d.throw(8) {
	case 0, 1, 2, 3:
		named := []int{0, 4, 2, 2, 0, 0, 0, 0}[max(0, min(7, a.Kind))]
		line = []string{"", "period", "need", "order", "step", "replan", "clear", "what"}[max(0, min(7, a.Kind))]
		for _, x := range []int{a.A, a.B, a.C, a.D}[:named] {
			line += " " + d.numberWord(x)
		}
	case 4:
		line = []string{"rule ", "gap ", "fresh "}[d.throw(2)] + d.numberWord(d.throw(9))
	default:
		words := strings.Fields("step replan clear now stock cost ahead short left plan case best table turns horizons prices")
		line = words[d.throw(len(words)-1)]
	}
	if d.throw(20) == 0 {
		return []string{line + " ", " " + line, line + " 1", strings.ToUpper(line), line + "#", line + "@", "", line + "\n", line + strings.Repeat(" 1", 80)}[d.throw(8)]
	}
	return line
}

// exampleLedger gives the Ledger of the examples at its beginning.
func exampleLedger() impl.Ledger {
	return ledgerOf(caseOf([4]int{2, 5, 1, 1}, [4]int{0, 7, 2, 3}, [4]int{3, 4, 1, 2}), 0, 0, 0, 0)
}

func TestP12ConsoleExamples(t *testing.T) {
	c, ok := impl.NewConsole(exampleLedger())
	if !ok || !impl.IsValidConsole(c) || !sameConsole(c, consoleOf(exampleLedger())) {
		t.Fatal("NewConsole", c, ok)
	}
	for _, x := range [][2]string{
		{"now", "0"}, {"stock", "0"}, {"cost", "0"}, {"short", "0 1 2"}, {"ahead", "?"}, {"left", "2 0 3"}, {"plan", "0 0 0"}, {"case", "2/5/1/1 0/7/2/3 3/4/1/2"}, {"step", "?"}, {"order 0 4", "2"}, {"short", "2"}, {"step", "2"}, {"now", "1"}, {"cost", "11"}, {"ahead", "?"}, {"left", "0 1"}, {"need 0 1", "?"}, {"order 0 1", "?"}, {"replan", "4 0 1"}, {"short", "none"}, {"ahead", "11"}, {"order 2 9", "none"}, {"ahead", "35"}, {"clear", "2"}, {"plan", "4 0 0"}, {"need 2 1", "none"}, {"ahead", "8"}, {"need 2 21", "?"}, {"order 2 201", "?"}, {"order 1 200", "none"}, {"clear", "none"}, {"need 2 3", "2"},
		{"period 20 99 9 9", "4"}, {"period 0 0 0 10", "?"}, {"best", "74"}, {"table", "0 7 7 14 74"}, {"turns", "0 1 2 4"}, {"horizons", "1 3"}, {"prices", "7 0 7 60"}, {"rule 1", "0 2 3"}, {"rule 4", "?"}, {"gap 1", "219"}, {"gap 0", "?"}, {"fresh 1", "293"}, {"fresh 9", "?"}, {"step", "2"}, {"step", "?"}, {"replan", "4 0 21 0"}, {"step", "20"}, {"step", "0"}, {"left", "none"}, {"now", "4"}, {"step", "?"}, {"cost", "82"}, {"ahead", "0"}, {"what", "?"}, {"short", "none"}, {"replan", "4 0 21 0"}, {"clear", "none"},
	} {
		next, reply := checkCommand(t, c, x[0])
		if reply != x[1] {
			t.Errorf("%q = %q, want %q", x[0], reply, x[1])
		}
		c = next
	}
	n, ok := impl.ReplayLog(exampleLedger(), c.Log)
	checkNumber(t, "ReplayLog", n, ok, c.Log.Count, true)
}

func TestP12ConsoleOfNoPeriods(t *testing.T) {
	c, _ := impl.NewConsole(impl.Ledger{})
	for _, x := range [][2]string{
		{"now", "0"}, {"stock", "0"}, {"cost", "0"}, {"ahead", "0"}, {"short", "none"}, {"left", "none"}, {"plan", "none"}, {"case", "none"}, {"best", "0"}, {"table", "0"}, {"turns", "0"}, {"horizons", "none"}, {"prices", "none"}, {"rule 1", "none"}, {"gap 3", "0"}, {"fresh 8", "0"}, {"step", "?"}, {"replan", "none"}, {"clear", "none"}, {"order 0 0", "?"}, {"need 0 0", "?"}, {"period 3 2 1 1", "1"}, {"short", "0"}, {"replan", "3"}, {"step", "0"}, {"period 0 0 0 0", "2"}, {"step", "0"}, {"cost", "5"},
	} {
		next, reply := checkCommand(t, c, x[0])
		if reply != x[1] {
			t.Errorf("%q = %q, want %q", x[0], reply, x[1])
		}
		c = next
	}
}

func TestP12EachCommandOfTheTable(t *testing.T) {
	var d dice = 953
	done, not := map[string]int{}, map[string]int{}
	for _, l := range manyLedgers() {
		a := d.thrownAct(l)
		for word, count := range commandWords() {
			line := word
			numbers := []int{a.A, a.B, a.C, a.D}
			if count == 1 {
				numbers = []int{d.throw(10) - 1}
			}
			for _, x := range numbers[:count] {
				line += " " + strconv.Itoa(x)
			}
			if _, reply := checkCommand(t, consoleOf(l), line); reply == "?" {
				not[word]++
			} else {
				done[word]++
			}
		}
		if t.Failed() {
			return
		}
	}
	for word := range commandWords() {
		fails := slices.Contains(strings.Fields("period need order step ahead rule gap fresh"), word)
		if done[word] < 100 || fails != (not[word] > 100) || !fails && not[word] > 0 {
			t.Error("too few that have another reply, or that fail", word, done[word], not[word])
		}
	}
}

func TestP12RepliesAreWhatTheFunctionsOfTheirChaptersReturn(t *testing.T) {
	for _, c := range fullCases() {
		l, _ := impl.NewLedger(c)
		text, one := impl.CaseText(c)
		best, two := impl.BestCost(c)
		table, three := impl.ForwardCosts(c)
		turns, four := impl.TurningPeriods(c)
		horizons, five := impl.HorizonsOf(c)
		prices, six := impl.FairPrices(c)
		if !one || !two || !three || !four || !five || !six {
			t.Fatal("fails", c)
		}
		want := []string{text, strconv.Itoa(best), listText(table), listText(turns), listText(horizons), listText(prices)}
		lines := strings.Fields("case best table turns horizons prices")
		for rule := range 5 {
			periods, fine := impl.RulePeriods(c, rule)
			gap, ok := impl.RuleGap(c, rule)
			if told := []string{listText(periods), strconv.Itoa(gap)}; fine && ok {
				want = append(want, told...)
			} else {
				want = append(want, "?", "?")
			}
			lines = append(lines, fmt.Sprint("rule ", rule), fmt.Sprint("gap ", rule))
		}
		for life := range 10 {
			if _, cost, ok := impl.BestFresh(c, life); ok {
				want = append(want, strconv.Itoa(cost))
			} else {
				want = append(want, "?")
			}
			lines = append(lines, fmt.Sprint("fresh ", life))
		}
		replies, ok := impl.RunScript(consoleOf(l), strings.Join(lines, "\n"))
		if !ok || !slices.Equal(replies, want) {
			t.Fatal("other replies", c, lines, replies, want)
		}
	}
}

func TestP12CommandsThatAreNotAsTheTableHasThem(t *testing.T) {
	c := consoleOf(ledgerOf(sameRows(4, [4]int{2, 5, 1, 1}), 1, 3, 1, 4, 0))
	lines := []string{" ", "  ", "?", "0", "what", "noww", "no", "steps", "plans", "none", "now\x20", "case none", "PLAN", "Plan", "plan,", "period", "need", "order", "rule", "gap", "fresh", "now now", "step step", "-", "\"now\"", "now.", strings.Repeat("a", 160), strings.Repeat(" ", 160), "now" + strings.Repeat(" ", 157), strings.Repeat("1 ", 80)}
	for word, count := range commandWords() {
		numbers := []string{" 1", " 2", " 3", " 4"}
		right := word + strings.Join(numbers[:count], "")
		if _, reply := checkCommand(t, c, right); reply == "?" {
			t.Error("this one does something", right)
		}
		for n := range 6 {
			if n != count {
				lines = append(lines, word+strings.Repeat(" 1", n), word+strings.Repeat(" 0", n))
			}
		}
		lines = append(lines, right+" ", " "+right, strings.ToUpper(right), "x"+right, word+"x"+right[len(word):], word+" "+right[len(word):], right+"  1", strings.ReplaceAll(right, " ", "  ")+" ", word[:len(word)-1]+right[len(word):], word+word, word+","+right[len(word):]+" ")
		for at := range count {
			for _, x := range []string{"", "x", "01", "+1", "-0", "00", "1x", "x1", "0x1", "1.0", "1,0", "1e0", "--1", "1000000", "-1000000", "9223372036854775808", "18446744073709551617", "4294967297", "-", "+", "one"} {
				changed := slices.Clone(numbers[:count])
				changed[at] = " " + x
				lines = append(lines, word+strings.Join(changed, ""))
			}
		}
	}
	for _, line := range lines {
		next, reply := checkCommand(t, c, line)
		if reply != "?" || !sameLedger(next.Run, c.Run) || next.Log.Count != 1 || next.Log.Pending != sealedLine(0, line, "?") {
			t.Errorf("%q = %q, %v", line, reply, next)
		}
	}
	if len(lines) < 400 {
		t.Error("too few lines", len(lines))
	}
}

func TestP12ActsOfCommandsThatAreNotPossible(t *testing.T) {
	l := ledgerOf(sameRows(8, [4]int{2, 5, 1, 1}), 3, 3, 1, 4, 1, 2, 0, 0, 9)
	short := ledgerOf(sameRows(3, [4]int{2, 5, 1, 1}), 1, 2, 1, 3)
	over := ledgerOf(sameRows(2, [4]int{2, 5, 1, 1}), 2, 2, 2)
	for _, x := range []struct {
		l     impl.Ledger
		lines []string
	}{
		{l, []string{"period 1 1 1 1", "period 0 0 0 0", "need 2 1", "need 0 2", "need 8 1", "need -1 1", "need 3 21", "need 3 -1", "order 2 4", "order 8 1", "order 3 201", "order 3 -1", "order -1 0", "rule 0", "rule 4", "gap -1", "gap 4", "fresh 0", "fresh 9", "fresh -1", "rule 999999", "fresh -999999"}},
		{short, []string{"step", "ahead", "period 21 1 1 1", "period 1 100 1 1", "period 1 1 10 1", "period 1 1 1 10", "period -1 1 1 1", "need 0 2", "need 3 2", "order 0 2", "order 3 2"}},
		{over, []string{"step", "need 0 2", "need 1 2", "need 2 2", "order 1 2", "order 2 2"}},
	} {
		for _, line := range x.lines {
			next, reply := checkCommand(t, consoleOf(x.l), line)
			if reply != "?" || !sameLedger(next.Run, x.l) || next.Log.Count != 1 {
				t.Error("possible", x.l, line, reply, next)
			}
		}
	}
}

// noConsoles gives Consoles that are not valid.
func noConsoles() []impl.Console {
	var bad []impl.Console
	for _, l := range noLedgers() {
		bad = append(bad, impl.Console{Run: l}, impl.Console{Run: l, Log: logOf(recordsOf([2]string{"now", "0"}), 1)})
	}
	for _, log := range noLogs() {
		bad = append(bad, impl.Console{Run: exampleLedger(), Log: log})
	}
	return append(bad, impl.Console{Run: impl.Ledger{Now: 1}, Log: impl.Log{Count: 1}})
}

func TestP12ConsolesThatAreNone(t *testing.T) {
	for _, c := range noConsoles() {
		if impl.IsValidConsole(c) {
			t.Errorf("a valid Console: %.300v", c)
		}
		for _, line := range []string{"now", "step", "", "n@w", strings.Repeat("a", 161)} {
			if _, reply := checkCommand(t, c, line); reply != "no" {
				t.Errorf("%q for %.300v %q", reply, c, line)
			}
		}
		for _, text := range []string{"", "now", "now\nstep"} {
			replies, ok := impl.RunScript(c, text)
			if len(replies) > 0 || ok {
				t.Errorf("replies of %.300v: %q", c, replies)
			}
		}
		if t.Failed() {
			return
		}
	}
	records := fullRecords()
	for i, l := range manyLedgers() {
		log := logOf(records[:i%7], i%7/2)
		if !impl.IsValidConsole(impl.Console{Run: l, Log: log}) {
			t.Error("not a valid Console", l)
		}
	}
}

func TestP12NewConsole(t *testing.T) {
	for _, l := range manyLedgers() {
		if c, ok := impl.NewConsole(l); !ok || !sameConsole(c, impl.Console{Run: l}) || !impl.IsValidConsole(c) {
			t.Error("NewConsole", l, c, ok)
		}
	}
	for _, l := range noLedgers() {
		if c, ok := impl.NewConsole(l); ok || !sameConsole(c, impl.Console{}) {
			t.Error("NewConsole", l, c, ok)
		}
	}
}

func TestP12NoThenBadThenFull(t *testing.T) {
	full := impl.Console{Run: exampleLedger(), Log: logOf(fullRecords(), 60)}
	nearly := impl.Console{Run: exampleLedger(), Log: logOf(fullRecords()[:59], 20)}
	none := impl.Console{Run: ledgerOf(sameRows(1, [4]int{}), 2, 0), Log: full.Log}
	bad := []string{"", "#", "@", "now#", "n@w", "now\n", "\t", "\x1f", "\x7f", "\x00", "\u00e9", strings.Repeat("a", 161), strings.Repeat("now ", 2000)}
	for _, line := range append(bad, "plan", "need 0 9", "what", " ", strings.Repeat("a", 160)) {
		ofFull, ofNearly := "full", map[string]string{"plan": "0 0 0", "need 0 9": "0 1 2"}[line]
		if ofNearly == "" {
			ofNearly = "?"
		}
		if slices.Contains(bad, line) {
			ofFull, ofNearly = "bad", "bad"
		}
		for _, x := range []struct {
			c    impl.Console
			want string
		}{
			{none, "no"}, {full, ofFull}, {nearly, ofNearly},
		} {
			next, reply := checkCommand(t, x.c, line)
			if reply != x.want {
				t.Errorf("%q for %q, want %q", reply, line, x.want)
			}
			if refused := slices.Contains([]string{"no", "bad", "full"}, x.want); refused != sameConsole(next, x.c) {
				t.Errorf("another Console behind %q, or the same", line)
			}
		}
	}
	for b := range 256 {
		line := "now" + string([]byte{byte(b)})
		want := "bad"
		if b >= 32 && b <= 126 && b != '#' && b != '@' {
			want = "?"
		}
		if _, reply := checkCommand(t, consoleOf(exampleLedger()), line); reply != want {
			t.Errorf("%q for %q, want %q", reply, line, want)
		}
	}
}

// runLines executes lines one after the other, and looks at each of them.
func runLines(t *testing.T, c impl.Console, lines []string) (impl.Console, []string) {
	t.Helper()
	var replies []string
	for _, line := range lines {
		next, reply := checkCommand(t, c, line)
		replies = append(replies, reply)
		c = next
	}
	return c, replies
}

func TestP12ThrownScriptsAndTheirReplay(t *testing.T) {
	var d dice = 967
	replies, lengths := map[string]int{}, map[int]int{}
	for i := range 400 {
		start := d.thrownLedger(i % 9)
		c := consoleOf(start)
		var lines []string
		for range []int{5, 12, 30, 30, 64}[i%5] {
			line := d.thrownLine(c.Run)
			next, reply := checkCommand(t, c, line)
			lines, c = append(lines, line), next
			replies[reply]++
			if !impl.IsLedger(c.Run) {
				t.Fatal("not a Ledger", c.Run, line)
			}
			if d.throw(12) == 0 {
				c.Log, _ = impl.SyncLog(c.Log)
			}
		}
		checkScript(t, consoleOf(start), lines)
		n, ok := impl.ReplayLog(start, c.Log)
		checkNumber(t, fmt.Sprint("ReplayLog ", start, lines), n, ok, c.Log.Count, true)
		records, _ := impl.LogRecords(c.Log)
		checkRecords(t, c.Log, records, true)
		lengths[len(records)]++
		checkChangedReplies(t, start, records)
	}
	if replies["?"] < 1000 || replies["bad"] < 50 || replies["full"] < 50 || replies["none"] < 500 || len(replies) < 500 || lengths[60] < 50 {
		t.Error("too few of one kind", replies["?"], replies["bad"], replies["full"], replies["none"], len(replies), lengths)
	}
}

// checkScript compares the replies of a script with those of one line after the other.
func checkScript(t *testing.T, c impl.Console, lines []string) {
	t.Helper()
	// A line with a newline is two lines of a script.
	text := strings.Join(lines, "\n")
	parts := strings.Split(text, "\n")
	var want []string
	is := len(parts) <= 30 && len(text) <= 4000
	if is {
		_, want = runLines(t, c, parts)
	}
	got, ok := impl.RunScript(c, text)
	if !slices.Equal(got, want) || ok != is {
		t.Errorf("RunScript %.200q = %q, %t, want %q, %t", text, got, ok, want, is)
	}
}

// checkChangedReplies looks for the first record whose reply was changed.
func checkChangedReplies(t *testing.T, start impl.Ledger, records []impl.LogRecord) {
	t.Helper()
	for at := 0; at < len(records); at += 1 + len(records)/6 {
		changed := slices.Clone(records)
		for k := at; k < len(records); k += 1 + at%3 {
			changed[k].Reply = []string{records[k].Reply + " ", "?" + records[k].Reply, strings.ToUpper(records[k].Reply + "x"), "0 " + records[k].Reply}[(at+k)%4]
			if at%2 == 0 {
				break
			}
		}
		n, ok := impl.ReplayLog(start, logOf(changed, at))
		checkNumber(t, fmt.Sprint("ReplayLog ", start, changed), n, ok, at, true)
	}
}

func TestP12RunScriptExamples(t *testing.T) {
	c := consoleOf(exampleLedger())
	lines := func(n int, line string) string { return strings.TrimSuffix(strings.Repeat(line+"\n", n), "\n") }
	for _, x := range []struct {
		text string
		want []string
	}{
		{"", []string{"bad"}}, {"\n", []string{"bad", "bad"}}, {"now", []string{"0"}}, {"now\n", []string{"0", "bad"}}, {"\nnow", []string{"bad", "0"}}, {"replan\n\nstep\nnow", []string{"2 0 3", "bad", "0", "1"}}, {"now\r\nnow", []string{"bad", "0"}}, {"step\nnow\nwhat", []string{"?", "0", "?"}}, {"order 0 9\nstep\nstep\nstep\nstep\nstock\nnow", []string{"none", "7", "7", "4", "?", "4", "3"}}, {"n@w\n#\nnow", []string{"bad", "bad", "0"}},
		{lines(30, "now"), slices.Repeat([]string{"0"}, 30)}, {lines(31, "now"), nil}, {lines(29, "now") + "\n", append(slices.Repeat([]string{"0"}, 29), "bad")}, {lines(30, "now") + "\n", nil}, {strings.Repeat("\n", 29), slices.Repeat([]string{"bad"}, 30)}, {strings.Repeat("\n", 30), nil}, {strings.Repeat("a", 4000), []string{"bad"}}, {strings.Repeat("a", 4001), nil}, {strings.Repeat(strings.Repeat("a", 160)+"\n", 24) + "now", append(slices.Repeat([]string{"?"}, 24), "0")}, {strings.Repeat("a", 3996) + "\nnow", []string{"bad", "0"}}, {strings.Repeat("a", 3997) + "\nnow", nil}, {strings.Repeat("now\n", 1<<20), nil},
	} {
		got, ok := impl.RunScript(c, x.text)
		if !slices.Equal(got, x.want) || ok != (x.want != nil) {
			t.Errorf("RunScript %.100q = %q, %t, want %q", x.text, got, ok, x.want)
		}
	}
	for n := range 40 {
		if n > 0 {
			checkScript(t, c, slices.Repeat([]string{"stock"}, n))
		}
		// The Console has so many records before, and is full on the way.
		records := slices.Repeat(recordsOf([2]string{"now", "0"}), 60-n)
		checkScript(t, impl.Console{Run: exampleLedger(), Log: logOf(records, min(n, 20))}, slices.Repeat([]string{"replan"}, 20))
	}
	for size := 3900; size <= 4100; size++ {
		checkScript(t, c, []string{"now", strings.Repeat("b", size-7), "now"}[:2+size%2])
	}
}

func TestP12ReplayLogExamples(t *testing.T) {
	l := exampleLedger()
	good := recordsOf([2]string{"order 0 4", "2"}, [2]string{"step", "2"}, [2]string{"what", "?"}, [2]string{"replan", "4 0 1"}, [2]string{"ahead", "11"}, [2]string{"now", "1"})
	for durable := range len(good) + 1 {
		n, ok := impl.ReplayLog(l, logOf(good, durable))
		checkNumber(t, fmt.Sprint("ReplayLog ", durable), n, ok, 6, true)
	}
	for _, x := range []struct {
		l       impl.Ledger
		records []impl.LogRecord
		want    int
	}{
		{l, nil, 0}, {l, good[:1], 1}, {l, good[1:], 0}, {l, recordsOf([2]string{"now", "1"}), 0}, {l, recordsOf([2]string{"now", "0"}, [2]string{"now", ""}), 1}, {l, append(slices.Clone(good[:2]), good[3:]...), 5}, {l, append(slices.Clone(good[:1]), good[2:]...), 2}, {ledgerOf(l.Case, 0, 4, 0, 0), good[1:], 5}, {ledgerOf(l.Case, 1, 4, 0, 0), good[2:], 4}, {ledgerOf(l.Case, 1, 4, 0, 0), good, 0}, {impl.Ledger{}, good, 0}, {impl.Ledger{}, nil, 0}, {impl.Ledger{}, recordsOf([2]string{"now", "0"}, [2]string{"plan", "none"}), 2}, {l, recordsOf([2]string{"what", "no"}), 0}, {l, slices.Repeat(recordsOf([2]string{"now", "0"}), 60), 60}, {l, append(slices.Repeat(recordsOf([2]string{"now", "0"}), 59), recordsOf([2]string{"now", "full"})...), 59},
	} {
		n, ok := impl.ReplayLog(x.l, logOf(x.records, 0))
		checkNumber(t, fmt.Sprint("ReplayLog ", x.l, x.records), n, ok, x.want, true)
	}
	for _, bad := range noLedgers() {
		n, ok := impl.ReplayLog(bad, logOf(good, 3))
		checkNumber(t, fmt.Sprint("ReplayLog ", bad), n, ok, 0, false)
	}
	for _, log := range noLogs() {
		n, ok := impl.ReplayLog(l, log)
		checkNumber(t, fmt.Sprintf("ReplayLog %.200v", log), n, ok, 0, false)
	}
}

func TestP12WhatIsRecoveredIsReplayed(t *testing.T) {
	var d dice = 971
	for i := range 60 {
		start := d.thrownLedger(i % 9)
		c := consoleOf(start)
		for k := range 20 {
			if c, _ = impl.ExecuteCommand(c, d.thrownLine(c.Run)); k == i%20 {
				c.Log, _ = impl.SyncLog(c.Log)
			}
		}
		for keep := 0; keep <= len(c.Log.Pending); keep += 1 + d.throw(20) {
			left, _ := impl.CrashLog(c.Log, keep, keep%2 == 0)
			back, _, ok := impl.RecoverLog(left)
			n, fine := impl.ReplayLog(start, back)
			if !ok || !fine || n != back.Count || n < strings.Count(c.Log.Durable, "\n") {
				t.Fatal("not all replayed, or not all recovered", start, c.Log, keep, n, back.Count)
			}
		}
	}
}

// ledgerArgs are arguments of the functions of the chapter.
type ledgerArgs struct {
	c       impl.Case
	l       impl.Ledger
	a       impl.Act
	acts    []impl.Act
	k       int
	e       impl.LogRecord
	log     impl.Log
	keep    int
	torn    bool
	bytes   string
	console impl.Console
	line    string
	text    string
}

// ledgerCalls calls each function of the chapter that is told of Ledgers and Consoles, and of logs.
func ledgerCalls(x ledgerArgs) []lotCall {
	var calls []lotCall
	add := func(name string, ok bool, results ...any) { calls = append(calls, lotCall{name, results, ok}) }
	add("IsLedger", true, impl.IsLedger(x.l))
	begun, ok := impl.NewLedger(x.c)
	add("NewLedger", ok, begun)
	behind, ok := impl.ActLedger(x.l, x.a)
	add("ActLedger", ok, behind)
	behind, many, ok := impl.ActAll(x.l, x.acts)
	add("ActAll", ok, behind, many)
	stock, ok := impl.StockNow(x.l)
	add("StockNow", ok, stock)
	cost, ok := impl.CostNow(x.l)
	add("CostNow", ok, cost)
	short, ok := impl.ShortPeriods(x.l)
	add("ShortPeriods", ok, short)
	ahead, ok := impl.CostAhead(x.l)
	add("CostAhead", ok, ahead)
	left, ok := impl.NeedsLeft(x.l)
	add("NeedsLeft", ok, left)
	console, ok := impl.NewConsole(x.l)
	add("NewConsole", ok, console)
	add("IsValidConsole", true, impl.IsValidConsole(x.console))
	next, reply := impl.ExecuteCommand(x.console, x.line)
	add("ExecuteCommand", true, next, reply)
	replies, ok := impl.RunScript(x.console, x.text)
	add("RunScript", ok, replies)
	replayed, ok := impl.ReplayLog(x.l, x.log)
	add("ReplayLog", ok, replayed)
	return append(calls, logCalls(x)...)
}

// logCalls calls each function of records and logs.
func logCalls(x ledgerArgs) []lotCall {
	line, one := impl.EncodeRecord(x.k, x.e)
	longer, code := impl.AppendRecord(x.log, x.e)
	synced, two := impl.SyncLog(x.log)
	left, three := impl.CrashLog(x.log, x.keep, x.torn)
	back, size, four := impl.RecoverLog(x.bytes)
	records, five := impl.LogRecords(x.log)
	return []lotCall{{"IsValidRecord", []any{impl.IsValidRecord(x.e)}, true}, {"EncodeRecord", []any{line}, one}, {"IsValidLog", []any{impl.IsValidLog(x.log)}, true}, {"AppendRecord", []any{longer, code}, true}, {"SyncLog", []any{synced}, two}, {"CrashLog", []any{left}, three}, {"RecoverLog", []any{back, size}, four}, {"LogRecords", []any{records}, five}}
}

// isOfLedgers tells of which functions a Ledger is an argument, beside IsLedger.
func isOfLedgers(name string) bool {
	return slices.Contains([]string{"ActLedger", "ActAll", "StockNow", "CostNow", "ShortPeriods", "CostAhead", "NeedsLeft", "NewConsole", "ReplayLog"}, name)
}

// isOfLogs tells of which functions a log is an argument, beside IsValidLog and AppendRecord.
func isOfLogs(name string) bool {
	return slices.Contains([]string{"SyncLog", "CrashLog", "LogRecords", "ReplayLog"}, name)
}

// manyLedgerArgs gives arguments of which all are valid, and others of which some are not.
func manyLedgerArgs() []ledgerArgs {
	var d dice = 977
	ledgers, logs, cases, consoles := noLedgers(), noLogs(), noCases(), noConsoles()
	var found []ledgerArgs
	for i := range 500 {
		records := d.thrownRecords(i % 7)
		log := logOf(records, d.throw(len(records)))
		l := d.thrownLedger(i % 9)
		good := ledgerArgs{c: d.thrownCase(i%9, 20, 99, 9), l: l, a: d.thrownAct(l), k: d.throw(59), e: d.thrownRecords(1)[0], log: log, keep: d.throw(len(log.Pending)), torn: i%2 == 0, bytes: log.Durable + log.Pending, console: impl.Console{Run: d.thrownLedger(i / 9 % 9), Log: log}}
		for range i % 5 {
			good.acts = append(good.acts, d.thrownAct(l))
		}
		good.line = d.thrownLine(good.console.Run)
		good.text = good.line + "\n" + d.thrownLine(good.console.Run)
		found = append(found, good)
		x := good
		x.c, x.l, x.e, x.text = cases[i%len(cases)], ledgers[d.throw(len(ledgers)-1)], impl.LogRecord{Command: "n@w", Reply: "0"}, strings.Repeat("now\n", 30+i%5)
		found = append(found, x)
		x = good
		x.log, x.a, x.k, x.bytes = logs[d.throw(len(logs)-1)], impl.Act{Kind: beyond(6)[i%10]}, append(beyond(59), 60)[i%11], strings.Repeat("a", 30001+i)
		found = append(found, x)
		x = good
		x.console, x.keep, x.a = consoles[d.throw(len(consoles)-1)], len(log.Pending)+1+i%3, impl.Act{Kind: 3, A: beyond(8)[i%10], B: 5}
		found = append(found, x)
	}
	return append(found, ledgerArgs{}, ledgerArgs{console: impl.Console{Run: exampleLedger(), Log: logOf(fullRecords(), 7)}, log: logOf(fullRecords(), 60), line: "step", text: "step"})
}

func TestP13LedgerFunctionsFailWithoutALedgerOrALog(t *testing.T) {
	for _, log := range noLogs() {
		for _, call := range ledgerCalls(ledgerArgs{a: impl.Act{Kind: 5}, log: log, e: impl.LogRecord{Command: "a"}, bytes: "a", text: "now"}) {
			if call.name == "IsValidLog" && call.results[0] != false {
				t.Errorf("a log: %.200v", log)
			}
			if isOfLogs(call.name) {
				checkAllFail(t, []lotCall{call})
			} else {
				checkNoneFails(t, []lotCall{call})
			}
		}
	}
	for _, c := range noCases() {
		for _, call := range ledgerCalls(ledgerArgs{c: c, a: impl.Act{Kind: 5}, e: impl.LogRecord{Command: "a"}}) {
			if call.name == "NewLedger" {
				checkAllFail(t, []lotCall{call})
			} else {
				checkNoneFails(t, []lotCall{call})
			}
		}
	}
}

func TestP13WhereLedgerFunctionsFailAllResultsAreZero(t *testing.T) {
	var calls []lotCall
	for _, x := range manyLedgerArgs() {
		calls = append(calls, ledgerCalls(x)...)
	}
	checkEachFailsAndDoesNot(t, calls, 22, "IsLedger", "IsValidRecord", "IsValidLog", "IsValidConsole", "AppendRecord", "ExecuteCommand")
}

// roomyLedgers gives the same arguments in memory that goes on behind them, and all this memory.
func roomyLedgers(x ledgerArgs) (ledgerArgs, [][]int, []impl.Act) {
	var memory [][]int
	alone := impl.Ledger{Case: x.c}
	for _, l := range []*impl.Ledger{&x.l, &x.console.Run, &alone} {
		for _, list := range []*[]int{&l.Case.Need, &l.Case.Setup, &l.Case.Unit, &l.Case.Hold, &l.Plan} {
			roomy, all := withRoom(*list)
			*list = roomy
			memory = append(memory, all)
		}
	}
	x.c = alone.Case
	acts := append(slices.Clone(x.acts), impl.Act{Kind: 71}, impl.Act{Kind: 72}, impl.Act{Kind: 73})
	x.acts = acts[:len(x.acts)]
	return x, memory, acts
}

func TestP13LedgerFunctionsLeaveTheirArguments(t *testing.T) {
	for _, x := range manyLedgerArgs() {
		given, memory, acts := roomyLedgers(x)
		lists, list := copyTable(memory), slices.Clone(acts)
		calls := ledgerCalls(given)
		checkResultsAreApart(t, calls)
		if !slices.EqualFunc(memory, lists, slices.Equal[[]int]) || !slices.Equal(acts, list) {
			t.Fatal("changed", x, given, memory, acts)
		}
		if again := ledgerCalls(x); !slices.EqualFunc(again, calls, func(a, b lotCall) bool { return a.ok == b.ok }) {
			t.Fatal("another answer", x, again, calls)
		}
	}
}

func TestP13LedgerFunctionsReturnTheSameAgain(t *testing.T) {
	for _, x := range manyLedgerArgs() {
		first := ledgerCalls(x)
		checkResultsAreApart(t, ledgerCalls(x))
		for _, call := range ledgerCalls(x) {
			switch list := call.results[0].(type) {
			case []string:
				clear(list)
				_ = append(list, "more")
			case []impl.LogRecord:
				clear(list)
				_ = append(list, impl.LogRecord{Command: "more"})
			}
		}
		if second := ledgerCalls(x); !reflect.DeepEqual(first, second) {
			t.Fatal("another result", first, second)
		}
	}
}

func TestP13ActsThatChangeNothingShareNoMemory(t *testing.T) {
	for _, l := range manyLedgers() {
		want := copyLedger(l)
		ahead := len(l.Plan) - 1
		var found []impl.Ledger
		add := func(next impl.Ledger, ok bool) {
			if ok {
				found = append(found, next)
			}
		}
		for _, a := range []impl.Act{{Kind: 4}, {Kind: 5}, {Kind: 6}, {Kind: 1}, {Kind: 2, A: ahead}, {Kind: 3, A: ahead}} {
			add(impl.ActLedger(l, a))
		}
		for _, list := range [][]impl.Act{nil, {{}}, {{Kind: 4}}, {{Kind: 6}, {Kind: 5}}} {
			next, _, ok := impl.ActAll(l, list)
			add(next, ok)
		}
		c, _ := impl.NewConsole(l)
		found = append(found, c.Run)
		for _, line := range []string{"now", "", "step", "plan", "replan", "what"} {
			next, _ := impl.ExecuteCommand(impl.Console{Run: l}, line)
			refused, _ := impl.ExecuteCommand(impl.Console{Run: l, Log: impl.Log{Count: 1}}, line)
			found = append(found, next.Run, refused.Run)
		}
		var calls []lotCall
		for _, next := range found {
			calls = append(calls, lotCall{"", []any{next}, true})
		}
		checkResultsAreApart(t, calls)
		if !sameLedger(l, want) {
			t.Fatal("changed", want, l)
		}
	}
}

func TestP13ConsolesThatAreNoneAreReturnedAsTheyAre(t *testing.T) {
	for _, c := range noConsoles() {
		want := impl.Console{Run: copyLedger(c.Run), Log: c.Log}
		next, reply := impl.ExecuteCommand(c, "step")
		if reply != "no" || !reflect.DeepEqual(fmt.Sprint(next), fmt.Sprint(want)) {
			t.Fatal("another Console", want, next, reply)
		}
		checkResultsAreApart(t, []lotCall{{"ExecuteCommand", []any{next}, true}})
		if !sameConsole(c, want) {
			t.Fatal("changed", want, c)
		}
	}
}

func TestP13NilAndEmptyListsOfLedgers(t *testing.T) {
	empty := impl.Case{Need: []int{}, Setup: []int{}, Unit: []int{}, Hold: []int{}}
	l := impl.Ledger{Case: empty, Plan: []int{}}
	a, e := impl.Act{Kind: 5}, impl.LogRecord{Command: "plan", Reply: "none"}
	none := ledgerCalls(ledgerArgs{a: a, e: e, line: "plan"})
	other := ledgerCalls(ledgerArgs{c: empty, l: l, a: a, acts: []impl.Act{}, e: e, console: impl.Console{Run: l}, line: "plan"})
	if fmt.Sprint(none) != fmt.Sprint(other) {
		t.Error("not the same", none, other)
	}
	checkNoneFails(t, none)
}

func TestP13LedgersAtTheirLimits(t *testing.T) {
	full := sameRows(8, [4]int{20, 99, 9, 9})
	numbers := []int{math.MinInt, math.MinInt + 1, -1 << 32, -201, -200, -1, 0, 1, 8, 9, 20, 21, 99, 100, 200, 201, 1 << 32, math.MaxInt - 1, math.MaxInt}
	for now := range 9 {
		l := ledgerOf(full, now, slices.Repeat([]int{200}, 8)...)
		checkAllOfLedger(t, l)
		for kind := -1; kind <= 8; kind++ {
			for _, x := range numbers {
				for _, y := range []int{math.MinInt, -1, 0, 5, math.MaxInt} {
					checkAct(t, l, impl.Act{Kind: kind, A: x, B: y})
					checkAct(t, l, impl.Act{Kind: kind, A: y, B: x})
					checkAct(t, l, impl.Act{Kind: kind, A: 1, B: 1, C: x, D: y})
				}
			}
		}
	}
}
