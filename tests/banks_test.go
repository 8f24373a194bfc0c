package tests

import (
	"math"
	"slices"
	"testing"

	"loop.example/g00362/impl"
)

func sameBank(a, b impl.Bank) bool {
	numbers := func(b impl.Bank) [5]int64 { return [5]int64{b.Day, b.In, b.Out, b.Posted, b.Missed} }
	return numbers(a) == numbers(b) && slices.Equal(a.Forest, b.Forest) && slices.Equal(a.Orders, b.Orders)
}

func cloned(b impl.Bank) impl.Bank {
	b.Forest, b.Orders = slices.Clone(b.Forest), slices.Clone(b.Orders)
	return b
}

// bankOf is a right bank of that day whose accounts had all they have from outside.
func bankOf(day int64, f ...impl.Account) impl.Bank {
	b := impl.Bank{Day: day, Forest: f}
	if n := impl.TotalOf(f); n > 0 {
		b.In = n
	} else {
		b.Out = -n
	}
	return b
}

func withOrders(b impl.Bank, l ...impl.Order) impl.Bank {
	b.Orders = l
	return b
}

func targeted(a impl.Account, target int64) impl.Account {
	a.Target = target
	return a
}

func rated(a impl.Account, rate, carry int64) impl.Account {
	a.Rate, a.Carry = rate, carry
	return a
}

func bankOp(o impl.Op) impl.BOp {
	return impl.BOp{Kind: impl.BkOp, Op: o}
}

func addition(o impl.Order) impl.BOp {
	return impl.BOp{Kind: impl.BkOrder, Order: o}
}

func cancellation(id int64) impl.BOp {
	return impl.BOp{Kind: impl.BkCancel, Id: id}
}

var dayEnd = impl.BOp{Kind: impl.BkDay}

// runs asks for the code, and of a refusal that the bank is as it was.
func runs(t *testing.T, b impl.Bank, o impl.BOp, code int64) impl.Bank {
	t.Helper()
	c, got := impl.Ran(b, o)
	if got != code {
		t.Errorf("%v on %v: code %d, want %d", o, b, got, code)
	}
	if got != impl.TrDone && !sameBank(b, c) {
		t.Errorf("%v refused with %d, and changed %v to %v", o, got, b, c)
	}
	return c
}

// runsTo asks for an op that is done, and for what comes of it.
func runsTo(t *testing.T, b impl.Bank, o impl.BOp, want impl.Bank) {
	t.Helper()
	if c := runs(t, b, o, impl.TrDone); !sameBank(c, want) {
		t.Errorf("%v on %v: %v, want %v", o, b, c, want)
	}
}

// ends asks for what the end of the day makes, by both functions that end one.
func ends(t *testing.T, b impl.Bank, want impl.Bank) {
	t.Helper()
	if e, ok := impl.Ended(b); !ok || !sameBank(e, want) {
		t.Errorf("%v ended: %v %v, want %v", b, e, ok, want)
	}
	runsTo(t, b, dayEnd, want)
}

// endless: a right bank whose day cannot end.
func endless(t *testing.T, b impl.Bank) {
	t.Helper()
	if !impl.BankOk(b) {
		t.Error("not right", b)
	}
	if e, ok := impl.Ended(b); ok || !sameBank(e, impl.Bank{}) {
		t.Error(b, e, ok)
	}
	runs(t, b, dayEnd, impl.TrFull)
}

// someOps are one of each Kind and a wrong one.
func someOps() []impl.BOp {
	return []impl.BOp{bankOp(op(impl.OpOpen, 9, 0, 1)), bankOp(op(impl.OpPut, 1, 0, 1)), addition(order(1, 0, 1, 1)), cancellation(1), dayEnd, {}}
}

// refusedBank: nothing is told of a bank that is not right.
func refusedBank(t *testing.T, b impl.Bank) {
	t.Helper()
	if impl.BankOk(b) {
		t.Error("taken as right", b)
	}
	if e, ok := impl.Ended(b); ok || !sameBank(e, impl.Bank{}) {
		t.Error(b, e, ok)
	}
	for _, o := range someOps() {
		if c, code := impl.Ran(b, o); code != impl.TrWrong || !sameBank(c, impl.Bank{}) {
			t.Error(b, o, c, code)
		}
	}
	for _, l := range [][]impl.BOp{nil, someOps()} {
		if c, codes := impl.RanAll(b, l); len(codes) != 0 || !sameBank(c, impl.Bank{}) {
			t.Error(b, l, c, codes)
		}
	}
}

func acceptedBank(t *testing.T, b impl.Bank) {
	t.Helper()
	if !impl.BankOk(b) {
		t.Error("not taken as right", b)
	}
	if c, codes := impl.RanAll(b, nil); len(codes) != 0 || !sameBank(c, b) {
		t.Error(b, c, codes)
	}
}

func TestTotalsOfBanks(t *testing.T) {
	const most = impl.MaxSum
	one, less := []impl.Account{root(1, 9, 1)}, []impl.Account{root(1, 9, -1)}
	for _, b := range []impl.Bank{
		{}, {In: most, Out: most}, {Out: most, Posted: most}, {In: most, Posted: -most}, {Missed: most},
		{Forest: one, In: 1}, {Forest: one, Posted: 1}, {Forest: one, In: 7, Out: 4, Posted: -2}, {Forest: less, Out: 1}, {Forest: less, Posted: -1},
		{Forest: one, In: most, Out: most, Posted: 1, Missed: most}, {Forest: one, In: most, Out: most - 1},
		bankOf(5, root(1, 0, impl.MaxMoney), root(2, 0, impl.MaxMoney)), bankOf(5, root(1, 0, -impl.MaxMoney), kid(2, 1, 0, -impl.MaxMoney)),
	} {
		acceptedBank(t, b)
	}
	for _, b := range []impl.Bank{
		{In: 1}, {Out: 1}, {Posted: 1}, {Posted: -1}, {Forest: one}, {Forest: one, Out: 1}, {Forest: one, In: 2}, {Forest: less, In: 1}, {Forest: one, Posted: -1},
		{Forest: one, In: 7, Out: 4, Posted: 2}, {Forest: one, In: 1, Out: 1, Posted: 2},
		// These add up, but one of them is past its limit.
		{In: most + 1, Out: most, Posted: -1}, {In: most, Out: most + 1, Posted: 1}, {In: -1, Posted: 1}, {Out: -1, Posted: -1}, {In: -1, Out: -1},
		{Forest: one, Out: most, Posted: most + 1}, {Forest: less, In: most, Posted: -most - 1}, {Missed: most + 1}, {Missed: -1},
		{In: math.MaxInt64, Out: math.MaxInt64}, {In: math.MinInt64, Out: math.MinInt64}, {In: math.MaxInt64, Out: math.MinInt64, Posted: 1},
		{In: math.MinInt64, Posted: math.MinInt64}, {Missed: math.MaxInt64}, {Missed: math.MinInt64},
	} {
		refusedBank(t, b)
	}
}

func TestPartsOfBanks(t *testing.T) {
	for _, day := range []int64{0, 1, impl.MaxDay} {
		acceptedBank(t, impl.Bank{Day: day})
	}
	for _, day := range []int64{-1, impl.MaxDay + 1, math.MinInt64, math.MaxInt64} {
		refusedBank(t, impl.Bank{Day: day})
	}
	for _, f := range [][]impl.Account{{{}}, chain(13), {kid(1, 1, 0, 5)}, {kid(1, 2, 0, 5), kid(2, 1, 0, 5)}, {root(2, 0, 5), root(1, 0, 5)}, {root(1, -1, 5)}, {root(1, 0, impl.MaxMoney+1)}} {
		total := int64(0)
		for _, a := range f {
			total += a.Balance
		}
		refusedBank(t, impl.Bank{Forest: f, In: total})
		refusedBank(t, impl.Bank{Forest: f})
	}
	var nine []impl.Order
	for id := int64(1); id <= 9; id++ {
		nine = append(nine, order(id, 3, 1, 1))
	}
	acceptedBank(t, impl.Bank{Orders: nine[:8]})
	// Orders may name accounts that are not there, and days that are past.
	acceptedBank(t, impl.Bank{Day: impl.MaxDay, Orders: nine[:1]})
	for _, l := range [][]impl.Order{nine, {{}}, {nine[0], nine[0]}, {nine[1], nine[0]}, {order(1, 0, 0, 1)}, {order(1, impl.MaxDay+1, 1, 1)}} {
		refusedBank(t, impl.Bank{Orders: l})
	}
}

func TestNewBanks(t *testing.T) {
	for _, day := range []int64{0, 1, 739935, impl.MaxDay} {
		if b, ok := impl.BankNew(day); !ok || !sameBank(b, impl.Bank{Day: day}) || !impl.BankOk(b) {
			t.Error(day, b, ok)
		}
	}
	for _, day := range []int64{-1, impl.MaxDay + 1, math.MinInt64, math.MaxInt64} {
		if b, ok := impl.BankNew(day); ok || !sameBank(b, impl.Bank{}) {
			t.Error(day, b, ok)
		}
	}
}

func sweeps(t *testing.T, f []impl.Account, want ...impl.Account) {
	t.Helper()
	if !impl.ForestOk(f) {
		t.Error("not right", f)
	}
	if g := impl.Swept(f); !slices.Equal(g, want) {
		t.Errorf("%v swept: %v, want %v", f, g, want)
	}
}

func TestSweeping(t *testing.T) {
	one := root(1, 0, 100)
	two := func(limit, balance, target int64) impl.Account { return targeted(kid(2, 1, limit, balance), target) }
	sweeps(t, []impl.Account{one, two(0, 50, 30)}, root(1, 0, 120), two(0, 30, 30))
	sweeps(t, []impl.Account{one, two(0, 20, 30)}, root(1, 0, 90), two(0, 30, 30))
	sweeps(t, []impl.Account{one, two(0, 30, 30)}, one, two(0, 30, 30))
	sweeps(t, []impl.Account{one, two(0, 50, 0)}, root(1, 0, 150), two(0, 0, 0))
	sweeps(t, []impl.Account{one, two(90, -50, 0)}, root(1, 0, 50), two(90, 0, 0))
	sweeps(t, []impl.Account{one, two(0, 0, 0)}, one, two(0, 0, 0))
	sweeps(t, []impl.Account{one, two(0, 50, -1)}, one, two(0, 50, -1))
	sweeps(t, []impl.Account{one, two(0, -50, -1)}, one, two(0, -50, -1))
	sweeps(t, nil)
	// What moves between an account and its Up changes no sum above, so that no
	// limit there hinders it, however little there is.
	sweeps(t, []impl.Account{root(1, 0, 0), two(0, 0, 30)}, root(1, 0, -30), two(0, 30, 30))
	sweeps(t, []impl.Account{root(1, 0, -80), two(0, 20, 30)}, root(1, 0, -90), two(0, 30, 30))
}

func TestSweepsThatAreRefused(t *testing.T) {
	const most = impl.MaxMoney
	three := targeted(kid(3, 2, 0, 10), 0)
	for _, f := range [][]impl.Account{
		{frozen(root(1, 0, 100)), targeted(kid(2, 1, 0, 50), 30)},
		{frozen(root(1, 0, 100)), targeted(kid(2, 1, 0, 20), 30)},
		{root(1, 0, 100), frozen(targeted(kid(2, 1, 0, 50), 30))},
		{root(1, 0, 100), frozen(targeted(kid(2, 1, 0, 20), 30))},
		// The Up has too little, or has too much with it.
		{root(1, 0, 9-most), targeted(kid(2, 1, 0, 20), 30)},
		{root(1, 0, most-9), targeted(kid(2, 1, 0, 40), 30)},
		// More than a payment takes.
		{root(1, 0, 0), targeted(kid(2, 1, 0, -1), most)},
		// What it has it holds up the ones below it with.
		{root(1, 0, 100), targeted(kid(2, 1, 5, 50), 30), kid(4, 2, -1, -36)},
	} {
		sweeps(t, f, f...)
	}
	sweeps(t, []impl.Account{root(1, 0, 10-most), targeted(kid(2, 1, 0, 20), 30)}, root(1, 0, -most), targeted(kid(2, 1, 0, 30), 30))
	sweeps(t, []impl.Account{root(1, 0, most-10), targeted(kid(2, 1, 0, 40), 30)}, root(1, 0, most), targeted(kid(2, 1, 0, 30), 30))
	sweeps(t, []impl.Account{root(1, 0, 0), targeted(kid(2, 1, 0, 0), most)}, root(1, 0, -most), targeted(kid(2, 1, 0, most), most))
	sweeps(t, []impl.Account{root(1, 0, 100), targeted(kid(2, 1, 5, 50), 30), kid(4, 2, -1, -35)}, root(1, 0, 120), targeted(kid(2, 1, 5, 30), 30), kid(4, 2, -1, -35))
	// One that is refused does not keep the next one from its own.
	sweeps(t, []impl.Account{root(1, 0, 5), frozen(targeted(kid(2, 1, 0, 50), 30)), targeted(kid(3, 1, 0, 7), 4)}, root(1, 0, 8), frozen(targeted(kid(2, 1, 0, 50), 30)), targeted(kid(3, 1, 0, 4), 4))
	// One that is frozen above both is not asked.
	sweeps(t, []impl.Account{frozen(root(1, 0, 5)), kid(2, 1, 0, 0), three}, frozen(root(1, 0, 5)), kid(2, 1, 0, 10), targeted(kid(3, 2, 0, 0), 0))
	for _, f := range [][]impl.Account{{{}}, chain(13), {kid(1, 1, 0, 5)}, {root(1, 0, 5), targeted(root(2, 0, 5), 3)}} {
		if g := impl.Swept(f); len(g) != 0 {
			t.Error(f, g)
		}
	}
}

// By rising Id, each with what it has when its turn comes, and none has two.
func TestSweepsOneBehindTheOther(t *testing.T) {
	sweeps(t, []impl.Account{targeted(kid(1, 2, 0, 5), 0), targeted(kid(2, 3, 0, 0), 0), root(3, 0, 0)},
		targeted(kid(1, 2, 0, 0), 0), targeted(kid(2, 3, 0, 0), 0), root(3, 0, 5))
	sweeps(t, []impl.Account{root(1, 0, 0), targeted(kid(2, 1, 0, 0), 0), targeted(kid(3, 2, 0, 5), 0)},
		root(1, 0, 0), targeted(kid(2, 1, 0, 5), 0), targeted(kid(3, 2, 0, 0), 0))
	sweeps(t, []impl.Account{root(1, 0, 0), targeted(kid(2, 1, 0, 8), 6), targeted(kid(3, 2, 0, 5), 7)},
		root(1, 0, 2), targeted(kid(2, 1, 0, 4), 6), targeted(kid(3, 2, 0, 7), 7))
}

func posts(t *testing.T, f []impl.Account, posted int64, want ...impl.Account) {
	t.Helper()
	if !impl.ForestOk(f) {
		t.Error("not right", f)
	}
	if g, n := impl.Interest(f); n != posted || !slices.Equal(g, want) {
		t.Errorf("interest of %v: %v %d, want %v %d", f, g, n, want, posted)
	}
}

func TestInterestOnRoots(t *testing.T) {
	const part = impl.YearPart
	posts(t, []impl.Account{rated(root(1, 0, 20000), 365, 0)}, 2, rated(root(1, 0, 20002), 365, 0))
	posts(t, []impl.Account{rated(root(1, 0, 20000), 365, 5)}, 2, rated(root(1, 0, 20002), 365, 5))
	posts(t, []impl.Account{rated(root(1, 0, 1), 1, part-1)}, 1, rated(root(1, 0, 2), 1, 0))
	posts(t, []impl.Account{rated(root(1, 0, 1), 1, part-2)}, 0, rated(root(1, 0, 1), 1, part-1))
	posts(t, []impl.Account{rated(root(1, 0, -1), 1, 0)}, -1, rated(root(1, 0, -2), 1, part-1))
	posts(t, []impl.Account{rated(root(1, 0, -20000), 365, 0)}, -2, rated(root(1, 0, -20002), 365, 0))
	posts(t, []impl.Account{rated(root(1, 0, -20000), 365, part-1)}, -2, rated(root(1, 0, -20002), 365, part-1))
	posts(t, []impl.Account{rated(root(1, 0, 0), impl.MaxRate, 7)}, 0, rated(root(1, 0, 0), impl.MaxRate, 7))
	// A Rate of 0 posts nothing, whatever is there.
	posts(t, []impl.Account{rated(root(1, 0, impl.MaxMoney), 0, part-1)}, 0, rated(root(1, 0, impl.MaxMoney), 0, part-1))
	posts(t, nil, 0)
	// What the ones below have counts, and what is posted is the root's own.
	posts(t, []impl.Account{kid(1, 3, 0, 20000), kid(2, 1, 0, -10000), rated(root(3, 0, 10000), 365, 0)}, 2, kid(1, 3, 0, 20000), kid(2, 1, 0, -10000), rated(root(3, 0, 10002), 365, 0))
	posts(t, []impl.Account{rated(root(1, 0, 10000), 365, 3), kid(2, 1, 0, -10000)}, 0, rated(root(1, 0, 10000), 365, 3), kid(2, 1, 0, -10000))
	posts(t, []impl.Account{rated(root(1, 0, 10000), 365, 3), kid(2, 1, 0, -30000)}, -2, rated(root(1, 0, 9998), 365, 3), kid(2, 1, 0, -30000))
	// That a root is frozen, or owes more than it may, keeps no interest from it.
	posts(t, []impl.Account{frozen(rated(root(1, 0, 10000), 365, 3))}, 1, frozen(rated(root(1, 0, 10001), 365, 3)))
	// All that is posted together.
	posts(t, []impl.Account{rated(root(1, 0, 20000), 365, 1), root(2, 0, 9), rated(root(3, 0, -50000), 365, 2), rated(root(4, 0, 70000), 365, 3)}, 4,
		rated(root(1, 0, 20002), 365, 1), root(2, 0, 9), rated(root(3, 0, -50005), 365, 2), rated(root(4, 0, 70007), 365, 3))
}

func TestInterestThatIsNotPosted(t *testing.T) {
	const most, daily = impl.MaxMoney, 365 // a Rate of 365 is a ten-thousandth a day
	// The sum is too great or too small for interest; the one at the limit isn't.
	for _, sign := range []int64{1, -1} {
		over := []impl.Account{rated(root(1, 0, sign), daily, 8), kid(2, 1, 0, sign*most)}
		posts(t, over, 0, over...)
		met := []impl.Account{rated(root(1, 0, 0), daily, 8), kid(2, 1, 0, sign*most)}
		posts(t, met, sign*most/10000, rated(root(1, 0, sign*most/10000), daily, 8), met[1])
		// The Balance would pass its limit by one, or meet it.
		full := []impl.Account{rated(root(1, 0, sign*most), daily, 8), kid(2, 1, 0, sign*10000-sign*most)}
		posts(t, full, 0, full...)
		near := []impl.Account{rated(root(1, 0, sign*most-sign), daily, 8), kid(2, 1, 0, sign*10001-sign*most)}
		posts(t, near, sign, rated(root(1, 0, sign*most), daily, 8), near[1])
		// One that gets nothing hinders no other one.
		posts(t, append(slices.Clone(over), rated(root(3, 0, 10000), daily, 9)), 1, over[0], over[1], rated(root(3, 0, 10001), daily, 9))
	}
	for _, f := range [][]impl.Account{{{}}, chain(13), {kid(1, 1, 0, 5)}, {rated(root(1, 0, 10000), daily, 0), rated(kid(2, 1, 0, 0), 1, 0)}, {rated(root(1, 0, 10000), daily, impl.YearPart)}} {
		if g, n := impl.Interest(f); len(g) != 0 || n != 0 {
			t.Error(f, g, n)
		}
	}
}

func TestOrdersOfOneDay(t *testing.T) {
	first, second := order(1, 5, 1, 9), order(2, 5, 1, 9)
	second.Amount = 4
	f := []impl.Account{root(1, 0, 8), root(2, 0, 0)}
	// The first one leaves too little for the second one.
	b := withOrders(bankOf(5, f...), first, second)
	want := withOrders(bankOf(6, root(1, 0, 3), root(2, 0, 5)), first, second)
	want.Missed = 1
	ends(t, b, want)
	// The other way round the first one leaves too little too.
	first.Id, second.Id = 2, 1
	want = withOrders(bankOf(6, root(1, 0, 4), root(2, 0, 4)), second, first)
	want.Missed = 1
	ends(t, withOrders(b, second, first), want)
	// What the first one brings the second one may pay.
	back := impl.Order{Id: 3, From: 2, To: 1, Amount: 3, First: 5, Every: 2, Times: 2}
	ends(t, withOrders(bankOf(5, f...), order(1, 5, 1, 9), back), withOrders(bankOf(6, root(1, 0, 6), root(2, 0, 2)), order(1, 5, 1, 9), back))
	// One that is due on another day pays nothing, and misses nothing.
	ends(t, withOrders(bankOf(4, f...), first, back), withOrders(bankOf(5, f...), first, back))
	ends(t, withOrders(bankOf(6, f...), back), withOrders(bankOf(7, f...), back))
	ends(t, bankOf(4, f...), bankOf(5, f...))
}

func TestMissedOrders(t *testing.T) {
	for _, f := range [][]impl.Account{nil, {root(1, 9, 0)}, {root(2, 9, 0)}, {frozen(root(1, 9, 0)), root(2, 0, 0)}, {root(1, 9, 0), frozen(root(2, 0, 0))}, {root(1, 4, 0), root(2, 0, 0)}, {root(1, 9, 0), root(2, 0, impl.MaxMoney)}} {
		b := withOrders(bankOf(5, f...), order(1, 3, 2, 9), order(4, 5, 1, 2))
		b.Missed = 7
		want := withOrders(bankOf(6, f...), b.Orders...)
		want.Missed = 9
		ends(t, b, want)
	}
}

func TestOrdersThatGo(t *testing.T) {
	b := bankOf(5, root(1, 90, 0), root(2, 0, 0))
	last, twoDays, past, later, missed := order(1, 3, 2, 2), order(2, 5, 1, 2), order(3, 0, 1, 5), order(4, 9, 1, 1), order(5, 5, 1, 1)
	missed.To = 7
	want := withOrders(bankOf(6, root(1, 90, -10), root(2, 0, 10)), twoDays, later)
	want.Missed = 1
	ends(t, withOrders(b, last, twoDays, past, later, missed), want)
	// An order whose next day would be behind MaxDay goes with its last one.
	b.Day = impl.MaxDay - 1
	tail := order(1, impl.MaxDay-1, 2, 9)
	ends(t, withOrders(b, tail), bankOf(impl.MaxDay, root(1, 90, -5), root(2, 0, 5)))
	atEnd := order(1, impl.MaxDay, 1, 1)
	ends(t, withOrders(b, atEnd), withOrders(bankOf(impl.MaxDay, b.Forest...), atEnd))
}

// Orders come ahead of sweeps, and both ahead of interest.
func TestOrdersThenSweepsThenInterest(t *testing.T) {
	pay := impl.Order{Id: 1, From: 2, To: 9, Amount: 10, First: 5, Every: 1, Times: 9}
	f := []impl.Account{root(1, 0, 0), targeted(kid(2, 1, 0, 12), 0), root(9, 0, 0)}
	ends(t, withOrders(bankOf(5, f...), pay), withOrders(bankOf(6, root(1, 0, 2), targeted(kid(2, 1, 0, 0), 0), root(9, 0, 10)), pay))
	// Interest is of what the orders left.
	pay.Amount = 20000
	f = []impl.Account{rated(root(2, 0, 30000), 365, 0), rated(root(9, 0, 0), 365, 0)}
	want := withOrders(bankOf(6, rated(root(2, 0, 10001), 365, 0), rated(root(9, 0, 20002), 365, 0)), pay)
	want.In, want.Posted = 30000, 3
	ends(t, withOrders(bankOf(5, f...), pay), want)
	// There is no room for what is to be posted until the sweep.
	f = []impl.Account{rated(root(1, 0, impl.MaxMoney), 365, 0), targeted(kid(2, 1, 0, -10000000000), 0)}
	sum := impl.TotalOf(f)
	want = bankOf(6, rated(root(1, 0, sum+sum/10000), 365, 0), targeted(kid(2, 1, 0, 0), 0))
	want.In, want.Posted = sum, sum/10000
	ends(t, bankOf(5, f...), want)
	// What is posted is not swept on the same day.
	f = []impl.Account{rated(root(1, 0, 10000-impl.MaxMoney), 365, 0), targeted(kid(2, 1, 0, impl.MaxMoney), 0)}
	want = bankOf(6, rated(root(1, 0, 10001), 365, 0), targeted(kid(2, 1, 0, 0), 0))
	want.In, want.Posted = 10000, 1
	ends(t, bankOf(5, f...), want)
}

func TestDaysThatCannotEnd(t *testing.T) {
	endless(t, impl.Bank{Day: impl.MaxDay})
	endless(t, withOrders(bankOf(impl.MaxDay, root(1, 90, 0), root(2, 0, 0)), order(1, impl.MaxDay, 1, 1)))
	ends(t, impl.Bank{Day: impl.MaxDay - 1}, impl.Bank{Day: impl.MaxDay})
	ends(t, impl.Bank{}, impl.Bank{Day: 1})
	missed := withOrders(impl.Bank{Day: 5, Missed: impl.MaxSum - 1}, order(1, 5, 1, 1))
	ends(t, missed, impl.Bank{Day: 6, Missed: impl.MaxSum})
	missed.Missed++
	endless(t, missed)
	for _, sign := range []int64{1, -1} {
		b := impl.Bank{Day: 5, Forest: []impl.Account{rated(root(1, 0, sign*10000), 365, 0)}, Posted: sign*impl.MaxSum - sign}
		total := sign*10000 - b.Posted
		b.In, b.Out = max(total, 0), max(-total, 0)
		want := cloned(b)
		want.Day, want.Posted, want.Forest[0].Balance = 6, sign*impl.MaxSum, sign*10001
		ends(t, b, want)
		b = cloned(b)
		b.Posted += sign
		b.Forest[0].Balance += sign
		endless(t, b)
	}
}

// A BOp has the one field alone that its Kind names.
func TestFormsOfBankOps(t *testing.T) {
	b := withOrders(bankOf(5, root(1, 0, 8), root(2, 0, 0)), order(3, 9, 1, 1))
	right := []impl.BOp{bankOp(op(impl.OpPut, 1, 0, 1)), addition(order(1, 0, 1, 1)), cancellation(3), dayEnd}
	for i, o := range right {
		runs(t, b, o, impl.TrDone)
		for _, n := range []int64{1, -1, 3, math.MaxInt64, math.MinInt64} {
			for j, set := range []func(o *impl.BOp){
				func(o *impl.BOp) { o.Op.Rate = n }, func(o *impl.BOp) { o.Op.Kind = n }, func(o *impl.BOp) { o.Op.Id = n },
				func(o *impl.BOp) { o.Op.To = n }, func(o *impl.BOp) { o.Op.Amount = n }, func(o *impl.BOp) { o.Op = right[0].Op },
				func(o *impl.BOp) { o.Order.Id = n }, func(o *impl.BOp) { o.Order.From = n }, func(o *impl.BOp) { o.Order.To = n }, func(o *impl.BOp) { o.Order.Amount = n },
				func(o *impl.BOp) { o.Order.First = n }, func(o *impl.BOp) { o.Order.Every = n }, func(o *impl.BOp) { o.Order.Times = n }, func(o *impl.BOp) { o.Order = right[1].Order },
				func(o *impl.BOp) { o.Id = n },
			} {
				named := i == 0 && j < 6 || i == 1 && j >= 6 && j < 14 || i == 2 && j == 14
				if bad := o; !named {
					set(&bad)
					runs(t, b, bad, impl.TrForm)
				}
			}
		}
		for _, kind := range []int64{math.MinInt64, -1, 0, 1, impl.OpPut, 18, 23, math.MaxInt64} {
			o.Kind = kind
			runs(t, b, o, impl.TrForm)
		}
	}
}

// What is named by its Kind must be right; that is told ahead of all that the bank would say to it.
func TestWrongBankOpsAreToldFirst(t *testing.T) {
	b := withOrders(bankOf(impl.MaxDay, frozen(root(1, 0, 8))), order(3, 9, 1, 1))
	for _, o := range []impl.BOp{
		{}, {Kind: impl.BkOp}, {Kind: impl.BkOrder}, {Kind: impl.BkCancel}, cancellation(-1), cancellation(impl.MaxId + 1), cancellation(math.MinInt64),
		bankOp(op(impl.OpPut, 1, 0, 0)), bankOp(op(impl.OpPut, 1, 0, impl.MaxMoney+1)), bankOp(op(impl.OpPay, 1, 1, 5)), bankOp(op(0, 1, 0, 1)), bankOp(op(impl.BkDay, 1, 0, 1)),
		addition(order(3, 9, 0, 1)), addition(order(3, -1, 1, 1)), addition(order(0, 9, 1, 1)), addition(order(3, 9, 367, 1)), addition(order(3, 9, 1, 1001)),
		{Kind: impl.BkDay, Id: 3},
	} {
		runs(t, b, o, impl.TrForm)
	}
	runs(t, b, cancellation(1), impl.TrNone)
	runs(t, b, cancellation(impl.MaxId), impl.TrNone)
}

func TestOpsOfBanks(t *testing.T) {
	one, two := root(1, 5, 8), kid(2, 1, -1, 0)
	b := withOrders(bankOf(5, one, two), order(3, 9, 1, 1))
	with := func(change func(b *impl.Bank)) impl.Bank {
		c := cloned(b)
		change(&c)
		return c
	}
	runsTo(t, b, bankOp(op(impl.OpPut, 1, 0, 3)), with(func(b *impl.Bank) { b.In, b.Forest[0].Balance = 11, 11 }))
	runsTo(t, b, bankOp(op(impl.OpTake, 2, 0, 13)), with(func(b *impl.Bank) { b.Out, b.Forest[1].Balance = 13, -13 }))
	runsTo(t, b, bankOp(op(impl.OpPay, 1, 2, 3)), with(func(b *impl.Bank) { b.Forest[0].Balance, b.Forest[1].Balance = 5, 3 }))
	runsTo(t, b, bankOp(op(impl.OpOpen, 3, 2, 4)), with(func(b *impl.Bank) { b.Forest = append(b.Forest, kid(3, 2, 4, 0)) }))
	runsTo(t, b, bankOp(op(impl.OpClose, 2, 0, 0)), with(func(b *impl.Bank) { b.Forest = b.Forest[:1] }))
	runsTo(t, b, bankOp(op(impl.OpFreeze, 1, 0, 0)), with(func(b *impl.Bank) { b.Forest[0].Frozen = true }))
	runsTo(t, b, bankOp(op(impl.OpLimit, 1, 0, 7)), with(func(b *impl.Bank) { b.Forest[0].Limit = 7 }))
	runsTo(t, b, bankOp(op(impl.OpTarget, 2, 0, 7)), with(func(b *impl.Bank) { b.Forest[1].Target = 7 }))
	runsTo(t, b, bankOp(op(impl.OpHang, 2, 1, 0)), b)
	for _, x := range []struct{ kind, id, to, amount, code int64 }{
		{impl.OpTake, 2, 0, 14, impl.TrShort}, {impl.OpPut, 3, 0, 1, impl.TrNone}, {impl.OpOpen, 2, 0, 1, impl.TrThere}, {impl.OpThaw, 2, 0, 0, impl.TrFrozen},
		{impl.OpClose, 1, 0, 0, impl.TrBusy}, {impl.OpPut, 1, 0, impl.MaxMoney, impl.TrFull}, {impl.OpTarget, 1, 0, 1, impl.TrBusy}, {impl.OpHang, 2, 3, 0, impl.TrNone},
	} {
		runs(t, b, bankOp(op(x.kind, x.id, x.to, x.amount)), x.code)
	}
}

func TestInAndOutAtTheirLimit(t *testing.T) {
	b := impl.Bank{Forest: []impl.Account{root(1, 9, 0)}, In: impl.MaxSum - 5, Out: impl.MaxSum - 5}
	full := cloned(b)
	full.In, full.Forest[0].Balance = impl.MaxSum, 5
	runsTo(t, b, bankOp(op(impl.OpPut, 1, 0, 5)), full)
	runs(t, b, bankOp(op(impl.OpPut, 1, 0, 6)), impl.TrFull)
	runs(t, full, bankOp(op(impl.OpPut, 1, 0, 1)), impl.TrFull)
	empty := cloned(b)
	empty.Out, empty.Forest[0].Balance = impl.MaxSum, -5
	runsTo(t, b, bankOp(op(impl.OpTake, 1, 0, 5)), empty)
	runs(t, b, bankOp(op(impl.OpTake, 1, 0, 6)), impl.TrFull)
	runs(t, empty, bankOp(op(impl.OpTake, 1, 0, 1)), impl.TrFull)
	runs(t, b, bankOp(op(impl.OpTake, 1, 0, 10)), impl.TrShort)
	runs(t, b, bankOp(op(impl.OpPut, 2, 0, 10)), impl.TrNone)
}

func TestOrdersOfBanks(t *testing.T) {
	b := bankOf(5, root(1, 0, 8))
	l := []impl.Order{order(2, 9, 1, 1), order(4, 9, 1, 1), order(6, 9, 1, 1)}
	b = withOrders(b, l...)
	runsTo(t, b, addition(order(1, 0, 1, 1)), withOrders(b, order(1, 0, 1, 1), l[0], l[1], l[2]))
	runsTo(t, b, addition(order(5, 6, 366, 1000)), withOrders(b, l[0], l[1], order(5, 6, 366, 1000), l[2]))
	runsTo(t, b, addition(order(impl.MaxId, impl.MaxDay, 1, 1)), withOrders(b, l[0], l[1], l[2], order(impl.MaxId, impl.MaxDay, 1, 1)))
	runsTo(t, impl.Bank{}, addition(l[0]), withOrders(impl.Bank{}, l[0]))
	for _, o := range l {
		o.Amount++
		runs(t, b, addition(o), impl.TrThere)
	}
	runsTo(t, b, cancellation(2), withOrders(b, l[1], l[2]))
	runsTo(t, b, cancellation(4), withOrders(b, l[0], l[2]))
	runsTo(t, b, cancellation(6), withOrders(b, l[0], l[1]))
	runsTo(t, withOrders(b, l[0]), cancellation(2), withOrders(b))
	for _, id := range []int64{1, 3, 5, 7, impl.MaxId} {
		runs(t, b, cancellation(id), impl.TrNone)
	}
	runs(t, impl.Bank{}, cancellation(2), impl.TrNone)
	for id := int64(11); id <= 15; id++ {
		b = runs(t, b, addition(order(id, 9, 1, 1)), impl.TrDone)
	}
	runs(t, b, addition(order(1, 9, 1, 1)), impl.TrFull)
	runs(t, b, addition(order(16, 9, 1, 1)), impl.TrFull)
	runs(t, b, addition(order(15, 8, 1, 1)), impl.TrThere)
}

func TestAHundredBankOpsAndOneMore(t *testing.T) {
	b := bankOf(5, root(1, 0, 5))
	ops := slices.Repeat([]impl.BOp{bankOp(op(impl.OpPut, 1, 0, 2))}, 101)
	if c, codes := impl.RanAll(b, ops[:100]); !sameBank(c, bankOf(5, root(1, 0, 205))) || !slices.Equal(codes, make([]int64, 100)) {
		t.Error(c, codes)
	}
	for _, l := range [][]impl.BOp{ops, make([]impl.BOp, 101), make([]impl.BOp, 5000)} {
		if c, codes := impl.RanAll(b, l); !sameBank(c, impl.Bank{}) || len(codes) != 0 {
			t.Error(len(l), c, codes)
		}
	}
	if c, codes := impl.RanAll(b, []impl.BOp{{}, dayEnd, bankOp(op(impl.OpTake, 1, 0, 6)), dayEnd}); !sameBank(c, bankOf(7, root(1, 0, 5))) || !slices.Equal(codes, []int64{impl.TrForm, impl.TrDone, impl.TrShort, impl.TrDone}) {
		t.Error(c, codes)
	}
}
