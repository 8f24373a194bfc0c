package tests

import (
	"math/big"
	"math/rand"
	"slices"
	"testing"

	"loop.example/g00362/impl"
)

// anyBank is a right one; mostly something is due on its day.
func anyBank(r *rand.Rand) impl.Bank {
	b := impl.Bank{Day: r.Int63n(40), Forest: anyForest(r), Missed: r.Int63n(5)}
	for i := range b.Forest {
		if r.Intn(3) == 0 {
			b.Forest[i].Balance *= 1 + r.Int63n(9000)
		}
		if r.Intn(40) == 0 {
			b.Forest[i].Balance = (impl.MaxMoney - r.Int63n(60)) * (1 - 2*r.Int63n(2))
		}
	}
	if r.Intn(10) == 0 {
		b.Day = impl.MaxDay - r.Int63n(4)
	}
	for id := int64(1); id < 25; id++ {
		if o := anyOrder(r, b); r.Intn(4) == 0 && len(b.Orders) < impl.MaxOrders && o.From != o.To {
			o.Id = id
			b.Orders = append(b.Orders, o)
		}
	}
	b.Posted = r.Int63n(1000) - 500
	left := impl.TotalOf(b.Forest) - b.Posted
	b.Out = r.Int63n(1000) + max(-left, 0)
	b.In = left + b.Out
	return b
}

// anyOrder is nearly always right, and mostly of accounts that are there.
func anyOrder(r *rand.Rand, b impl.Bank) impl.Order {
	id := func() int64 {
		if len(b.Forest) == 0 || r.Intn(12) == 0 {
			return 1 + r.Int63n(45)
		}
		return b.Forest[r.Intn(len(b.Forest))].Id
	}
	first := min(max(b.Day+r.Int63n(7)-4, 0), impl.MaxDay)
	return impl.Order{Id: 1 + r.Int63n(24), From: id(), To: id(), Amount: 1 + r.Int63n(150), First: first, Every: 1 + r.Int63n(3), Times: 1 + r.Int63n(6)}
}

func anyBankOp(r *rand.Rand, b impl.Bank) impl.BOp {
	var o impl.BOp
	switch r.Intn(5) {
	case 0, 1:
		o = bankOp(anyOp(r, b.Forest))
	case 2:
		o = addition(anyOrder(r, b))
	case 3:
		o = cancellation(r.Int63n(25))
	case 4:
		o = dayEnd
	}
	if r.Intn(40) == 0 {
		o.Id++
	}
	return o
}

// paid is the forest with a payment done, or as it was, by what an op would do.
func paid(f []impl.Account, from, to, amount int64) ([]impl.Account, bool) {
	o := op(impl.OpPay, from, to, amount)
	if refusedAs(f, o) != impl.TrDone {
		return f, false
	}
	return bent(f, o), true
}

func sweptOf(f []impl.Account) []impl.Account {
	for i := range f {
		if a := f[i]; a.Target != -1 && a.Balance > a.Target {
			f, _ = paid(f, a.Id, a.Up, a.Balance-a.Target)
		} else if a.Target != -1 && a.Balance < a.Target {
			f, _ = paid(f, a.Up, a.Id, a.Target-a.Balance)
		}
	}
	return f
}

func interestOf(f []impl.Account) ([]impl.Account, int64) {
	g, all, posted := slices.Clone(f), sums(f), int64(0)
	for i, a := range f {
		sum := all[a.Id]
		if a.Up != 0 || a.Rate == 0 || sum > impl.MaxMoney || sum < -impl.MaxMoney {
			continue
		}
		earned := new(big.Int).Mul(big.NewInt(sum), big.NewInt(a.Rate))
		earned.Add(earned, big.NewInt(a.Carry))
		told, left := new(big.Int).DivMod(earned, big.NewInt(impl.YearPart), new(big.Int))
		if n := a.Balance + told.Int64(); n <= impl.MaxMoney && n >= -impl.MaxMoney {
			g[i].Balance, g[i].Carry = n, left.Int64()
			posted += told.Int64()
		}
	}
	return g, posted
}

// dayAfter is the bank behind the end of a day that can end.
func dayAfter(b impl.Bank) impl.Bank {
	b = cloned(b)
	for _, o := range b.Orders {
		if slices.Contains(daysOf(o), b.Day) {
			f, done := paid(b.Forest, o.From, o.To, o.Amount)
			b.Forest = f
			if !done {
				b.Missed++
			}
		}
	}
	f, posted := interestOf(sweptOf(b.Forest))
	b.Forest, b.Posted, b.Day = f, b.Posted+posted, b.Day+1
	b.Orders = slices.DeleteFunc(b.Orders, func(o impl.Order) bool {
		days := daysOf(o)
		return days[len(days)-1] < b.Day
	})
	return b
}

// Promise 5: what is swept is all there, and no account goes from its target.
func TestWhatIsSweptIsAllThere(t *testing.T) {
	r := rand.New(rand.NewSource(11))
	moved := 0
	for range 3000 {
		f := anyBank(r).Forest
		g := impl.Swept(f)
		if !impl.ForestOk(g) || impl.TotalOf(g) != impl.TotalOf(f) || !slices.Equal(g, sweptOf(f)) {
			t.Fatal(f, g, sweptOf(f))
		}
		before, after := sums(f), sums(g)
		for i, a := range f {
			if a.Up == 0 && before[a.Id] != after[a.Id] || a.Frozen && a.Balance != g[i].Balance {
				t.Fatal(f, g, a.Id)
			}
			if a.Balance != g[i].Balance {
				moved++
			}
			a.Balance = g[i].Balance
			if a != g[i] {
				t.Fatal("more than balances changed", f, g)
			}
		}
	}
	if moved < 1000 {
		t.Error("too few were swept", moved)
	}
}

// Promise 5: what is posted is what there is more.
func TestWhatIsPostedIsWhatThereIsMore(t *testing.T) {
	r := rand.New(rand.NewSource(12))
	some, less := 0, 0
	for range 3000 {
		f := anyBank(r).Forest
		g, posted := impl.Interest(f)
		want, wantPosted := interestOf(f)
		if !impl.ForestOk(g) || impl.TotalOf(g) != impl.TotalOf(f)+posted || posted != wantPosted || !slices.Equal(g, want) {
			t.Fatal(f, g, posted, want, wantPosted)
		}
		if posted > 0 {
			some++
		}
		if posted < 0 {
			less++
		}
	}
	if some < 300 || less < 300 {
		t.Error("too few with something posted", some, less)
	}
}

// Promise 5: a day that ends leaves a right bank on the next day, and orders that are still due on one.
func TestADayThatEndsLeavesARightBank(t *testing.T) {
	r := rand.New(rand.NewSource(13))
	missed, done, gone, never := 0, 0, 0, 0
	for range 3000 {
		b := anyBank(r)
		if !impl.BankOk(b) {
			t.Fatal("not right", b)
		}
		for range 5 {
			want := dayAfter(b)
			e, ok := impl.Ended(b)
			if ok != (b.Day < impl.MaxDay) {
				t.Fatal(b, e, ok)
			}
			if !ok {
				never++
				runs(t, b, dayEnd, impl.TrFull)
				break
			}
			if !impl.BankOk(e) || e.Day != b.Day+1 || !sameBank(e, want) {
				t.Fatal(b, e, want)
			}
			runsTo(t, b, dayEnd, want)
			for _, o := range e.Orders {
				if impl.NextDue(o, e.Day) < e.Day {
					t.Fatal(b, e, o)
				}
			}
			missed += int(e.Missed - b.Missed)
			done += len(impl.DueOn(b.Orders, b.Day)) - int(e.Missed-b.Missed)
			gone += len(b.Orders) - len(e.Orders)
			b = e
		}
	}
	if missed < 300 || done < 300 || gone < 300 || never < 100 {
		t.Error("too few missed, done, gone or never ended", missed, done, gone, never)
	}
}

// ranAs is the code of an op by what the bank is, and the bank behind it.
func ranAs(b impl.Bank, o impl.BOp) (impl.Bank, int64) {
	next := cloned(b)
	same := func(x impl.Order) bool { return x.Id == o.Id || x.Id == o.Order.Id }
	there := slices.ContainsFunc(b.Orders, same)
	code := int64(impl.TrForm)
	switch {
	case o == bankOp(o.Op) && impl.OpOk(o.Op):
		if code = refusedAs(b.Forest, o.Op); code == impl.TrDone {
			next.Forest = bent(b.Forest, o.Op)
			next.In += impl.TotalOf(next.Forest) - impl.TotalOf(b.Forest)
		}
		if code == impl.TrDone && o.Op.Kind == impl.OpTake {
			next.In, next.Out = b.In, b.Out+o.Op.Amount
		}
	case o == addition(o.Order) && impl.OrderOk(o.Order) && there:
		code = impl.TrThere
	case o == addition(o.Order) && impl.OrderOk(o.Order):
		code = impl.TrDone
		next.Orders = append(next.Orders, o.Order)
		slices.SortFunc(next.Orders, func(a, b impl.Order) int { return int(a.Id - b.Id) })
	case o == cancellation(o.Id) && o.Id > 0 && !there:
		code = impl.TrNone
	case o == cancellation(o.Id) && o.Id > 0:
		code = impl.TrDone
		next.Orders = slices.DeleteFunc(next.Orders, same)
	case o == dayEnd:
		code, next = impl.TrDone, dayAfter(b)
	}
	if code == impl.TrDone && (len(next.Orders) > impl.MaxOrders || next.Day > impl.MaxDay) {
		code = impl.TrFull
	}
	if code != impl.TrDone {
		return b, code
	}
	return next, code
}

// Each op of a bank tells the code that it should, and does just what it says;
// promise 5: ops in two pieces are the same ops.
func TestBankOpsInTwoPieces(t *testing.T) {
	r := rand.New(rand.NewSource(14))
	seen := map[[2]int64]int{}
	for range 400 {
		b := anyBank(r)
		var ops []impl.BOp
		var wantCodes []int64
		want := b
		for range r.Intn(101) {
			o := anyBankOp(r, want)
			next, code := ranAs(want, o)
			c, got := impl.Ran(want, o)
			if got != code || !sameBank(c, next) || !impl.BankOk(c) {
				t.Fatal(want, o, got, c, code, next)
			}
			seen[[2]int64{o.Kind, code}]++
			want = next
			ops, wantCodes = append(ops, o), append(wantCodes, code)
		}
		c, codes := impl.RanAll(b, ops)
		if !sameBank(c, want) || !slices.Equal(codes, wantCodes) {
			t.Fatal(b, ops, c, codes, want, wantCodes)
		}
		cut := r.Intn(len(ops) + 1)
		half, firstCodes := impl.RanAll(b, ops[:cut])
		whole, lastCodes := impl.RanAll(half, ops[cut:])
		if !sameBank(whole, c) || !slices.Equal(append(firstCodes, lastCodes...), codes) {
			t.Fatal("two pieces", b, ops, cut, whole, c)
		}
	}
	for _, k := range [][2]int64{
		{impl.BkOp, impl.TrDone}, {impl.BkOp, impl.TrForm}, {impl.BkOp, impl.TrShort}, {impl.BkOp, impl.TrFrozen}, {impl.BkOrder, impl.TrDone}, {impl.BkOrder, impl.TrForm}, {impl.BkOrder, impl.TrThere},
		{impl.BkOrder, impl.TrFull}, {impl.BkCancel, impl.TrDone}, {impl.BkCancel, impl.TrForm}, {impl.BkCancel, impl.TrNone}, {impl.BkDay, impl.TrDone}, {impl.BkDay, impl.TrForm}, {impl.BkDay, impl.TrFull},
	} {
		if seen[k] < 20 {
			t.Error("too few of kind and code", k, seen[k])
		}
	}
}

// wiped overwrites all the memory of a bank, the spare room behind its lists too.
func wiped(b impl.Bank) {
	clear(b.Forest[:cap(b.Forest)])
	clear(b.Orders[:cap(b.Orders)])
}

// Nothing is written into a bank, a forest, ops or the room behind them; what
// is answered, refused or not, is memory of its own.
func TestBanksAreLeftAlone(t *testing.T) {
	r := rand.New(rand.NewSource(15))
	for range 600 {
		whole := anyBank(r)
		forest := append(whole.Forest, root(77, 1, 2), root(78, 3, 4))
		orders := append(whole.Orders, order(77, 1, 2, 3), order(78, 1, 2, 3))
		sameForest, sameOrders := slices.Clone(forest), slices.Clone(orders)
		b := whole
		b.Forest, b.Orders = forest[:len(whole.Forest)], orders[:len(whole.Orders)]
		ops := []impl.BOp{dayEnd, {}}
		for range 10 {
			ops = append(ops, anyBankOp(r, b))
		}
		sameOps := slices.Clone(ops)
		for _, o := range ops {
			c, code := impl.Ran(b, o)
			kept := cloned(c)
			wiped(c)
			if d, again := impl.Ran(b, o); again != code || !sameBank(d, kept) {
				t.Fatal("another answer", b, o, d, kept)
			}
		}
		e, _ := impl.Ended(b)
		wiped(e)
		swept, _ := impl.Swept(b.Forest), impl.BankOk(b)
		clear(swept[:cap(swept)])
		posted, _ := impl.Interest(b.Forest)
		clear(posted[:cap(posted)])
		for _, n := range []int{0, 1, len(ops)} {
			c, codes := impl.RanAll(b, ops[:n])
			wiped(c)
			clear(codes[:cap(codes)])
		}
		if !slices.Equal(forest, sameForest) || !slices.Equal(orders, sameOrders) || !slices.Equal(ops, sameOps) {
			t.Fatal("written into", forest, orders, ops)
		}
	}
}
