package tests

import (
	"math"
	"math/rand"
	"slices"
	"testing"

	"loop.example/g00362/impl"
)

func op(kind, id, to, amount int64) impl.Op {
	return impl.Op{Kind: kind, Id: id, To: to, Amount: amount}
}

func frozen(a impl.Account) impl.Account {
	a.Frozen = true
	return a
}

// does asks for the code, and of a refusal that the forest is as it was.
func does(t *testing.T, f []impl.Account, o impl.Op, code int64) []impl.Account {
	t.Helper()
	g, c := impl.Done(f, o)
	if c != code {
		t.Errorf("%v on %v: code %d, want %d", o, f, c, code)
	}
	if c != impl.TrDone && !slices.Equal(g, f) {
		t.Errorf("%v refused with %d, and changed %v to %v", o, c, f, g)
	}
	return g
}

// makes asks for an op that is done, and for what comes of it.
func makes(t *testing.T, f []impl.Account, o impl.Op, want ...impl.Account) {
	t.Helper()
	if g := does(t, f, o, impl.TrDone); !slices.Equal(g, want) {
		t.Errorf("%v on %v: %v, want %v", o, f, g, want)
	}
}

// sums are what each account has with all below it, by going up from each one.
func sums(f []impl.Account) map[int64]int64 {
	s := map[int64]int64{}
	for _, a := range f {
		for _, id := range climbed(f, a.Id) {
			s[id] += a.Balance
		}
	}
	return s
}

// limitPassed: an account of f that may owe so much has less than before in g, and owes more than that.
func limitPassed(f, g []impl.Account) bool {
	before, after := sums(f), sums(g)
	return slices.ContainsFunc(f, func(a impl.Account) bool {
		n, there := after[a.Id]
		return there && a.Limit != -1 && n < before[a.Id] && n < -a.Limit
	})
}

// anyOp is a right op or nearly one, mostly of accounts that are there.
func anyOp(r *rand.Rand, f []impl.Account) impl.Op {
	id := func() int64 {
		if len(f) == 0 || r.Intn(12) == 0 {
			return r.Int63n(45)
		}
		return f[r.Intn(len(f))].Id
	}
	o := impl.Op{Kind: r.Int63n(10) + 1, Id: id()}
	switch o.Kind {
	case impl.OpOpen:
		o.Id, o.Amount = r.Int63n(45), r.Int63n(100)-1
		if r.Intn(2) == 0 {
			o.To = id()
		} else {
			o.Rate = r.Int63n(impl.MaxRate + 1)
		}
	case impl.OpPut, impl.OpTake:
		o.Amount = r.Int63n(120)
	case impl.OpPay:
		o.To, o.Amount = id(), r.Int63n(120)
	case impl.OpLimit, impl.OpTarget:
		o.Amount = r.Int63n(150) - 1
	case impl.OpHang:
		o.To = id()
	}
	if r.Intn(30) == 0 {
		o.Rate++
	}
	return o
}

// Promise 3: over many ops, all there is changes by what comes in or goes out
// alone, no limit is passed but by ops of limits, and frozen accounts have
// what they have.
func TestOpsKeepTheTreasury(t *testing.T) {
	r := rand.New(rand.NewSource(5))
	seen := map[[2]int64]int{}
	for range 4000 {
		f := anyForest(r)
		for range 25 {
			o := anyOp(r, f)
			g, c := impl.Done(f, o)
			seen[[2]int64{o.Kind, c}]++
			if !impl.ForestOk(g) || c != impl.TrDone && !slices.Equal(f, g) {
				t.Fatal(f, o, c, g)
			}
			moved := int64(0)
			if c == impl.TrDone && o.Kind == impl.OpPut {
				moved = o.Amount
			}
			if c == impl.TrDone && o.Kind == impl.OpTake {
				moved = -o.Amount
			}
			if impl.TotalOf(g) != impl.TotalOf(f)+moved {
				t.Fatal("all there is", f, o, c, g)
			}
			if limitPassed(f, g) {
				t.Fatal("a limit is passed", f, o, c, g)
			}
			for _, a := range f {
				b, there := impl.AccountOf(g, a.Id)
				if a.Frozen && (!there || b.Balance != a.Balance) {
					t.Fatal("frozen", f, o, c, g)
				}
			}
			f = g
		}
	}
	for kind := int64(impl.OpOpen); kind <= impl.OpTarget; kind++ {
		for _, c := range []int64{impl.TrDone, impl.TrForm, impl.TrNone} {
			if seen[[2]int64{kind, c}] < 20 {
				t.Error("too few of kind and code", kind, c)
			}
		}
	}
	for _, k := range [][2]int64{
		{impl.OpTake, impl.TrShort}, {impl.OpPay, impl.TrShort}, {impl.OpHang, impl.TrShort}, {impl.OpHang, impl.TrBusy},
		{impl.OpPut, impl.TrFrozen}, {impl.OpTake, impl.TrFrozen}, {impl.OpPay, impl.TrFrozen}, {impl.OpClose, impl.TrFrozen},
		{impl.OpClose, impl.TrBusy}, {impl.OpOpen, impl.TrThere}, {impl.OpOpen, impl.TrFull}, {impl.OpTarget, impl.TrBusy}, {impl.OpLimit, impl.TrBusy},
	} {
		if seen[k] < 20 {
			t.Error("too few of kind and code", k)
		}
	}
}

// bent is the forest with an op done on it, whatever that does to it.
func bent(f []impl.Account, o impl.Op) []impl.Account {
	var g []impl.Account
	for _, a := range f {
		self := a.Id == o.Id
		switch {
		case self && o.Kind == impl.OpClose:
			continue
		case self && (o.Kind == impl.OpFreeze || o.Kind == impl.OpThaw):
			a.Frozen = o.Kind == impl.OpFreeze
		case self && o.Kind == impl.OpPut, a.Id == o.To && o.Kind == impl.OpPay:
			a.Balance += o.Amount
		case self && (o.Kind == impl.OpTake || o.Kind == impl.OpPay):
			a.Balance -= o.Amount
		case self && o.Kind == impl.OpLimit:
			a.Limit = o.Amount
		case self && o.Kind == impl.OpTarget:
			a.Target = o.Amount
		case self && o.Kind == impl.OpHang:
			a.Up = o.To
		}
		g = append(g, a)
	}
	if o.Kind == impl.OpOpen {
		g = append(g, impl.Account{Id: o.Id, Up: o.To, Limit: o.Amount, Rate: o.Rate, Target: -1})
		slices.SortFunc(g, func(a, b impl.Account) int { return int(a.Id - b.Id) })
	}
	return g
}

// refusedAs is the code of an op by what it would do; the order of the questions is that of the document.
func refusedAs(f []impl.Account, o impl.Op) int64 {
	a, there := impl.AccountOf(f, o.Id)
	to, toThere := impl.AccountOf(f, o.To)
	if !impl.OpOk(o) {
		return impl.TrForm
	}
	if o.Kind == impl.OpOpen && there {
		return impl.TrThere
	}
	if o.Kind != impl.OpOpen && !there || o.To != 0 && !toThere {
		return impl.TrNone
	}
	moves := o.Kind == impl.OpPut || o.Kind == impl.OpTake || o.Kind == impl.OpPay
	if a.Frozen && (moves || o.Kind == impl.OpFreeze || o.Kind == impl.OpClose) {
		return impl.TrFrozen
	}
	if !a.Frozen && o.Kind == impl.OpThaw || to.Frozen && o.Kind == impl.OpPay {
		return impl.TrFrozen
	}
	busy := false
	switch o.Kind {
	case impl.OpClose:
		busy = a.Balance != 0 || len(impl.KidsOf(f, o.Id)) > 0
	case impl.OpLimit:
		busy = a.Up == 0 && o.Amount == -1
	case impl.OpTarget:
		busy = a.Up == 0
	case impl.OpHang:
		busy = a.Up == 0 || slices.Contains(climbed(f, o.To), o.Id)
	}
	if busy {
		return impl.TrBusy
	}
	g := bent(f, o)
	if limitPassed(f, g) {
		return impl.TrShort
	}
	if !impl.ForestOk(g) {
		return impl.TrFull
	}
	return impl.TrDone
}

// Each op tells the code that it should, and does just what it says.
func TestOpsAgainstWhatTheyWouldDo(t *testing.T) {
	r := rand.New(rand.NewSource(6))
	for range 4000 {
		f := anyForest(r)
		// Some are so near to the greatest balances that they would pass them.
		if len(f) > 0 && r.Intn(4) == 0 {
			f[r.Intn(len(f))].Balance = impl.MaxMoney - r.Int63n(60)
			f[r.Intn(len(f))].Balance = r.Int63n(60) - impl.MaxMoney
		}
		for range 25 {
			o := anyOp(r, f)
			want := refusedAs(f, o)
			g := does(t, f, o, want)
			if want == impl.TrDone && !slices.Equal(g, bent(f, o)) {
				t.Fatal(f, o, g, bent(f, o))
			}
			if t.Failed() {
				t.FailNow()
			}
			f = g
		}
	}
}

// The forms of the Kinds: the ends of each field are met, and passed by one.
func TestFormsOfOps(t *testing.T) {
	const other, none = true, false
	numbers := []int64{math.MinInt64, -impl.MaxMoney, -2, -1, 0, 1, 2, 99, impl.MaxRate, impl.MaxRate + 1, impl.MaxId, impl.MaxId + 1, impl.MaxMoney, impl.MaxMoney + 1, math.MaxInt64}
	for _, k := range []struct {
		kind       int64
		to         bool
		low, high  int64
		rateToHigh int64
	}{
		{impl.OpOpen, none, 0, impl.MaxMoney, impl.MaxRate},
		{impl.OpOpen, other, -1, impl.MaxMoney, 0},
		{impl.OpFreeze, none, 0, 0, 0},
		{impl.OpThaw, none, 0, 0, 0},
		{impl.OpClose, none, 0, 0, 0},
		{impl.OpPut, none, 1, impl.MaxMoney, 0},
		{impl.OpTake, none, 1, impl.MaxMoney, 0},
		{impl.OpPay, other, 1, impl.MaxMoney, 0},
		{impl.OpLimit, none, -1, impl.MaxMoney, 0},
		{impl.OpHang, other, 0, 0, 0},
		{impl.OpTarget, none, -1, impl.MaxMoney, 0},
	} {
		for _, id := range numbers {
			for _, to := range numbers {
				if k.kind == impl.OpOpen && k.to != (to != 0) {
					continue
				}
				for _, amount := range numbers {
					for _, rate := range numbers {
						o := impl.Op{Kind: k.kind, Id: id, To: to, Amount: amount, Rate: rate}
						right := id >= 1 && id <= impl.MaxId && amount >= k.low && amount <= k.high && rate >= 0 && rate <= k.rateToHigh
						if k.to {
							right = right && to >= 1 && to <= impl.MaxId && to != id
						} else {
							right = right && to == 0
						}
						if impl.OpOk(o) != right {
							t.Fatal(o, "right should be", right)
						}
					}
				}
			}
		}
	}
	for _, kind := range []int64{math.MinInt64, -1, 0, 11, 19, 20, math.MaxInt64} {
		for _, o := range []impl.Op{op(kind, 1, 0, 0), op(kind, 1, 0, 1), op(kind, 1, 2, 0), op(kind, 1, 2, 1), {}} {
			if impl.OpOk(o) {
				t.Error(o)
			}
		}
	}
}

// An op whose form is not right is told so ahead of all that the forest would say to it.
func TestWrongOpsAreToldFirst(t *testing.T) {
	f := []impl.Account{frozen(root(1, 0, 5)), kid(2, 1, 0, -9)}
	for kind := int64(impl.OpOpen); kind <= impl.OpTarget; kind++ {
		for _, o := range []impl.Op{
			op(kind, 0, 0, 0), op(kind, impl.MaxId+1, 0, 1), op(kind, 1, 1, 1), op(kind, 1, 1, 0), op(kind, 2, -1, 1), op(kind, 1, impl.MaxId+1, 0),
			op(kind, 1, 0, -2), op(kind, 1, 0, impl.MaxMoney+1), op(kind, 1, 2, impl.MaxMoney+1), op(kind, 9, 8, -2),
			{Kind: kind, Id: 1, Amount: 1, Rate: -1}, {Kind: kind, Id: 9, To: 2, Amount: 1, Rate: 1}, {Kind: kind, Id: 9, To: 2, Rate: 1}, {Kind: kind, Id: 1, Rate: impl.MaxRate + 1},
		} {
			does(t, f, o, impl.TrForm)
		}
	}
	for _, o := range []impl.Op{
		op(impl.OpFreeze, 1, 2, 0), op(impl.OpFreeze, 1, 0, 1), op(impl.OpThaw, 1, 2, 0), op(impl.OpThaw, 1, 0, 1), op(impl.OpClose, 1, 2, 0), op(impl.OpClose, 1, 0, 1),
		op(impl.OpPut, 1, 2, 1), op(impl.OpPut, 1, 0, 0), op(impl.OpPut, 1, 0, -1), op(impl.OpTake, 1, 2, 1), op(impl.OpTake, 1, 0, 0), op(impl.OpTake, 1, 0, -1),
		op(impl.OpPay, 1, 0, 1), op(impl.OpPay, 1, 2, 0), op(impl.OpPay, 1, 2, -1), op(impl.OpLimit, 2, 1, 1), op(impl.OpTarget, 2, 1, 1),
		op(impl.OpHang, 2, 0, 0), op(impl.OpHang, 2, 1, 1), op(impl.OpHang, 2, 1, -1), op(impl.OpOpen, 3, 0, -1), op(impl.OpOpen, 3, 3, 1),
		{}, op(0, 1, 0, 0), op(11, 1, 0, 1), op(-1, 1, 0, 1),
	} {
		does(t, f, o, impl.TrForm)
	}
}

func TestOpening(t *testing.T) {
	makes(t, nil, impl.Op{Kind: impl.OpOpen, Id: impl.MaxId, Rate: impl.MaxRate}, impl.Account{Id: impl.MaxId, Rate: impl.MaxRate, Target: -1})
	makes(t, nil, op(impl.OpOpen, 1, 0, impl.MaxMoney), root(1, impl.MaxMoney, 0))
	one, five := frozen(root(3, 7, 9)), kid(5, 3, -1, -2)
	f := []impl.Account{one, five}
	makes(t, f, op(impl.OpOpen, 1, 5, -1), kid(1, 5, -1, 0), one, five)
	makes(t, f, op(impl.OpOpen, 4, 3, 0), one, kid(4, 3, 0, 0), five)
	makes(t, f, op(impl.OpOpen, 6, 3, impl.MaxMoney), one, five, kid(6, 3, impl.MaxMoney, 0))
	does(t, f, op(impl.OpOpen, 5, 0, 1), impl.TrThere)
	does(t, f, op(impl.OpOpen, 5, 4, 1), impl.TrThere)
	does(t, f, op(impl.OpOpen, 4, 6, 1), impl.TrNone)
	does(t, nil, op(impl.OpOpen, 4, 6, 1), impl.TrNone)
	makes(t, chain(11), op(impl.OpOpen, 12, 11, -1), append(chain(11), kid(12, 11, -1, 0))...)
	does(t, chain(12), op(impl.OpOpen, 13, 12, -1), impl.TrFull)
	does(t, chain(12), op(impl.OpOpen, 13, 0, 5), impl.TrFull)
	does(t, chain(12), op(impl.OpOpen, 12, 0, 5), impl.TrThere)
	does(t, chain(12), op(impl.OpOpen, 13, 14, 5), impl.TrNone)
}

func TestFreezingAndThawing(t *testing.T) {
	one, two := root(1, 7, 9), kid(2, 1, -1, -2)
	makes(t, []impl.Account{one, two}, op(impl.OpFreeze, 2, 0, 0), one, frozen(two))
	makes(t, []impl.Account{one, two}, op(impl.OpFreeze, 1, 0, 0), frozen(one), two)
	makes(t, []impl.Account{frozen(one), frozen(two)}, op(impl.OpThaw, 1, 0, 0), one, frozen(two))
	does(t, []impl.Account{frozen(one), two}, op(impl.OpFreeze, 1, 0, 0), impl.TrFrozen)
	does(t, []impl.Account{frozen(one), two}, op(impl.OpThaw, 2, 0, 0), impl.TrFrozen)
	does(t, []impl.Account{one, two}, op(impl.OpFreeze, 3, 0, 0), impl.TrNone)
	does(t, []impl.Account{one, two}, op(impl.OpThaw, 3, 0, 0), impl.TrNone)
}

func TestClosing(t *testing.T) {
	one, two, four := root(1, 7, 0), kid(2, 1, -1, 0), kid(4, 1, 3, -2)
	two.Target = 5
	f := []impl.Account{one, two, four}
	makes(t, f, op(impl.OpClose, 2, 0, 0), one, four)
	does(t, f, op(impl.OpClose, 1, 0, 0), impl.TrBusy)
	does(t, f, op(impl.OpClose, 4, 0, 0), impl.TrBusy)
	does(t, f, op(impl.OpClose, 3, 0, 0), impl.TrNone)
	does(t, []impl.Account{root(1, 7, 1)}, op(impl.OpClose, 1, 0, 0), impl.TrBusy)
	does(t, []impl.Account{one, frozen(two)}, op(impl.OpClose, 2, 0, 0), impl.TrFrozen)
	does(t, []impl.Account{frozen(one), two}, op(impl.OpClose, 1, 0, 0), impl.TrFrozen)
	does(t, []impl.Account{frozen(root(1, 7, 1))}, op(impl.OpClose, 1, 0, 0), impl.TrFrozen)
	rich := root(1, 7, 0)
	rich.Rate, rich.Carry = 5, 6
	makes(t, []impl.Account{rich}, op(impl.OpClose, 1, 0, 0))
	makes(t, []impl.Account{frozen(one), two}, op(impl.OpClose, 2, 0, 0), frozen(one))
}

func TestPutting(t *testing.T) {
	one, two := root(1, 0, -5), kid(2, 1, 0, 4)
	f := []impl.Account{one, two}
	makes(t, f, op(impl.OpPut, 2, 0, 1), one, kid(2, 1, 0, 5))
	makes(t, f, op(impl.OpPut, 1, 0, 7), root(1, 0, 2), two)
	makes(t, f, op(impl.OpPut, 2, 0, impl.MaxMoney-4), one, kid(2, 1, 0, impl.MaxMoney))
	does(t, f, op(impl.OpPut, 2, 0, impl.MaxMoney-3), impl.TrFull)
	does(t, f, op(impl.OpPut, 2, 0, impl.MaxMoney), impl.TrFull)
	makes(t, f, op(impl.OpPut, 1, 0, impl.MaxMoney), root(1, 0, impl.MaxMoney-5), two)
	does(t, f, op(impl.OpPut, 3, 0, 1), impl.TrNone)
	does(t, []impl.Account{one, frozen(two)}, op(impl.OpPut, 2, 0, impl.MaxMoney), impl.TrFrozen)
	makes(t, []impl.Account{frozen(one), two}, op(impl.OpPut, 2, 0, 1), frozen(one), kid(2, 1, 0, 5))
}

func TestTaking(t *testing.T) {
	one, two, three, four := root(1, 50, 0), kid(2, 1, 10, 5), kid(3, 2, -1, 0), kid(4, 3, 100, -3)
	f := []impl.Account{one, two, three, four}
	makes(t, f, op(impl.OpTake, 1, 0, 52), root(1, 50, -52), two, three, four)
	does(t, f, op(impl.OpTake, 1, 0, 53), impl.TrShort)
	makes(t, f, op(impl.OpTake, 2, 0, 12), one, kid(2, 1, 10, -7), three, four)
	does(t, f, op(impl.OpTake, 2, 0, 13), impl.TrShort)
	makes(t, f, op(impl.OpTake, 4, 0, 12), one, two, three, kid(4, 3, 100, -15))
	does(t, f, op(impl.OpTake, 4, 0, 13), impl.TrShort)
	makes(t, f, op(impl.OpTake, 3, 0, 1), one, two, kid(3, 2, -1, -1), four)
	does(t, f, op(impl.OpTake, 5, 0, 13), impl.TrNone)
	does(t, []impl.Account{frozen(one)}, op(impl.OpTake, 1, 0, 51), impl.TrFrozen)
	// That one above is frozen keeps nothing from what is below it.
	makes(t, []impl.Account{frozen(one), two}, op(impl.OpTake, 2, 0, 15), frozen(one), kid(2, 1, 10, -10))
	does(t, []impl.Account{root(1, 0, -1)}, op(impl.OpTake, 1, 0, 1), impl.TrShort)
	deep := []impl.Account{root(1, impl.MaxMoney, impl.MaxMoney), kid(2, 1, -1, 1-impl.MaxMoney)}
	makes(t, deep, op(impl.OpTake, 2, 0, 1), deep[0], kid(2, 1, -1, -impl.MaxMoney))
	does(t, deep, op(impl.OpTake, 2, 0, 2), impl.TrFull)
	makes(t, deep, op(impl.OpTake, 1, 0, impl.MaxMoney), root(1, impl.MaxMoney, 0), deep[1])
	does(t, []impl.Account{root(1, impl.MaxMoney, 0), kid(2, 1, -1, -impl.MaxMoney)}, op(impl.OpTake, 2, 0, 1), impl.TrShort)
}

func TestPaying(t *testing.T) {
	one, two, three, four, nine := root(1, 0, -40), kid(2, 1, 10, 0), kid(3, 2, 4, 0), kid(4, 2, -1, 0), root(9, 6, 0)
	f := []impl.Account{one, two, three, four, nine}
	// Within 2 the limits of 2 and 1 are not asked, passed as that of 1 is.
	makes(t, f, op(impl.OpPay, 3, 4, 4), one, two, kid(3, 2, 4, -4), kid(4, 2, -1, 4), nine)
	does(t, f, op(impl.OpPay, 3, 4, 5), impl.TrShort)
	makes(t, f, op(impl.OpPay, 4, 3, 5000), one, two, kid(3, 2, 4, 5000), kid(4, 2, -1, -5000), nine)
	makes(t, f, op(impl.OpPay, 2, 4, 5000), one, kid(2, 1, 10, -5000), three, kid(4, 2, -1, 5000), nine)
	makes(t, f, op(impl.OpPay, 4, 2, 5000), one, kid(2, 1, 10, 5000), three, kid(4, 2, -1, -5000), nine)
	// Out of 2, but within 1: that of 2 is asked.
	makes(t, f, op(impl.OpPay, 4, 1, 10), root(1, 0, -30), two, three, kid(4, 2, -1, -10), nine)
	does(t, f, op(impl.OpPay, 4, 1, 11), impl.TrShort)
	// The root pays its own kid whatever it owes.
	makes(t, f, op(impl.OpPay, 1, 2, 7), root(1, 0, -47), kid(2, 1, 10, 7), three, four, nine)
	// Out of the tree: all limits are asked.
	does(t, f, op(impl.OpPay, 4, 9, 1), impl.TrShort)
	makes(t, f, op(impl.OpPay, 9, 4, 6), one, two, three, kid(4, 2, -1, 6), root(9, 6, -6))
	does(t, f, op(impl.OpPay, 9, 4, 7), impl.TrShort)
	does(t, f, op(impl.OpPay, 9, 5, 7), impl.TrNone)
	does(t, f, op(impl.OpPay, 5, 9, 7), impl.TrNone)
	does(t, f, op(impl.OpPay, 5, 6, 7), impl.TrNone)
}

func TestPayingWhatIsFrozenOrTooMuch(t *testing.T) {
	one, two := root(1, 5, 0), root(2, 5, 0)
	does(t, []impl.Account{frozen(one), two}, op(impl.OpPay, 1, 2, 9), impl.TrFrozen)
	does(t, []impl.Account{one, frozen(two)}, op(impl.OpPay, 1, 2, 9), impl.TrFrozen)
	does(t, []impl.Account{frozen(one), frozen(two)}, op(impl.OpPay, 1, 2, 1), impl.TrFrozen)
	does(t, []impl.Account{frozen(one), two}, op(impl.OpPay, 1, 3, 9), impl.TrNone)
	does(t, []impl.Account{one, frozen(two)}, op(impl.OpPay, 3, 2, 9), impl.TrNone)
	// One that is frozen above both is not asked.
	makes(t, []impl.Account{frozen(one), kid(3, 1, 5, 0), kid(4, 1, 0, 0)}, op(impl.OpPay, 3, 4, 5), frozen(one), kid(3, 1, 5, -5), kid(4, 1, 0, 5))
	full := []impl.Account{root(1, 5, 0), root(2, 0, impl.MaxMoney-5), kid(3, 2, -1, 0)}
	makes(t, full, op(impl.OpPay, 1, 2, 5), root(1, 5, -5), root(2, 0, impl.MaxMoney), full[2])
	does(t, full, op(impl.OpPay, 1, 2, 6), impl.TrShort)
	makes(t, full, op(impl.OpPay, 3, 2, 5), full[0], root(2, 0, impl.MaxMoney), kid(3, 2, -1, -5))
	does(t, full, op(impl.OpPay, 3, 2, 6), impl.TrFull)
	empty := []impl.Account{root(2, 0, 0), kid(3, 2, -1, 5-impl.MaxMoney)}
	makes(t, empty, op(impl.OpPay, 3, 2, 5), root(2, 0, 5), kid(3, 2, -1, -impl.MaxMoney))
	does(t, empty, op(impl.OpPay, 3, 2, 6), impl.TrFull)
	makes(t, empty, op(impl.OpPay, 2, 3, impl.MaxMoney), root(2, 0, -impl.MaxMoney), kid(3, 2, -1, 5))
}

func TestLimitsAndTargets(t *testing.T) {
	one, two := frozen(root(1, 7, 9)), frozen(kid(2, 1, 3, -20))
	f := []impl.Account{one, two}
	for _, n := range []int64{-1, 0, 1, impl.MaxMoney} {
		limit, target, top := two, two, one
		limit.Limit, target.Target, top.Limit = n, n, n
		makes(t, f, op(impl.OpLimit, 2, 0, n), one, limit)
		makes(t, f, op(impl.OpTarget, 2, 0, n), one, target)
		does(t, f, op(impl.OpTarget, 1, 0, n), impl.TrBusy)
		if n >= 0 {
			makes(t, f, op(impl.OpLimit, 1, 0, n), top, two)
		}
		does(t, f, op(impl.OpLimit, 3, 0, n), impl.TrNone)
		does(t, f, op(impl.OpTarget, 3, 0, n), impl.TrNone)
	}
	does(t, f, op(impl.OpLimit, 1, 0, -1), impl.TrBusy)
}

// hung is two trees: 3, with 5 below it, hangs below 2 in that of 1; in that of 6 stands 7.
func hung(limits [5]int64, sum int64) []impl.Account {
	return []impl.Account{root(1, limits[0], 0), kid(2, 1, limits[1], 0), kid(3, 2, limits[2], sum-8), kid(5, 3, -1, 8), root(6, limits[3], 0), kid(7, 6, limits[4], 0)}
}

// hangs asks for the code of hanging the account 3 below another one, and that no more than its Up changes.
func hangs(t *testing.T, f []impl.Account, to, code int64) {
	t.Helper()
	o := op(impl.OpHang, 3, to, 0)
	if code != impl.TrDone {
		does(t, f, o, code)
		return
	}
	want := slices.Clone(f)
	want[2].Up = to
	makes(t, f, o, want...)
}

func TestHangingElsewhere(t *testing.T) {
	const sum = 30
	for _, x := range []struct {
		limits [5]int64
		sum    int64
		to     int64
		code   int64
	}{
		{[5]int64{0, 0, 0, 0, 0}, sum, 7, impl.TrDone},
		{[5]int64{0, -1, 0, 0, 0}, 0, 7, impl.TrDone},
		{[5]int64{30, 30, 30, 30, 30}, -sum, 7, impl.TrDone},
		{[5]int64{30, -1, -1, 30, 29}, -sum, 7, impl.TrShort},
		{[5]int64{30, -1, -1, 29, 30}, -sum, 7, impl.TrShort},
		{[5]int64{30, -1, -1, 30, -1}, -sum, 7, impl.TrDone},
		{[5]int64{30, -1, -1, 30, 0}, -sum, 6, impl.TrDone},
		{[5]int64{30, -1, -1, 29, 30}, -sum, 6, impl.TrShort},
		// Within one tree the limits that both have above them are not asked.
		{[5]int64{0, 0, 0, 0, 0}, -sum, 1, impl.TrDone},
		{[5]int64{0, 0, 0, 0, 0}, -sum, 2, impl.TrDone},
		{[5]int64{0, 0, 0, 0, 0}, sum, 2, impl.TrDone},
	} {
		f := hung(x.limits, x.sum)
		hangs(t, f, x.to, x.code)
	}
}

// What leaves a tree leaves the limits there without what it had.
func TestHangingWhatHoldsUpALimit(t *testing.T) {
	for _, x := range []struct {
		one, two int64
		to, code int64
	}{
		{-25, 0, 7, impl.TrDone}, {-26, 0, 7, impl.TrShort}, {-35, 10, 7, impl.TrDone}, {0, -10, 7, impl.TrDone}, {0, -11, 7, impl.TrShort},
		{-900, -10, 1, impl.TrDone}, {900, -11, 1, impl.TrShort}, {-900, -900, 2, impl.TrDone},
		{-900, -10, 4, impl.TrDone}, {-900, -11, 4, impl.TrShort}, {-900, -900, 8, impl.TrDone},
	} {
		f := hung([5]int64{25, 10, 0, 0, 0}, 30)
		f = slices.Insert(f, 3, kid(4, 1, 0, 0))
		f = append(f, kid(8, 2, 0, 0))
		f[0].Balance, f[1].Balance = x.one, x.two
		hangs(t, f, x.to, x.code)
	}
}

func TestHangingWhatIsInTheWay(t *testing.T) {
	f := hung([5]int64{0, 0, 0, 0, 0}, -50)
	for _, x := range []struct{ id, to, code int64 }{
		{1, 7, impl.TrBusy}, {1, 2, impl.TrBusy}, {6, 1, impl.TrBusy}, {3, 5, impl.TrBusy}, {2, 5, impl.TrBusy}, {2, 3, impl.TrBusy},
		{3, 4, impl.TrNone}, {4, 3, impl.TrNone}, {1, 4, impl.TrNone}, {4, 9, impl.TrNone}, {3, 7, impl.TrShort},
	} {
		does(t, f, op(impl.OpHang, x.id, x.to, 0), x.code)
	}
	// A sum of 0 moves nothing, so limits that are passed already hinder it nowhere.
	owing := []impl.Account{root(1, 0, -5), frozen(kid(2, 1, 3, 0)), root(3, 0, -5), frozen(kid(4, 3, 0, -5))}
	makes(t, owing, op(impl.OpHang, 2, 4, 0), owing[0], frozen(kid(2, 4, 3, 0)), owing[2], owing[3])
	// Where it hangs already all is done, whatever is owed.
	makes(t, owing, op(impl.OpHang, 4, 3, 0), owing...)
	does(t, owing, op(impl.OpHang, 4, 1, 0), impl.TrShort)
}

func TestOpsOnWrongForests(t *testing.T) {
	for _, f := range [][]impl.Account{
		{{}}, chain(13), {kid(1, 1, 0, 5)}, {kid(1, 2, 0, 5), kid(2, 1, 0, 5)}, {root(2, 0, 5), root(1, 0, 5)}, {root(1, -1, 5)},
		{root(1, 0, impl.MaxMoney+1)}, {root(1, 0, 5), kid(2, 3, 0, 5)},
	} {
		for _, o := range []impl.Op{op(impl.OpPut, 1, 0, 1), op(impl.OpOpen, 9, 0, 1), op(impl.OpClose, 1, 0, 0), op(impl.OpTake, 1, 0, 9), {}} {
			if g, c := impl.Done(f, o); len(g) != 0 || c != impl.TrWrong {
				t.Error(f, o, g, c)
			}
		}
		if g, codes := impl.DoneAll(f, []impl.Op{op(impl.OpPut, 1, 0, 1)}); len(g) != 0 || len(codes) != 0 {
			t.Error(f, g, codes)
		}
		if g, codes := impl.DoneAll(f, nil); len(g) != 0 || len(codes) != 0 {
			t.Error(f, g, codes)
		}
	}
}

func TestAHundredOpsAndOneMore(t *testing.T) {
	f := []impl.Account{root(1, 0, 5)}
	ops := slices.Repeat([]impl.Op{op(impl.OpPut, 1, 0, 2)}, 101)
	g, codes := impl.DoneAll(f, ops[:100])
	if !slices.Equal(g, []impl.Account{root(1, 0, 205)}) || !slices.Equal(codes, make([]int64, 100)) {
		t.Error(g, codes)
	}
	if g, codes := impl.DoneAll(f, ops); len(g) != 0 || len(codes) != 0 {
		t.Error(g, codes)
	}
	if g, codes := impl.DoneAll(f, nil); !slices.Equal(g, f) || len(codes) != 0 {
		t.Error(g, codes)
	}
	if g, codes := impl.DoneAll(nil, nil); len(g) != 0 || len(codes) != 0 {
		t.Error(g, codes)
	}
}

func TestOpsOneByOne(t *testing.T) {
	r := rand.New(rand.NewSource(7))
	for range 500 {
		f := anyForest(r)
		var ops []impl.Op
		for range r.Intn(101) {
			ops = append(ops, anyOp(r, f))
		}
		want := f
		var wantCodes []int64
		for _, o := range ops {
			g, c := impl.Done(want, o)
			want, wantCodes = g, append(wantCodes, c)
		}
		g, codes := impl.DoneAll(f, ops)
		if !slices.Equal(g, want) || !slices.Equal(codes, wantCodes) {
			t.Fatal(f, ops, g, codes, want, wantCodes)
		}
	}
}

// Nothing is written into the forest, the ops or the room behind them; what is
// answered, refused or not, is memory of its own.
func TestOpsLeaveTheirArgumentsAlone(t *testing.T) {
	r := rand.New(rand.NewSource(8))
	for range 1000 {
		whole := append(anyForest(r), root(77, 1, 2), root(78, 3, 4))
		before := slices.Clone(whole)
		f := whole[:len(whole)-2]
		var ops []impl.Op
		for range 12 {
			ops = append(ops, anyOp(r, f))
		}
		sameOps := slices.Clone(ops)
		for _, o := range ops {
			g, c := impl.Done(f, o)
			again := slices.Clone(g)
			clear(g[:cap(g)])
			if h, d := impl.Done(f, o); d != c || !slices.Equal(h, again) {
				t.Fatal("another answer", f, o, again, c, h, d)
			}
		}
		for _, n := range []int{0, 12} {
			g, codes := impl.DoneAll(f, ops[:n])
			clear(g[:cap(g)])
			clear(codes[:cap(codes)])
		}
		if !slices.Equal(whole, before) || !slices.Equal(ops, sameOps) {
			t.Fatal("written into", whole, before, ops, sameOps)
		}
	}
}
