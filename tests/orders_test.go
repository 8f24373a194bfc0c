package tests

import (
	"math"
	"math/rand"
	"slices"
	"testing"

	"loop.example/g00362/impl"
)

// order pays 5 from the account 1 to the account 2.
func order(id, first, every, times int64) impl.Order {
	return impl.Order{Id: id, From: 1, To: 2, Amount: 5, First: first, Every: every, Times: times}
}

// daysOf are the days on which an order is due, counted out one by one.
func daysOf(o impl.Order) []int64 {
	var days []int64
	for day, k := o.First, int64(0); k < o.Times; day, k = day+o.Every, k+1 {
		if day <= impl.MaxDay {
			days = append(days, day)
		}
	}
	return days
}

// neverDue: an order that is not right is due on no day.
func neverDue(t *testing.T, o impl.Order) {
	t.Helper()
	for _, day := range []int64{math.MinInt64, -1, 0, 1, o.First, impl.MaxDay, impl.MaxDay + 1, math.MaxInt64} {
		if impl.IsDue(o, day) || impl.NextDue(o, day) != -1 || len(impl.DueOn([]impl.Order{o}, day)) != 0 {
			t.Error(o, day, impl.IsDue(o, day), impl.NextDue(o, day), impl.DueOn([]impl.Order{o}, day))
		}
	}
}

// The limits of each field: taken where they are met, refused one past.
func TestFieldsOfOrders(t *testing.T) {
	for _, x := range []struct {
		name      string
		set       func(o *impl.Order, n int64)
		low, high int64
	}{
		{"Id", func(o *impl.Order, n int64) { o.Id = n }, 1, impl.MaxId},
		{"From", func(o *impl.Order, n int64) { o.From = n }, 1, impl.MaxId},
		{"To", func(o *impl.Order, n int64) { o.To = n }, 1, impl.MaxId},
		{"Amount", func(o *impl.Order, n int64) { o.Amount = n }, 1, impl.MaxMoney},
		{"First", func(o *impl.Order, n int64) { o.First = n }, 0, impl.MaxDay},
		{"Every", func(o *impl.Order, n int64) { o.Every = n }, 1, 366},
		{"Times", func(o *impl.Order, n int64) { o.Times = n }, 1, impl.MaxTimes},
	} {
		for _, n := range []int64{x.low, x.high, x.low - 1, x.high + 1, math.MinInt64, math.MaxInt64} {
			o := impl.Order{Id: 4, From: 5, To: 6, Amount: 7, First: 8, Every: 9, Times: 10}
			x.set(&o, n)
			right := n >= x.low && n <= x.high
			if impl.OrderOk(o) != right || impl.OrdersOk([]impl.Order{o}) != right {
				t.Error(x.name, n, "right should be", right)
			}
			if right {
				if impl.NextDue(o, 0) != o.First || !impl.IsDue(o, o.First) {
					t.Error(o, impl.NextDue(o, 0))
				}
			} else {
				neverDue(t, o)
			}
		}
	}
	same := order(1, 0, 1, 1)
	for _, id := range []int64{1, 9, impl.MaxId} {
		same.From, same.To = id, id
		if impl.OrderOk(same) || impl.OrdersOk([]impl.Order{same}) {
			t.Error("from an account to itself", same)
		}
		neverDue(t, same)
	}
	neverDue(t, impl.Order{})
}

func TestEightOrdersAndNine(t *testing.T) {
	var l []impl.Order
	for id := int64(1); id <= 9; id++ {
		l = append(l, order(id*3, id, 1, 9))
	}
	if !impl.OrdersOk(l[:8]) || !impl.OrdersOk(nil) || !impl.OrdersOk([]impl.Order{}) {
		t.Error("up to eight are right")
	}
	if due := impl.DueOn(l[:8], 8); !slices.Equal(due, l[:8]) {
		t.Error(due)
	}
	if due := impl.DueOn(l[:8], 3); !slices.Equal(due, l[:3]) {
		t.Error(due)
	}
	if impl.OrdersOk(l) || len(impl.DueOn(l, 9)) != 0 {
		t.Error("nine are too many")
	}
}

func TestOrdersRise(t *testing.T) {
	for _, ids := range [][]int64{{1, 1}, {2, 1}, {1, 3, 2}, {1, 2, 2}, {0, 1}, {5, impl.MaxId, impl.MaxId + 1}} {
		var l []impl.Order
		for _, id := range ids {
			l = append(l, order(id, 3, 1, 1))
		}
		if impl.OrdersOk(l) || len(impl.DueOn(l, 3)) != 0 {
			t.Error(l, impl.DueOn(l, 3))
		}
	}
	// One that is wrong hides the ones that are right, wherever it stands.
	for place := range 3 {
		l := []impl.Order{order(1, 3, 1, 1), order(2, 3, 1, 1), order(impl.MaxId, 3, 1, 1)}
		if !impl.OrdersOk(l) || len(impl.DueOn(l, 3)) != 3 {
			t.Error(l)
		}
		l[place].Times = 0
		if impl.OrdersOk(l) || len(impl.DueOn(l, 3)) != 0 {
			t.Error(l, impl.DueOn(l, 3))
		}
	}
}

func TestDaysAroundAnOrder(t *testing.T) {
	const last = impl.MaxDay
	for _, x := range []struct {
		o    impl.Order
		day  int64
		due  bool
		next int64
	}{
		{order(1, 10, 7, 3), 0, false, 10}, {order(1, 10, 7, 3), 9, false, 10}, {order(1, 10, 7, 3), 10, true, 10}, {order(1, 10, 7, 3), 11, false, 17},
		{order(1, 10, 7, 3), 23, false, 24}, {order(1, 10, 7, 3), 24, true, 24}, {order(1, 10, 7, 3), 25, false, -1}, {order(1, 10, 7, 3), 31, false, -1},
		{order(1, 10, 7, 3), 3, false, 10}, {order(1, 10, 7, 3), -1, false, -1}, {order(1, 10, 7, 3), last, false, -1}, {order(1, 10, 7, 3), last + 1, false, -1},
		{order(1, 0, 1, 1), 0, true, 0}, {order(1, 0, 1, 1), 1, false, -1}, {order(1, 0, 1, 1), -1, false, -1}, {order(1, 0, 366, 1000), -366, false, -1},
		{order(1, 0, 366, 1000), 366 * 999, true, 366 * 999}, {order(1, 0, 366, 1000), 366*999 + 1, false, -1}, {order(1, 0, 366, 1000), 366 * 1000, false, -1},
		{order(1, last, 1, 1), last, true, last}, {order(1, last, 1, 1), last - 1, false, last}, {order(1, last, 1, 2), last + 1, false, -1},
		{order(1, last-4, 2, 3), last, true, last}, {order(1, last-4, 2, 1000), last, true, last}, {order(1, last-4, 2, 1000), last + 2, false, -1},
		{order(1, last-3, 2, 3), last - 1, true, last - 1}, {order(1, last-3, 2, 3), last, false, -1}, {order(1, last-3, 2, 3), last + 1, false, -1},
		{order(1, last-3, 2, 3), math.MaxInt64, false, -1}, {order(1, last-3, 2, 3), math.MinInt64, false, -1},
	} {
		due, next := impl.IsDue(x.o, x.day), impl.NextDue(x.o, x.day)
		if due != x.due || next != x.next || len(impl.DueOn([]impl.Order{x.o}, x.day)) == 1 != x.due {
			t.Error(x, due, next, impl.DueOn([]impl.Order{x.o}, x.day))
		}
	}
}

// Promise 4: an order is due on a day just where that is the next one on which it is.
func TestDueWhereItIsTheNextDay(t *testing.T) {
	r := rand.New(rand.NewSource(9))
	for range 400 {
		o := order(1+r.Int63n(9), r.Int63n(60), 1+r.Int63n(20), 1+r.Int63n(12))
		if r.Intn(3) == 0 {
			o.First = impl.MaxDay - r.Int63n(60)
		}
		days := daysOf(o)
		for day := o.First - 5; day <= o.First+260; day++ {
			next := int64(-1)
			if i := slices.IndexFunc(days, func(n int64) bool { return n >= day }); i >= 0 && day >= 0 && day <= impl.MaxDay {
				next = days[i]
			}
			if n := impl.NextDue(o, day); n != next {
				t.Fatal(o, day, n, next)
			}
			if due := impl.IsDue(o, day); due != slices.Contains(days, day) || due != (day >= 0 && next == day) {
				t.Fatal(o, day, due, next)
			}
		}
	}
}

func TestOrdersThatAreDueComeInOrder(t *testing.T) {
	r := rand.New(rand.NewSource(10))
	for range 500 {
		var l []impl.Order
		for i := range r.Int63n(impl.MaxOrders + 1) {
			l = append(l, order(i*3+1+r.Int63n(3), r.Int63n(9), 1+r.Int63n(4), 1+r.Int63n(5)))
		}
		for day := int64(-2); day < 30; day++ {
			var want []impl.Order
			for _, o := range l {
				if slices.Contains(daysOf(o), day) {
					want = append(want, o)
				}
			}
			if due := impl.DueOn(l, day); !slices.Equal(due, want) {
				t.Fatal(l, day, due, want)
			}
		}
	}
}

// Nothing is written into orders or the room behind them; an answer is memory of its own.
func TestOrdersAreLeftAlone(t *testing.T) {
	whole := []impl.Order{order(1, 3, 1, 1), order(2, 3, 1, 1), order(3, 4, 1, 1), order(4, 3, 1, 1), order(5, 3, 1, 1)}
	before := slices.Clone(whole)
	l := whole[:3]
	impl.OrdersOk(l)
	for _, day := range []int64{3, 4, 5} {
		due := impl.DueOn(l, day)
		kept := slices.Clone(due)
		clear(due[:cap(due)])
		if !slices.Equal(impl.DueOn(l, day), kept) {
			t.Error(day, impl.DueOn(l, day), kept)
		}
	}
	if !slices.Equal(whole, before) {
		t.Error("written into", whole)
	}
}
