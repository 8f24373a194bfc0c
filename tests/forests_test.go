package tests

import (
	"math"
	"math/rand"
	"slices"
	"testing"

	"loop.example/g00362/impl"
)

func root(id, limit, balance int64) impl.Account {
	return impl.Account{Id: id, Limit: limit, Target: -1, Balance: balance}
}

func kid(id, up, limit, balance int64) impl.Account {
	return impl.Account{Id: id, Up: up, Limit: limit, Target: -1, Balance: balance}
}

// chain is a root and n - 1 accounts, each below the one ahead of it.
func chain(n int) []impl.Account {
	f := []impl.Account{root(1, 100, 1)}
	for i := int64(2); i <= int64(n); i++ {
		f = append(f, kid(i, i-1, -1, i))
	}
	return f
}

// anyForest is a right one; an account may hang below one of a greater Id.
func anyForest(r *rand.Rand) []impl.Account {
	n := r.Intn(impl.MaxAccounts + 1)
	f := make([]impl.Account, n)
	for i := range f {
		f[i] = kid(int64(i*3+1+r.Intn(3)), 0, r.Int63n(200), r.Int63n(201)-100)
	}
	shuffled := r.Perm(n)
	for k, i := range shuffled {
		if up := r.Intn(k + 1); up < k {
			f[i].Up = f[shuffled[up]].Id
			f[i].Limit = r.Int63n(200) - 1
			f[i].Target = r.Int63n(50) - 1
			if r.Intn(3) == 0 {
				f[i].Limit = -1
			}
		} else {
			f[i].Rate, f[i].Carry = r.Int63n(impl.MaxRate+1), r.Int63n(impl.YearPart)
		}
		f[i].Frozen = r.Intn(4) == 0
	}
	return f
}

// climbed is the path of an account, by going up the table of what hangs where.
func climbed(f []impl.Account, id int64) []int64 {
	up := map[int64]int64{}
	for _, a := range f {
		up[a.Id] = a.Up
	}
	var path []int64
	for ; id != 0; id = up[id] {
		path = append(path, id)
	}
	return path
}

// Promise 2: a sum is an account's own balance and the sums of its kids.
func TestSumIsOwnAndThatOfKids(t *testing.T) {
	r := rand.New(rand.NewSource(1))
	for range 3000 {
		f := anyForest(r)
		if !impl.ForestOk(f) {
			t.Fatal("not right", f)
		}
		roots, all := int64(0), int64(0)
		for _, a := range f {
			want, below := a.Balance, int64(0)
			for _, k := range impl.KidsOf(f, a.Id) {
				s, _ := impl.SumOf(f, k)
				want += s
			}
			for _, b := range f {
				if slices.Contains(climbed(f, b.Id), a.Id) {
					below += b.Balance
				}
			}
			s, ok := impl.SumOf(f, a.Id)
			if !ok || s != want || s != below {
				t.Fatal(f, a.Id, s, ok, want, below)
			}
			all += a.Balance
		}
		for _, id := range impl.KidsOf(f, 0) {
			s, _ := impl.SumOf(f, id)
			roots += s
		}
		if n := impl.TotalOf(f); n != all || n != roots {
			t.Fatal(f, n, all, roots)
		}
	}
}

// Promise 2: what may be taken is within each limit on the path, and no less than that.
func TestRoomIsWithinEachLimitOnThePath(t *testing.T) {
	r := rand.New(rand.NewSource(2))
	for range 3000 {
		f := anyForest(r)
		for _, a := range f {
			room, ok := impl.RoomOf(f, a.Id)
			if !ok {
				t.Fatal(f, a.Id)
			}
			met := false
			for _, id := range climbed(f, a.Id) {
				b, _ := impl.AccountOf(f, id)
				s, _ := impl.SumOf(f, id)
				if b.Limit != -1 && room > s+b.Limit {
					t.Fatal(f, a.Id, id, room, s, b.Limit)
				}
				met = met || b.Limit != -1 && room == s+b.Limit
			}
			if !met {
				t.Fatal(f, a.Id, room)
			}
		}
	}
}

func TestPathsKidsAndAccounts(t *testing.T) {
	r := rand.New(rand.NewSource(3))
	for range 1000 {
		f := anyForest(r)
		kids := map[int64][]int64{}
		for _, a := range f {
			kids[a.Up] = append(kids[a.Up], a.Id)
			if p := impl.PathOf(f, a.Id); !slices.Equal(p, climbed(f, a.Id)) {
				t.Fatal(f, a.Id, p)
			}
			if b, ok := impl.AccountOf(f, a.Id); !ok || b != a {
				t.Fatal(f, a, b, ok)
			}
		}
		for id := int64(0); id < 40; id++ {
			if k := impl.KidsOf(f, id); !slices.Equal(k, kids[id]) {
				t.Fatal(f, id, k, kids[id])
			}
		}
	}
}

func TestKidBelowOneOfGreaterId(t *testing.T) {
	f := []impl.Account{kid(2, 7, 0, -30), kid(5, 2, -1, -5), root(7, 60, 10), root(impl.MaxId, 0, -4)}
	if !impl.ForestOk(f) || impl.TotalOf(f) != -29 {
		t.Fatal(impl.TotalOf(f))
	}
	if p := impl.PathOf(f, 5); !slices.Equal(p, []int64{5, 2, 7}) {
		t.Error(p)
	}
	for id, want := range map[int64][2]int64{2: {-35, -35}, 5: {-5, -35}, 7: {-25, 35}, impl.MaxId: {-4, -4}} {
		s, ok := impl.SumOf(f, id)
		n, fine := impl.RoomOf(f, id)
		if !ok || !fine || s != want[0] || n != want[1] {
			t.Error(id, s, ok, n, fine, want)
		}
	}
}

// None of the questions finds an account in a forest that is not right, or one that is not there.
func findsNothing(t *testing.T, f []impl.Account, id int64) {
	t.Helper()
	if a, ok := impl.AccountOf(f, id); ok || a != (impl.Account{}) {
		t.Error(id, a, ok)
	}
	if s, ok := impl.SumOf(f, id); ok || s != 0 {
		t.Error(id, s, ok)
	}
	if n, ok := impl.RoomOf(f, id); ok || n != 0 {
		t.Error(id, n, ok)
	}
	if p := impl.PathOf(f, id); len(p) != 0 {
		t.Error(id, p)
	}
}

func TestNoSuchAccount(t *testing.T) {
	for _, id := range []int64{-1, 0, 13, impl.MaxId, impl.MaxId + 1, math.MaxInt64, math.MinInt64} {
		findsNothing(t, chain(12), id)
		findsNothing(t, nil, id)
		if k := impl.KidsOf(chain(12), id); id != 0 && len(k) != 0 {
			t.Error(id, k)
		}
	}
	if !impl.ForestOk(nil) || !impl.ForestOk([]impl.Account{}) || impl.TotalOf(nil) != 0 || len(impl.KidsOf(nil, 0)) != 0 {
		t.Error("no accounts are a right forest")
	}
}

func TestTwelveAccountsAndThirteen(t *testing.T) {
	f := chain(12)
	s, ok := impl.SumOf(f, 1)
	if !impl.ForestOk(f) || !ok || s != 78 || impl.TotalOf(f) != 78 || len(impl.PathOf(f, 12)) != 12 {
		t.Error(s, ok, impl.TotalOf(f), impl.PathOf(f, 12))
	}
	var roots []impl.Account
	for i := int64(1); i <= 13; i++ {
		roots = append(roots, root(i, 0, 1))
	}
	if !impl.ForestOk(roots[:12]) || len(impl.KidsOf(roots[:12], 0)) != 12 {
		t.Error("twelve roots")
	}
	for _, g := range [][]impl.Account{chain(13), roots, chain(5000)} {
		refusedWhole(t, g)
	}
}

func refusedWhole(t *testing.T, f []impl.Account) {
	t.Helper()
	if impl.ForestOk(f) || impl.TotalOf(f) != 0 || len(impl.KidsOf(f, 0)) != 0 {
		t.Errorf("taken as right: %v", f)
	}
	for _, a := range f {
		findsNothing(t, f, a.Id)
		if k := impl.KidsOf(f, a.Id); len(k) != 0 {
			t.Error(f, k)
		}
	}
}

func TestForestsThatLeadToNoRoot(t *testing.T) {
	for _, f := range [][]impl.Account{
		{kid(1, 1, 0, 5)},
		{kid(1, 2, 0, 5)},
		{kid(1, -1, 0, 5)},
		{root(1, 0, 5), kid(2, 3, 0, 5)},
		{kid(1, 2, 0, 5), kid(2, 1, 0, 5)},
		{root(1, 0, 5), kid(2, 3, 0, 5), kid(3, 2, 0, 5)},
		{root(1, 0, 5), kid(2, 4, 0, 5), kid(3, 2, 0, 5), kid(4, 3, 0, 5), kid(5, 4, 0, 5)},
		{root(1, 0, 5), kid(2, 2, 0, 5)},
		{root(1, 0, 5), kid(2, math.MinInt64, 0, 5)},
		{root(1, 0, 5), kid(2, math.MaxInt64, 0, 5)},
	} {
		refusedWhole(t, f)
	}
	ring := chain(12)
	ring[0] = kid(1, 12, 0, 1)
	refusedWhole(t, ring)
}

func TestIdsRise(t *testing.T) {
	for _, ids := range [][]int64{{0}, {-1}, {impl.MaxId + 1}, {math.MaxInt64}, {math.MinInt64}, {1, 1}, {2, 1}, {1, 3, 2}, {1, 2, 2}, {0, 1}, {5, impl.MaxId, impl.MaxId + 1}} {
		var f []impl.Account
		for _, id := range ids {
			f = append(f, root(id, 0, 5))
		}
		refusedWhole(t, f)
	}
	if !impl.ForestOk([]impl.Account{root(1, 0, 0), root(impl.MaxId, 0, 0)}) {
		t.Error("1 and MaxId")
	}
}

// The limits of each field: taken where they are met, refused one past; of a root, and of one below it.
func TestFieldsOfAccounts(t *testing.T) {
	fields := []struct {
		name            string
		set             func(a *impl.Account, n int64)
		rootLow, rootHi int64
		kidLow, kidHi   int64
	}{
		{"Limit", func(a *impl.Account, n int64) { a.Limit = n }, 0, impl.MaxMoney, -1, impl.MaxMoney},
		{"Rate", func(a *impl.Account, n int64) { a.Rate = n }, 0, impl.MaxRate, 0, 0},
		{"Target", func(a *impl.Account, n int64) { a.Target = n }, -1, -1, -1, impl.MaxMoney},
		{"Balance", func(a *impl.Account, n int64) { a.Balance = n }, -impl.MaxMoney, impl.MaxMoney, -impl.MaxMoney, impl.MaxMoney},
		{"Carry", func(a *impl.Account, n int64) { a.Carry = n }, 0, impl.YearPart - 1, 0, 0},
	}
	for _, x := range fields {
		for place, ends := range [][2]int64{{x.rootLow, x.rootHi}, {x.kidLow, x.kidHi}} {
			for _, n := range []int64{ends[0], ends[1], ends[0] - 1, ends[1] + 1, math.MinInt64, math.MaxInt64} {
				f := []impl.Account{root(1, 0, 5), kid(2, 1, 0, 5)}
				x.set(&f[place], n)
				right := n >= ends[0] && n <= ends[1]
				if impl.ForestOk(f) != right {
					t.Error(x.name, place, n, "right should be", right)
				}
				if !right {
					refusedWhole(t, f)
				}
			}
		}
	}
	frozen := []impl.Account{root(1, 0, 5), kid(2, 1, 0, 5)}
	frozen[0].Frozen, frozen[1].Frozen = true, true
	if !impl.ForestOk(frozen) {
		t.Error("frozen accounts are right too")
	}
}

func TestGreatestSums(t *testing.T) {
	for _, sign := range []int64{1, -1} {
		f := chain(12)
		for i := range f {
			f[i].Balance = sign * impl.MaxMoney
		}
		f[0].Limit = impl.MaxMoney
		s, ok := impl.SumOf(f, 1)
		n, fine := impl.RoomOf(f, 12)
		if !ok || !fine || s != sign*12*impl.MaxMoney || n != s+impl.MaxMoney || impl.TotalOf(f) != s {
			t.Error(sign, s, ok, n, fine, impl.TotalOf(f))
		}
	}
}

// Nothing is written into an argument or the spare room behind it, and an answer is memory of its own.
func TestForestIsLeftAlone(t *testing.T) {
	r := rand.New(rand.NewSource(4))
	for range 300 {
		whole := append(anyForest(r), root(77, 1, 2), root(78, 3, 4))
		before := slices.Clone(whole)
		f := whole[:len(whole)-2]
		for id := int64(-1); id < 40; id++ {
			impl.ForestOk(f)
			impl.AccountOf(f, id)
			impl.SumOf(f, id)
			impl.RoomOf(f, id)
			impl.TotalOf(f)
			path, kids := impl.PathOf(f, id), impl.KidsOf(f, id)
			samePath, sameKids := slices.Clone(path), slices.Clone(kids)
			clear(impl.PathOf(f, id))
			clear(impl.KidsOf(f, id))
			if !slices.Equal(path, samePath) || !slices.Equal(kids, sameKids) || !slices.Equal(impl.PathOf(f, id), path) || !slices.Equal(impl.KidsOf(f, id), kids) {
				t.Fatal("an answer shares memory", f, id)
			}
		}
		if !slices.Equal(whole, before) {
			t.Fatal("written into", whole, before)
		}
	}
}
