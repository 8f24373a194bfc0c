package impl

import "math"

const (
	MaxAccounts = 12
	MaxId       = 1000000
)

// noAmount stands in Limit and Target for: there is none.
const noAmount = -1

type Account struct {
	Id      int64
	Up      int64
	Limit   int64
	Rate    int64
	Target  int64
	Frozen  bool
	Balance int64
	Carry   int64
}

func idOk(id int64) bool {
	return id >= 1 && id <= MaxId
}

func amountOrNoneOk(n int64) bool {
	return n >= noAmount && n <= MaxMoney
}

func accountOk(a Account) bool {
	if !idOk(a.Id) || !amountOrNoneOk(a.Limit) || !amountOrNoneOk(a.Target) {
		return false
	}
	if a.Balance < -MaxMoney || a.Balance > MaxMoney {
		return false
	}
	if a.Up != 0 {
		return a.Rate == 0 && a.Carry == 0
	}
	if a.Limit == noAmount || a.Target != noAmount {
		return false
	}
	return a.Rate >= 0 && a.Rate <= MaxRate && a.Carry >= 0 && a.Carry < YearPart
}

// placeOf is -1 when there is no such account.
func placeOf(f []Account, id int64) int {
	for i, a := range f {
		if a.Id == id {
			return i
		}
	}
	return -1
}

// leadsToRoot takes no more steps than there are accounts, so that a ring of
// accounts ends too.
func leadsToRoot(f []Account, a Account) bool {
	for range len(f) {
		if a.Up == 0 {
			return true
		}
		i := placeOf(f, a.Up)
		if i < 0 {
			return false
		}
		a = f[i]
	}
	return false
}

func ForestOk(f []Account) bool {
	if len(f) > MaxAccounts {
		return false
	}
	for i, a := range f {
		if !accountOk(a) || i > 0 && f[i-1].Id >= a.Id {
			return false
		}
	}
	for _, a := range f {
		if !leadsToRoot(f, a) {
			return false
		}
	}
	return true
}

func AccountOf(f []Account, id int64) (Account, bool) {
	if !ForestOk(f) {
		return Account{}, false
	}
	i := placeOf(f, id)
	if i < 0 {
		return Account{}, false
	}
	return f[i], true
}

// pathFrom is of a right forest alone: on a ring it would not end.
func pathFrom(f []Account, id int64) []Account {
	var path []Account
	for i := placeOf(f, id); i >= 0; i = placeOf(f, f[i].Up) {
		path = append(path, f[i])
	}
	return path
}

func PathOf(f []Account, id int64) []int64 {
	if !ForestOk(f) {
		return nil
	}
	var ids []int64
	for _, a := range pathFrom(f, id) {
		ids = append(ids, a.Id)
	}
	return ids
}

func KidsOf(f []Account, id int64) []int64 {
	if !ForestOk(f) {
		return nil
	}
	var ids []int64
	for _, a := range f {
		if a.Up == id {
			ids = append(ids, a.Id)
		}
	}
	return ids
}

// sumFrom is of a right forest alone: on a ring it would not end.
func sumFrom(f []Account, top Account) int64 {
	var sum func(a Account) int64
	sum = func(a Account) int64 {
		total := a.Balance
		for _, kid := range f {
			if kid.Up == a.Id {
				total += sum(kid)
			}
		}
		return total
	}
	return sum(top)
}

func SumOf(f []Account, id int64) (int64, bool) {
	a, ok := AccountOf(f, id)
	if !ok {
		return 0, false
	}
	return sumFrom(f, a), true
}

func RoomOf(f []Account, id int64) (int64, bool) {
	if _, ok := AccountOf(f, id); !ok {
		return 0, false
	}
	// A path ends in a root, and each root has a limit: some sum takes the
	// place of this start.
	least := int64(math.MaxInt64)
	for _, a := range pathFrom(f, id) {
		if a.Limit != noAmount {
			least = min(least, sumFrom(f, a)+a.Limit)
		}
	}
	return least, true
}

func TotalOf(f []Account) int64 {
	if !ForestOk(f) {
		return 0
	}
	total := int64(0)
	for _, a := range f {
		total += a.Balance
	}
	return total
}
