package tests

import (
	"math"
	"math/big"
	"testing"

	"loop.example/g00362/impl"
)

// followed is the next date, by the calendar's own rule and none of the program's.
func followed(d impl.Date) impl.Date {
	last := map[int64]int64{4: 30, 6: 30, 9: 30, 11: 30}[d.Month]
	switch {
	case d.Month == 2 && (d.Year%400 == 0 || d.Year%4 == 0 && d.Year%100 != 0):
		last = 29
	case d.Month == 2:
		last = 28
	case last == 0:
		last = 31
	}
	switch {
	case d.Day < last:
		return impl.Date{Year: d.Year, Month: d.Month, Day: d.Day + 1}
	case d.Month < 12:
		return impl.Date{Year: d.Year, Month: d.Month + 1, Day: 1}
	}
	return impl.Date{Year: d.Year + 1, Month: 1, Day: 1}
}

func date(r [3]int64) impl.Date {
	return impl.Date{Year: r[0], Month: r[1], Day: r[2]}
}

// Promise 1: each day has the date that follows, and comes back from it.
func TestEachDayIsFollowedByTheNextDate(t *testing.T) {
	want := impl.Date{Year: 1, Month: 1, Day: 1}
	for day := int64(0); day <= impl.MaxDay; day++ {
		d, ok := impl.DateOf(day)
		if !ok || d != want || !impl.DateOk(d) || impl.DayOf(d) != day {
			t.Fatalf("day %d: %v %v, want %v; back: %d", day, d, ok, want, impl.DayOf(d))
		}
		if w := impl.WeekdayOf(day); w != day%7+1 {
			t.Fatalf("day %d: weekday %d", day, w)
		}
		next := followed(d)
		if impl.MonthEnd(day) != (next.Day == 1) {
			t.Fatalf("day %d: month's end %v", day, impl.MonthEnd(day))
		}
		want = next
	}
}

// Every right date is written and read again, those behind MaxDay too.
func TestEachDateComesBackFromItsText(t *testing.T) {
	end := impl.Date{Year: 10000, Month: 1, Day: 1}
	day := int64(0)
	for d := (impl.Date{Year: 1, Month: 1, Day: 1}); d != end; d = followed(d) {
		s := impl.DateText(d)
		back, ok := impl.ReadDate(s)
		if len(s) != 10 || !ok || back != d || !impl.DateOk(d) {
			t.Fatalf("%v: %q %v %v", d, s, back, ok)
		}
		want := day
		if day > impl.MaxDay {
			want = -1
		}
		if n := impl.DayOf(d); n != want {
			t.Fatalf("%v: day %d, want %d", d, n, want)
		}
		day++
	}
	if day != 3652059 {
		t.Error("so many right dates:", day)
	}
}

func TestKnownDays(t *testing.T) {
	for _, r := range []struct {
		text    string
		day     int64
		weekday int64
		end     bool
	}{
		{"0001-01-01", 0, 1, false},
		{"0001-01-31", 30, 3, true},
		{"0001-02-28", 58, 3, true},
		{"0004-02-28", 1153, 6, false},
		{"0004-02-29", 1154, 7, true},
		{"0100-02-28", 36217, 7, true},
		{"0100-12-31", 36523, 5, true},
		{"0101-01-01", 36524, 6, false},
		{"0400-02-29", 145790, 2, true},
		{"0400-12-31", 146096, 7, true},
		{"0401-01-01", 146097, 1, false},
		{"1900-02-28", 693653, 3, true},
		{"2000-02-29", 730178, 2, true},
		{"8214-08-31", 2999978, 3, true},
		{"8214-09-21", 2999999, 3, false},
		{"8214-09-22", 3000000, 4, false},
	} {
		d, ok := impl.ReadDate(r.text)
		if !ok || impl.DayOf(d) != r.day || impl.WeekdayOf(r.day) != r.weekday || impl.MonthEnd(r.day) != r.end {
			t.Error(r, d, ok, impl.DayOf(d), impl.WeekdayOf(r.day), impl.MonthEnd(r.day))
		}
	}
}

func TestDaysOutOfRange(t *testing.T) {
	for _, day := range []int64{-1, impl.MaxDay + 1, -7, math.MinInt64, math.MaxInt64} {
		d, ok := impl.DateOf(day)
		if ok || d != (impl.Date{}) || impl.WeekdayOf(day) != -1 || impl.MonthEnd(day) {
			t.Error(day, d, ok, impl.WeekdayOf(day), impl.MonthEnd(day))
		}
	}
	for _, r := range [][3]int64{{8214, 9, 23}, {8215, 1, 1}, {9999, 12, 31}} {
		d := date(r)
		if !impl.DateOk(d) || impl.DayOf(d) != -1 || impl.DateText(d) == "" {
			t.Error(d, impl.DayOf(d), impl.DateText(d))
		}
	}
}

func TestWrongDates(t *testing.T) {
	for _, r := range [][3]int64{
		{}, {0, 1, 1}, {-4, 2, 29}, {10000, 1, 1}, {math.MaxInt64, 1, 1}, {math.MinInt64, 12, 31},
		{2026, 0, 1}, {2026, 13, 1}, {2026, -1, 1}, {2026, math.MinInt64, 1}, {2026, math.MaxInt64, 1},
		{2026, 1, 0}, {2026, 1, -1}, {2026, 1, 32}, {2026, 4, 31}, {2026, 12, 32}, {2026, 1, math.MaxInt64},
		{2026, 2, 29}, {2024, 2, 30}, {1900, 2, 29}, {100, 2, 29}, {9900, 2, 29}, {2000, 2, 30},
	} {
		d := date(r)
		if impl.DateOk(d) || impl.DayOf(d) != -1 || impl.DateText(d) != "" {
			t.Error(d, impl.DayOf(d), impl.DateText(d))
		}
	}
	for _, r := range [][3]int64{{1, 1, 1}, {9999, 12, 31}, {2024, 2, 29}, {2000, 2, 29}, {400, 2, 29}, {4, 2, 29}, {2026, 6, 30}} {
		if !impl.DateOk(date(r)) {
			t.Error(r)
		}
	}
}

func TestWrongDateTexts(t *testing.T) {
	for _, s := range []string{
		"", "-", "2026", "2026-11", "2026-11-1", "2026-1-011", "02026-11-16", "2026-11-016", "226-11-16",
		"2026-11-16 ", " 2026-11-16", "2026-11-16\n", "2026-11-16-", "2026 11 16", "2026:11-16", "2026-11:16",
		"+026-11-16", "-026-11-16", "2026-+1-16", "2026--1-16", "2026-11-+6", "2026-11--6", "2026-11-1x",
		"2o26-11-16", "2026-1_-16", "20 6-11-16", "２26-11-16", "2026-11-1\x00", "\xff026-11-16", "2026-11-1:", "2026-11-1/",
		"0000-01-01", "0000-00-00", "2026-00-16", "2026-13-16", "2026-11-00", "2026-11-31", "2026-02-29", "1900-02-29", "10000-01-01",
	} {
		if d, ok := impl.ReadDate(s); ok || d != (impl.Date{}) {
			t.Errorf("%q: %v %v", s, d, ok)
		}
	}
}

// Promise 1: told times YearPart and what is left are all that was earned.
func TestInterestToTheLastPart(t *testing.T) {
	balances := []int64{-impl.MaxMoney, 1 - impl.MaxMoney, -impl.YearPart - 1, -impl.YearPart, 1 - impl.YearPart, -10000, -365, -1, 0, 1, 365, 10000, impl.YearPart - 1, impl.YearPart, impl.MaxMoney - 1, impl.MaxMoney}
	rates := []int64{0, 1, 2, 364, 365, 366, impl.MaxRate - 1, impl.MaxRate}
	carries := []int64{0, 1, 5, impl.YearPart / 2, impl.YearPart - 2, impl.YearPart - 1}
	part := big.NewInt(impl.YearPart)
	for _, b := range balances {
		for _, r := range rates {
			for _, c := range carries {
				earned := new(big.Int).Mul(big.NewInt(b), big.NewInt(r))
				earned.Add(earned, big.NewInt(c))
				told, left := new(big.Int).DivMod(earned, part, new(big.Int))
				n, l, ok := impl.Accrued(b, r, c)
				if !ok || n != told.Int64() || l != left.Int64() {
					t.Errorf("%d %d %d: %d %d %v, want %v %v", b, r, c, n, l, ok, told, left)
				}
			}
		}
	}
}

// Promise 1: over many days nothing of what was earned is lost or added.
func TestCarriedInterestAddsUp(t *testing.T) {
	for _, balance := range []int64{-999999999989, -3, 7, 123456789} {
		for _, rate := range []int64{1, 333, impl.MaxRate} {
			told, carry := int64(0), int64(0)
			const days = 500
			for range days {
				n, c, ok := impl.Accrued(balance, rate, carry)
				if !ok || c < 0 || c >= impl.YearPart {
					t.Fatal(balance, rate, carry, n, c, ok)
				}
				told, carry = told+n, c
			}
			if told*impl.YearPart+carry != days*balance*rate {
				t.Error(balance, rate, told, carry)
			}
		}
	}
}

func TestInterestRefused(t *testing.T) {
	for _, r := range [][3]int64{
		{impl.MaxMoney + 1, 1, 0}, {-impl.MaxMoney - 1, 1, 0}, {math.MaxInt64, 1, 0}, {math.MinInt64, 1, 0},
		{5, -1, 0}, {5, impl.MaxRate + 1, 0}, {5, math.MaxInt64, 0}, {5, math.MinInt64, 0},
		{5, 1, -1}, {5, 1, impl.YearPart}, {5, 1, math.MaxInt64}, {5, 1, math.MinInt64},
		{math.MaxInt64, math.MaxInt64, math.MaxInt64}, {0, -1, 0}, {0, 0, impl.YearPart},
	} {
		if n, c, ok := impl.Accrued(r[0], r[1], r[2]); ok || n != 0 || c != 0 {
			t.Error(r, n, c, ok)
		}
	}
}
