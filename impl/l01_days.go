package impl

import "strconv"

const (
	MaxDay   = 3000000
	MaxMoney = 1000000000000
	MaxRate  = 10000
	YearPart = 3650000
)

const (
	maxYear     = 9999
	yearDays    = 365
	fourDays    = 4*yearDays + 1
	centuryDays = 25*fourDays - 1
	cycleDays   = 4*centuryDays + 1
)

type Date struct {
	Year  int64
	Month int64
	Day   int64
}

// The lengths of a common year; monthLength adds the leap day.
var monthLengths = [12]int64{31, 28, 31, 30, 31, 30, 31, 31, 30, 31, 30, 31}

func isLeap(year int64) bool {
	return year%4 == 0 && (year%100 != 0 || year%400 == 0)
}

func monthLength(year int64, month int64) int64 {
	if month == 2 && isLeap(year) {
		return monthLengths[1] + 1
	}
	return monthLengths[month-1]
}

func DateOk(d Date) bool {
	if d.Year < 1 || d.Year > maxYear || d.Month < 1 || d.Month > 12 {
		return false
	}
	return d.Day >= 1 && d.Day <= monthLength(d.Year, d.Month)
}

func dayOk(day int64) bool {
	return day >= 0 && day <= MaxDay
}

func daysAheadOf(year int64) int64 {
	past := year - 1
	return past*yearDays + past/4 - past/100 + past/400
}

func DayOf(d Date) int64 {
	if !DateOk(d) {
		return -1
	}
	day := daysAheadOf(d.Year) + d.Day - 1
	for month := int64(1); month < d.Month; month++ {
		day += monthLength(d.Year, month)
	}
	if day > MaxDay {
		return -1
	}
	return day
}

// yearAt tells the year of a day, and how many days of that year are past.
func yearAt(day int64) (int64, int64) {
	cycles := day / cycleDays
	day %= cycleDays
	// The last century of a cycle and the last year of four have a day more
	// than the others, which must not count as the start of a fifth.
	centuries := min(day/centuryDays, 3)
	day -= centuries * centuryDays
	fours := day / fourDays
	day %= fourDays
	years := min(day/yearDays, 3)
	day -= years * yearDays
	return cycles*400 + centuries*100 + fours*4 + years + 1, day
}

func DateOf(day int64) (Date, bool) {
	if !dayOk(day) {
		return Date{}, false
	}
	year, left := yearAt(day)
	month := int64(1)
	for left >= monthLength(year, month) {
		left -= monthLength(year, month)
		month++
	}
	return Date{Year: year, Month: month, Day: left + 1}, true
}

func WeekdayOf(day int64) int64 {
	if !dayOk(day) {
		return -1
	}
	return day%7 + 1
}

func MonthEnd(day int64) bool {
	d, ok := DateOf(day)
	return ok && d.Day == monthLength(d.Year, d.Month)
}

func padded(n int64, width int) string {
	s := strconv.FormatInt(n, 10)
	for len(s) < width {
		s = "0" + s
	}
	return s
}

func DateText(d Date) string {
	if !DateOk(d) {
		return ""
	}
	return padded(d.Year, 4) + "-" + padded(d.Month, 2) + "-" + padded(d.Day, 2)
}

// digitsValue is -1 where a byte is no digit; it is no strconv.ParseInt, since
// that takes a sign as well.
func digitsValue(s string) int64 {
	n := int64(0)
	for i := 0; i < len(s); i++ {
		if s[i] < '0' || s[i] > '9' {
			return -1
		}
		n = n*10 + int64(s[i]-'0')
	}
	return n
}

func ReadDate(s string) (Date, bool) {
	if len(s) != len("0001-01-01") || s[4] != '-' || s[7] != '-' {
		return Date{}, false
	}
	d := Date{Year: digitsValue(s[:4]), Month: digitsValue(s[5:7]), Day: digitsValue(s[8:])}
	if !DateOk(d) {
		return Date{}, false
	}
	return d, true
}

func Accrued(balance int64, rate int64, carry int64) (int64, int64, bool) {
	if balance < -MaxMoney || balance > MaxMoney || rate < 0 || rate > MaxRate || carry < 0 || carry >= YearPart {
		return 0, 0, false
	}
	earned := balance*rate + carry
	told, left := earned/YearPart, earned%YearPart
	// Go's division goes towards 0; below it the greatest whole number not
	// above is one less.
	if left < 0 {
		told--
		left += YearPart
	}
	return told, left, true
}
