package tests

import (
	"fmt"
	"slices"
	"strings"
	"testing"
	"time"

	"loop.example/g00362/impl"
)

// talk runs a script of lines, each with what it says behind ": "; a line
// without that says nothing. It asks so of each beginning of the script, since
// what was said stays said (promise 9).
func talk(t *testing.T, lines ...string) {
	t.Helper()
	script, want := "", ""
	for _, l := range lines {
		line, answer, says := strings.Cut(l, ": ")
		script += line + "\n"
		if says {
			want += answer + "\n"
		}
		if got := impl.RunScript(script); got != want {
			t.Errorf("%q says %q, want %q", script, got, want)
			return
		}
	}
}

func saysAll(t *testing.T, script, want string) {
	t.Helper()
	if got := impl.RunScript(script); got != want {
		t.Errorf("%.80q of %d bytes says %q, want %q", script, len(script), got, want)
	}
}

// baffles asks for "what", on a disk with a bank and on an empty one, and
// that nothing is done, logged or synced.
func baffles(t *testing.T, line string) {
	t.Helper()
	talk(t, line+": what", "today: no bank", "new 5: ok", "open 1 0 50 0: ok", line+": what",
		"today: today 0001-01-06 6 0 0 0 0 1", "sum 1: sum 0 50", "crash 0 0: ok", "today: today 0001-01-06 6 0 0 0 0 0", "save 3: no 5", "save 4: ok")
}

func TestScriptsOfNothing(t *testing.T) {
	for _, s := range []string{"", "\n", " \n", "       \n", "\n\n\n", "\n  \n \n", strings.Repeat("\n", 40), strings.Repeat("   \n", 40)} {
		saysAll(t, s, "")
	}
	talk(t, "", "today: no bank", " ", "   ", "new 5: ok", strings.Repeat(" ", 500), "today: today 0001-01-06 6 0 0 0 0 0", "")
}

func TestLinesOfAScript(t *testing.T) {
	if impl.MaxScript != 40 {
		t.Fatal(impl.MaxScript)
	}
	many := func(n int, line string) string { return strings.Repeat(line, n) }
	const tooLong = "too long\n"
	saysAll(t, many(39, "today\n"), many(39, "no bank\n"))
	saysAll(t, many(40, "today\n"), many(40, "no bank\n"))
	saysAll(t, many(41, "today\n"), tooLong)
	saysAll(t, many(80, "today\n"), tooLong)
	// Lines of blanks are lines, wherever they stand.
	for _, blank := range []string{"\n", " \n", "   \n"} {
		saysAll(t, many(40, blank), "")
		saysAll(t, many(41, blank), tooLong)
		saysAll(t, many(39, "today\n")+blank, many(39, "no bank\n"))
		saysAll(t, many(40, "today\n")+blank, tooLong)
		saysAll(t, blank+many(39, "today\n"), many(39, "no bank\n"))
		saysAll(t, blank+many(40, "today\n"), tooLong)
		saysAll(t, many(20, "x\n")+blank+many(19, "x\n"), many(39, "what\n"))
		saysAll(t, many(20, "x\n")+blank+many(20, "x\n"), tooLong)
		saysAll(t, many(20, blank+"today\n"), many(20, "no bank\n"))
		saysAll(t, many(20, blank+"today\n")+blank, tooLong)
	}
}

func TestBytesOfAScript(t *testing.T) {
	if impl.MaxLines != 4000 {
		t.Fatal(impl.MaxLines)
	}
	const tooLong = "too long\n"
	for _, c := range []struct{ filler, says string }{{" ", ""}, {"x", "what\n"}, {"\x00", "what\n"}, {"\xff", "what\n"}} {
		saysAll(t, strings.Repeat(c.filler, 3998)+"\n", c.says)
		saysAll(t, strings.Repeat(c.filler, 3999)+"\n", c.says)
		saysAll(t, strings.Repeat(c.filler, 4000)+"\n", tooLong)
		saysAll(t, strings.Repeat(c.filler, 100000)+"\n", tooLong)
		saysAll(t, "today\n"+strings.Repeat(c.filler, 3993)+"\n", "no bank\n"+c.says)
		saysAll(t, "today\n"+strings.Repeat(c.filler, 3994)+"\n", tooLong)
		saysAll(t, strings.Repeat(c.filler, 3993)+"\ntoday\n", c.says+"no bank\n")
		saysAll(t, strings.Repeat(c.filler, 3994)+"\ntoday\n", tooLong)
	}
	line := strings.Repeat("x", 99) + "\n"
	saysAll(t, strings.Repeat(line, 40), strings.Repeat("what\n", 40))
	saysAll(t, "x"+strings.Repeat(line, 40), tooLong)
	// Bytes count, not letters: each of these has two.
	saysAll(t, strings.Repeat("é", 1999)+"x\n", "what\n")
	saysAll(t, strings.Repeat("é", 2000)+"\n", tooLong)
	saysAll(t, "new"+strings.Repeat(" 1", 1998)+"\n", "what\n")
}

func TestLastLinesThatAreNotEnded(t *testing.T) {
	for _, s := range []string{
		"today", " ", "   ", "x", "\x00", "\r", "\n ", "\ntoday", "new 5\ntoday", "new 5\n\n ", "new 5\nsave\nopen", "new 5\ntoday\r",
		strings.Repeat("x", 4000), strings.Repeat(" ", 4000), strings.Repeat("today\n", 39) + "today", strings.Repeat("today\n", 40) + "today", strings.Repeat("today\n", 40) + " ", strings.Repeat("\n", 40) + "x",
	} {
		saysAll(t, s, "too long\n")
	}
}

func TestBlanksOutOfPlace(t *testing.T) {
	for _, line := range []string{
		"new 6", "save", "save 4", "open", "open 4", "crash 0 0", "show 1", "sum 1", "today", "day", "open 2 1 -1 0", "put 1 5", "order 7 1 2 3 6 1 2",
		"sync day", "sync put 1 5", "sync open 2 1 -1 0",
	} {
		baffles(t, " "+line)
		baffles(t, "  "+line)
		baffles(t, line+" ")
		baffles(t, line+"  ")
		for i := range len(line) {
			if line[i] == ' ' {
				baffles(t, line[:i]+" "+line[i:])
				baffles(t, line[:i]+"\t"+line[i+1:])
				baffles(t, line[:i]+line[i+1:])
			}
		}
	}
	for _, line := range []string{"\t", " \t", "\r", "\x00", "\v", "\f", "\u00a0", "\u2003", " \u00a0 "} {
		baffles(t, line)
	}
}

func TestNumbersOfLines(t *testing.T) {
	for _, line := range []string{"new 6", "save 4", "open 4", "crash 0 0", "crash 1 2", "show 1", "show 0", "sum 1"} {
		words := strings.Split(line, " ")
		for i := 1; i < len(words); i++ {
			bad := append(badNumbers(words[i]), "-1", "-"+words[i], "-9999999999999999", "10000000000000000", "N", "D", "-9223372036854775808")
			for _, number := range bad {
				other := slices.Clone(words)
				other[i] = number
				baffles(t, strings.Join(other, " "))
			}
		}
	}
	// Sixteen digits are not too many, whatever comes of them.
	const most = "9999999999999999"
	talk(t, "new "+most+": no 3", "show "+most+": no bank", "sum "+most+": no bank", "crash "+most+" "+most+": no 7", "new 5: ok", "new "+most+": no 3", "day: ok", "save "+most+": ok", "open "+most+": ok",
		"day: ok", "crash "+most+" "+most+": ok", "today: today 0001-01-08 1 0 0 0 0 2", "show "+most+": no", "sum "+most+": no", "put 1 "+most+": what", "open "+most+" 0 5 0: what")
}

func TestLinesOfTooFewAndTooManyWords(t *testing.T) {
	for _, line := range []string{
		"new", "new 6 6", "new 6 6 6", "save 1 1", "save 1 2 3", "open 1 1", "open 1 0 5", "open 1 0 5 0 0", "open 2 1 -1", "open 2 1 -1 0 0", "crash", "crash 0", "crash 0 0 0", "crash 1 2 3 4", "show", "show 1 1", "sum", "sum 1 1", "today 1", "today today",
		"day 1", "cancel", "cancel 7 7", "order", "order 7 1 2 3 6 1", "order 7 1 2 3 6 1 2 2", "freeze", "freeze 1 1", "thaw", "thaw 1 1", "close", "close 1 1", "put", "put 1", "put 1 5 5", "take", "take 1", "take 1 5 5",
		"pay", "pay 1", "pay 1 2", "pay 1 2 5 5", "limit", "limit 1", "limit 1 5 5", "hang", "hang 1", "hang 2 1 1", "target", "target 1", "target 1 5 5",
		"sync", "sync ", "sync 1", "sync day 1", "sync day day", "sync put 1", "sync put 1 5 5", "sync order 7 1 2 3 6 1", "sync cancel",
	} {
		baffles(t, line)
	}
}

func TestWordsThatAreNone(t *testing.T) {
	for _, line := range []string{
		"x", "fly", "fly 1", "New 6", "NEW 6", "news 6", "ne 6", "n", "N", "5", "5 5", "-1", "new6", "today.", "to day", "toda", "Today", "TODAY", "days", "ok", "no", "no bank", "not 6", "what", "too long", "#", "show one", "sum x",
		"new N", "new D", "save N", "open N", "crash N N", "crash K T", "show N", "show I", "sum N", "sync N", " N", "bank 5 0 0 0 0", "account 1 0 50 0 -1 0 0 0", "op", "log", "view", "power 5", "replace", "append log x", "close", "quit", "help",
		"sync sync day", "sync  day", "syncday", "sync new 6", "sync save", "sync save 1", "sync open", "sync open 1", "sync crash 0 0", "sync show 1", "sync sum 1", "sync today", "day sync", "Sync day",
		"today\r", "\ttoday", "today\t", "day\x00", "\x00day", "\xff\xfe", "\xef\xbb\xbftoday", "\u0442oday", "put 1 5\r", "new 6\x00", "show 1\v",
		// Each has the words of an op, which is not right.
		"open 0 0 5 0", "open 1 1 5 0", "open 2 0 -1 0", "open 2 1 5 9", "open 2 1 -2 0", "put 1 0", "put 0 1", "put 1 -1", "take 1 0", "take 1 1000000000001", "pay 1 1 5", "pay 1 0 5", "hang 1 1", "hang 1 0", "limit 1 -2", "target 1 -2", "freeze 0", "thaw 1000001", "close -1",
		"order 0 1 2 3 6 1 2", "order 7 1 1 3 6 1 2", "order 7 1 2 0 6 1 2", "order 7 1 2 3 -1 1 2", "order 7 1 2 3 6 0 2", "order 7 1 2 3 6 1 0", "cancel 0",
	} {
		baffles(t, line)
		baffles(t, "sync "+line)
	}
}

func TestNewLines(t *testing.T) {
	for _, c := range []struct{ day, today string }{{"0", "0001-01-01 1"}, {"1", "0001-01-02 2"}, {"739934", "2026-11-15 7"}, {"2999999", "8214-09-21 3"}, {"3000000", "8214-09-22 4"}} {
		today := "today: today " + c.today + " 0 0 0 0 0"
		// With a base there it is refused, whatever the day is.
		talk(t, "new "+c.day+": ok", today, "new "+c.day+": no 3", "new 8: no 3", "new 3000001: no 3", "new -1: what", today, "crash 0 0: ok", today, "new 0: no 3", today)
	}
	talk(t, "new -1: what", "new 3000001: no 3", "today: no bank", "new 9999999999999999: no 3", "new -3000000: what", "show 1: no bank", "new 3000000: ok", "day: not 7", "sync day: not 7", "today: today 8214-09-22 4 0 0 0 0 0")
}

// opsOfAllKinds can be logged one behind the other on a new bank of day 5; the
// numbers of each are not alike, where they can be told apart.
func opsOfAllKinds() []string {
	return []string{
		"open 1 0 50 365", "open 2 1 -1 0", "open 3 1 7 0", "put 1 90", "take 2 60", "pay 1 3 25", "limit 2 80", "hang 3 2", "target 3 20", "freeze 1", "thaw 1", "order 7 1 2 3 6 1 2", "cancel 7", "day", "take 3 20", "close 3",
	}
}

func TestOpsAreLogged(t *testing.T) {
	ops := opsOfAllKinds()
	for i, op := range ops {
		var lines []string
		for _, o := range append([]string{"new 5"}, ops[:i]...) {
			lines = append(lines, o+": ok")
		}
		begun := func(more ...string) []string { return append(slices.Clone(lines), more...) }
		today := func(script []string, n int) {
			t.Helper()
			talk(t, append(script, "today: "+todayOf(after(t, impl.Bank{Day: 5}, ops[:n]...), int64(n)))...)
		}
		today(begun(op+": ok"), i+1)
		today(begun("sync "+op+": ok"), i+1)
		// What was not synced goes with the power, and a sync is one of all ahead of it.
		today(begun(op+": ok", "crash 0 0: ok"), 0)
		today(begun("sync "+op+": ok", "crash 0 0: ok"), i+1)
		today(begun(op+": ok", "save: ok", "crash 0 0: ok"), i+1)
	}
}

func TestRefusedOps(t *testing.T) {
	refused := func(op string, code int) []string {
		return []string{fmt.Sprintf("%s: not %d", op, code), fmt.Sprintf("sync %s: not %d", op, code), "today: today 0001-01-06 6 100 0 0 0 7"}
	}
	begun := []string{"new 5: ok", "open 1 0 50 0: ok", "open 2 1 -1 0: ok", "open 3 0 0 0: ok", "put 1 100: ok", "sync freeze 3: ok", "open 4 2 5 0: ok", "order 7 1 2 3 9 1 2: ok"}
	for _, c := range []struct {
		op   string
		code int
	}{
		{"put 9 1", impl.TrNone}, {"open 9 8 5 0", impl.TrNone}, {"pay 1 9 5", impl.TrNone}, {"hang 2 9", impl.TrNone}, {"cancel 8", impl.TrNone}, {"freeze 9", impl.TrNone}, {"thaw 9", impl.TrNone}, {"close 9", impl.TrNone},
		{"open 1 0 50 0", impl.TrThere}, {"open 2 1 -1 0", impl.TrThere}, {"order 7 1 3 4 8 2 3", impl.TrThere},
		{"thaw 1", impl.TrFrozen}, {"freeze 3", impl.TrFrozen}, {"put 3 1", impl.TrFrozen}, {"take 3 1", impl.TrFrozen}, {"pay 1 3 1", impl.TrFrozen}, {"close 3", impl.TrFrozen},
		{"take 1 151", impl.TrShort}, {"take 2 151", impl.TrShort}, {"take 4 6", impl.TrShort}, {"pay 4 2 6", impl.TrShort},
		{"put 1 1000000000000", impl.TrFull}, {"put 1 999999999901", impl.TrFull},
		{"close 1", impl.TrBusy}, {"close 2", impl.TrBusy}, {"limit 1 -1", impl.TrBusy}, {"target 1 5", impl.TrBusy}, {"hang 1 2", impl.TrBusy}, {"hang 2 4", impl.TrBusy},
	} {
		talk(t, append(slices.Clone(begun), refused(c.op, c.code)...)...)
		// A refused op with sync ahead of it syncs nothing: the five ops up to the freeze are safe, the two behind it are not.
		talk(t, append(append(slices.Clone(begun), refused(c.op, c.code)...), "crash 0 0: ok", "today: today 0001-01-06 6 100 0 0 0 5", "show 4: no", "put 1 1: ok")...)
	}
}

func TestActsWhereThereIsNoBank(t *testing.T) {
	for _, act := range append(opsOfAllKinds(), "save", "save 0", "save 1", "save 9", "open", "open 0", "open 1", "open 9", "crash 0 0", "crash 5 5") {
		talk(t, act+": no 7", "today: no bank", act+": no 7", "new 5: ok", "today: today 0001-01-06 6 0 0 0 0 0")
	}
	for _, op := range opsOfAllKinds() {
		talk(t, "sync "+op+": no 7", "new 5: ok", "today: today 0001-01-06 6 0 0 0 0 0")
	}
}

func TestOpenIsAnOpAndAnAct(t *testing.T) {
	const today1 = "today: today 0001-01-06 6 0 0 0 0 1"
	talk(t, "open: no 7", "open 1: no 7", "open 1 0 5 0: no 7", "sync open 1 0 5 0: no 7", "new 5: ok",
		"open: ok", "open 0: ok", "open 1: ok", "show 1: no", "open 1 0 5 0: ok", today1, "show 1: show 0 0 5 0", "open 1 0 5 0: not 4",
		"open: ok", "open 0: ok", "open 1: ok", "open 2: ok", today1, "open 1 0: what", "open 1 0 5: what", "open 1 0 5 0 0: what", "sync open: what", "sync open 1: what", "sync open 2 1 -1 0: ok", "today: today 0001-01-06 6 0 0 0 0 2", "open 2 1 0 0: not 4",
		"open 3 0 5 -1: what", "open 3 1 5 1: what", "open 3 3 5 0: what", "open 0 0 0 0: what", "open 5 0 0 0: ok", "show 5: show 0 0 0 0")
}

// savesIn asks for the number of steps that a save makes behind these lines.
func savesIn(t *testing.T, steps int, lines ...string) {
	t.Helper()
	behind := func(more ...string) { t.Helper(); talk(t, append(slices.Clone(lines), more...)...) }
	for n := range steps {
		behind(fmt.Sprintf("save %d: no 5", n))
	}
	for n := steps; n < steps+3; n++ {
		behind(fmt.Sprintf("save %d: ok", n), "save 3: no 5", "save 4: ok")
		// The log was good ahead of the save, so that an open makes no steps.
		behind(fmt.Sprintf("open %d: ok", n), "open 0: ok", "open 1: ok", "open: ok", fmt.Sprintf("save %d: ok", steps), "save 3: no 5")
	}
	behind("save: ok", "save 3: no 5", "save 4: ok")
	behind("save: ok", "save 4: ok")
}

func TestSavesWithPowerForEachStep(t *testing.T) {
	savesIn(t, 4, "new 5: ok")
	savesIn(t, 4, "new 5: ok", "save 0: no 5")
	savesIn(t, 4, "new 5: ok", "save 1: no 5")
	savesIn(t, 6, "new 5: ok", "save 2: no 5")
	savesIn(t, 4, "new 5: ok", "save 3: no 5")
	savesIn(t, 6, "new 5: ok", "day: ok")
	savesIn(t, 6, "new 5: ok", "sync day: ok")
	savesIn(t, 6, "new 5: ok", "day: ok", "save 1: no 5")
	savesIn(t, 8, "new 5: ok", "day: ok", "save 2: no 5")
	savesIn(t, 6, "new 5: ok", "day: ok", "save 3: no 5")
	savesIn(t, 6, "new 5: ok", "day: ok", "save 4: no 5")
	savesIn(t, 4, "new 5: ok", "day: ok", "save 5: no 5")
	savesIn(t, 4, "new 5: ok", "day: ok", "save 6: ok")
	savesIn(t, 4, "new 5: ok", "day: ok", "save: ok")
	savesIn(t, 6, "new 5: ok", "day: ok", "save 2: no 5", "save 3: no 5")
	savesIn(t, 8, "new 5: ok", "day: ok", "save 2: no 5", "save 4: no 5")
	// What the power takes of a save that was not done.
	savesIn(t, 6, "new 5: ok", "sync day: ok", "save 2: no 5", "crash 0 0: ok")
	savesIn(t, 8, "new 5: ok", "sync day: ok", "save 2: no 5", "crash 1 0: ok")
	savesIn(t, 8, "new 5: ok", "sync day: ok", "save 2: no 5", "crash 1 7: ok")
	savesIn(t, 8, "new 5: ok", "sync day: ok", "save 3: no 5", "crash 1 99: ok")
	savesIn(t, 6, "new 5: ok", "sync day: ok", "save 3: no 5", "crash 2 0: ok")
	savesIn(t, 6, "new 5: ok", "sync day: ok", "save 5: no 5", "crash 0 0: ok")
	savesIn(t, 4, "new 5: ok", "sync day: ok", "save 5: no 5", "crash 1 0: ok")
}

// A save that was begun has synced what was logged, and changes nothing of the bank.
func TestSavesThatAreNotDone(t *testing.T) {
	for n := range 8 {
		says := "no 5"
		if n > 5 {
			says = "ok"
		}
		for keep := range 4 {
			for _, torn := range []int{0, 1, 8, 22, 23, 99} {
				number := min(1, n)
				if n == 0 && keep > 0 && torn >= len(entry(1, "open 1 0 50 0")) {
					number = 1
				}
				talk(t, "new 5: ok", "open 1 0 50 0: ok", fmt.Sprintf("save %d: %s", n, says), "today: today 0001-01-06 6 0 0 0 0 1", "show 1: show 0 0 50 0",
					fmt.Sprintf("crash %d %d: ok", keep, torn), fmt.Sprintf("today: today 0001-01-06 6 0 0 0 0 %d", number), "open: ok", "save: ok", fmt.Sprintf("today: today 0001-01-06 6 0 0 0 0 %d", number))
			}
		}
	}
}

func TestCrashLines(t *testing.T) {
	ops := []string{"open 1 0 50 0", "put 1 7", "put 1 1000", "freeze 1"}
	today := []string{"0 0 0 0 0", "0 0 0 0 1", "7 0 0 0 2", "1007 0 0 0 3", "1007 0 0 0 4"}
	for keep := range len(ops) + 3 {
		kept := min(keep, len(ops))
		size := 0
		if kept > 0 {
			size = len(entry(int64(kept), ops[kept-1]))
		}
		for _, torn := range []int{0, 1, 7, 8, size - 1, size, size + 1, 1000} {
			if torn < 0 {
				continue
			}
			left, steps := kept, 6
			if kept > 0 && torn < size {
				left--
			}
			// Where no log was kept there is none; where it was torn the crash has saved.
			if kept == 0 || torn > 0 && torn < size {
				steps = 4
			}
			seen := "today: today 0001-01-06 6 " + today[left]
			lines := []string{"new 5: ok"}
			for _, o := range ops {
				lines = append(lines, o+": ok")
			}
			lines = append(lines, fmt.Sprintf("crash %d %d: ok", keep, torn), seen)
			// The disk that is left has no Ops to lose.
			talk(t, append(slices.Clone(lines), "crash 0 0: ok", seen, "crash 9 9: ok", seen)...)
			talk(t, append(slices.Clone(lines), fmt.Sprintf("save %d: no 5", steps-1), seen)...)
			talk(t, append(slices.Clone(lines), fmt.Sprintf("save %d: ok", steps), seen, "day: ok", "crash 1 9999: ok", fmt.Sprintf("today: today 0001-01-07 7 %s%d", today[left][:len(today[left])-1], left+1))...)
		}
	}
	// A sync on the way: the Ops are those behind it.
	talk(t, "new 5: ok", "open 1 0 50 0: ok", "sync put 1 1: ok", "put 1 2: ok", "put 1 4: ok", "crash 1 99: ok", "show 1: show 0 3 50 0", "put 1 8: ok", "crash 1 16: ok", "show 1: show 0 3 50 0", "put 1 8: ok", "crash 1 17: ok", "show 1: show 0 11 50 0")
	talk(t, "crash 0 0: no 7", "crash 1 1: no 7", "new 5: ok", "crash 0 0: ok", "crash 7 7: ok", "today: today 0001-01-06 6 0 0 0 0 0")
}

func TestShowAndSum(t *testing.T) {
	talk(t, "new 5: ok", "open 1 0 50 0: ok", "open 20 1 -1 0: ok", "open 300 20 8 0: ok", "open 4 0 1000000000000 0: ok",
		"show 1: show 0 0 50 0", "sum 1: sum 0 50", "show 20: show 1 0 -1 0", "sum 20: sum 0 50", "show 300: show 20 0 8 0", "sum 300: sum 0 8", "sum 4: sum 0 1000000000000",
		"put 1 7: ok", "take 20 41: ok", "put 300 3: ok", "freeze 20: ok",
		"show 1: show 0 7 50 0", "sum 1: sum -31 19", "show 20: show 1 -41 -1 1", "sum 20: sum -38 19", "show 300: show 20 3 8 0", "sum 300: sum 3 11",
		"show 0: no", "sum 0: no", "show 2: no", "sum 2: no", "show 5: no", "sum 1000000: no", "show 1000000: no", "show 1000001: no", "sum 1000001: no", "show 20 1: what",
		"put 4 1000000000000: ok", "show 4: show 0 1000000000000 1000000000000 0", "sum 4: sum 1000000000000 2000000000000", "thaw 20: ok", "freeze 4: ok", "show 20: show 1 -41 -1 0")
	talk(t, "new 5: ok", "open 9 0 1000000000000 0: ok", "take 9 1000000000000: ok", "show 9: show 0 -1000000000000 1000000000000 0", "sum 9: sum -1000000000000 0", "limit 9 3: ok", "show 9: show 0 -1000000000000 3 0", "sum 9: sum -1000000000000 -999999999997",
		"limit 9 0: ok", "freeze 9: ok", "show 9: show 0 -1000000000000 0 1", "sum 9: sum -1000000000000 -1000000000000", "put 9 1: not 5", "today: today 0001-01-06 6 0 1000000000000 0 0 5")
	// The account goes, and the one that is logged but not safe.
	talk(t, "new 5: ok", "open 1 0 50 0: ok", "show 1: show 0 0 50 0", "close 1: ok", "show 1: no", "sum 1: no", "crash 1 99: ok", "show 1: show 0 0 50 0", "crash 1 99: ok", "sum 1: sum 0 50")
}

func dateAndWeekday(day int64) string {
	date := time.Date(1, 1, 1+int(day), 0, 0, 0, 0, time.UTC)
	return fmt.Sprintf("%s %d", date.Format("2006-01-02"), (date.Weekday()+6)%7+1)
}

func TestToday(t *testing.T) {
	days := []int64{0, 30, 31, 58, 59, 89, 90, 120, 151, 181, 212, 243, 273, 304, 334, 364, 365, 1153, 1154, 1155, 36524, 146096, 146097, 693594, 693654, 730178, 730179, 739934, 739935, 739936, 739937, 739938, 739939, 739940, impl.MaxDay - 1}
	dated := func(day int64, rest string) string { return "today: today " + dateAndWeekday(day) + " " + rest }
	for _, day := range days {
		talk(t, fmt.Sprintf("new %d: ok", day), dated(day, "0 0 0 0 0"), "day: ok", dated(day+1, "0 0 0 0 1"))
	}
	talk(t, "new 739934: ok", "today: today 2026-11-15 7 0 0 0 0 0", "day: ok", "today: today 2026-11-16 1 0 0 0 0 1")
	// What came in, went out, was posted and was missed.
	talk(t, "new 58: ok", "open 1 0 50 10000: ok", "put 1 3660: ok", "take 1 10: ok", dated(58, "3660 10 0 0 3"), "order 3 1 2 5 58 1 3: ok", "day: ok", dated(59, "3660 10 10 1 5"), "day: ok", dated(60, "3660 10 20 2 6"), "day: ok", dated(61, "3660 10 30 3 7"), "day: ok", dated(62, "3660 10 40 3 8"))
	talk(t, "new 58: ok", "open 1 0 4000 10000: ok", "take 1 3650: ok", "day: ok", dated(59, "0 3650 -10 0 3"), "show 1: show 0 -3660 4000 0")
}

func TestQuestionsWhereThereIsNoBank(t *testing.T) {
	none := []string{"show 1: no bank", "sum 1: no bank", "today: no bank", "show 0: no bank", "sum 0: no bank", "show: what", "sum: what", "today 1: what", "show x: what"}
	talk(t, none...)
	for _, line := range []string{"crash 0 0: no 7", "crash 9 9: no 7", "open: no 7", "save: no 7", "day: no 7", "sync day: no 7", "new 3000001: no 3", "new: what"} {
		talk(t, append([]string{line}, none...)...)
	}
	// A base that is there is safe: no crash of a script takes it.
	for keep := range 3 {
		for torn := range 40 {
			for _, ahead := range []string{"save 0: no 5", "save 2: no 5", "save 3: no 5", "save: ok", "day: ok", "sync day: ok"} {
				talk(t, "new 5: ok", ahead, fmt.Sprintf("crash %d %d: ok", keep, torn), "show 1: no", "sum 1: no", "new 5: no 3", "open: ok", "save: ok")
			}
		}
	}
}
