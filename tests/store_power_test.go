package tests

import (
	"fmt"
	"maps"
	"math/rand"
	"slices"
	"strings"
	"testing"

	"loop.example/g00362/impl"
)

func fileOf(d impl.Disk, name string) string {
	return byName(d.Live)[name]
}

// numberAhead takes data apart into a number that a store may have and what is behind it.
func numberAhead(data string) (int64, string, bool) {
	word, text, _ := strings.Cut(data, "\n")
	for n := range int64(60) {
		if word == fmt.Sprint(n) {
			return n, text, true
		}
	}
	return 0, "", false
}

// cutFrames are the frames with which s begins, and what is behind them.
func cutFrames(s string) ([]string, string) {
	var l []string
	for len(s) >= 8 {
		size := int(s[2])<<8 | int(s[3])
		if size > len(s)-8 || framed(s[8:8+size]) != s[:8+size] {
			break
		}
		l, s = append(l, s[8:8+size]), s[8+size:]
	}
	return l, s
}

// viewOf tells a bank and its number, whether the log is good, and the code; numbers are small.
func viewOf(d impl.Disk) (impl.Bank, int64, bool, int64) {
	base, there := byName(d.Live)["base"]
	if !there {
		return impl.Bank{}, 0, false, impl.StNone
	}
	frames, rest := cutFrames(base)
	if len(frames) != 1 || rest != "" {
		return impl.Bank{}, 0, false, impl.StBad
	}
	number, text, ok := numberAhead(frames[0])
	b, isBank := looseBank(text)
	if !ok || !isBank {
		return impl.Bank{}, 0, false, impl.StBad
	}
	frames, rest = cutFrames(fileOf(d, "log"))
	for _, data := range frames {
		n, text, ok := numberAhead(data)
		o, isOp := looseOp(text)
		if !ok || !isOp || n > number+1 {
			return b, number, false, impl.StOk
		}
		if n == number+1 {
			c, code := ranAs(b, o)
			if code != impl.TrDone {
				return b, number, false, impl.StOk
			}
			b, number = c, n
		}
	}
	return b, number, rest == "", impl.StOk
}

// savedBy are the steps that save a bank on a disk.
func savedBy(d impl.Disk, b impl.Bank, number int64) []impl.DOp {
	files := byName(d.Live)
	l := []impl.DOp{syncStep}
	if _, there := files["base.new"]; there {
		l = append(l, removed("base.new"), syncStep)
	}
	l = append(l, appended("base.new", baseOf(number, b)), renamed("base.new", "base"), syncStep)
	if _, there := files["log"]; there {
		l = append(l, removed("log"), syncStep)
	}
	return l
}

// stepsOf tells what an act other than AcCrash would do, or its refusal.
func stepsOf(d impl.Disk, a impl.Act) ([]impl.DOp, int64) {
	if a.Kind < impl.AcNew || a.Kind > impl.AcOpen {
		return nil, impl.StForm
	}
	b, number, good, code := viewOf(d)
	if a.Kind == impl.AcNew {
		if code != impl.StNone || a.Day < 0 || a.Day > impl.MaxDay {
			return nil, impl.StForm
		}
		var l []impl.DOp
		for _, f := range d.Live {
			l = append(l, removed(f.Name))
		}
		return append(l, savedBy(impl.Disk{}, impl.Bank{Day: a.Day}, 0)...), impl.StOk
	}
	switch {
	case code != impl.StOk:
		return nil, code
	case a.Kind == impl.AcLog && formless(a.Op):
		return nil, impl.StForm
	case a.Kind != impl.AcOpen && !good:
		return nil, impl.StTorn
	case a.Kind == impl.AcOpen && good:
		return nil, impl.StOk
	case a.Kind != impl.AcLog:
		return savedBy(d, b, number), impl.StOk
	}
	if _, code := ranAs(b, a.Op); code != impl.TrDone {
		return nil, impl.StRefuse
	}
	l := []impl.DOp{appended("log", entry(number+1, opText(a.Op)))}
	if a.Sync {
		l = append(l, syncStep)
	}
	return l, impl.StOk
}

// actedAs tells what an act leaves, and its code.
func actedAs(d impl.Disk, a impl.Act) (impl.Disk, int64) {
	if a.Kind == impl.AcCrash {
		left, ok := impl.Crash(d, a.Keep, a.Torn)
		if !ok {
			return d, impl.StForm
		}
		d, a.Kind = left, impl.AcOpen
	}
	steps, code := stepsOf(d, a)
	e := d
	for i, s := range steps {
		if int64(i) == a.Power {
			return e, impl.StPower
		}
		if s == syncStep {
			e = impl.Sync(e)
		} else if e, code = impl.Do(e, s); code != impl.DkOk {
			return d, impl.StFull
		}
	}
	return e, code
}

// anyLog mostly has frames whose numbers go on from that of the base, and mostly ends with a whole one.
func anyLog(r *rand.Rand, number int64, b impl.Bank) string {
	log := ""
	number = max(number-r.Int63n(3), 0)
	for range r.Intn(6) {
		number++
		if r.Intn(12) == 0 {
			number += r.Int63n(3) - 1
		}
		o := anyBankOp(r, b)
		c, code := ranAs(b, o)
		if code != impl.TrDone && r.Intn(4) != 0 {
			o, c = dayEnd, b
		}
		b = c
		frame := entry(number, opText(o))
		if r.Intn(25) == 0 {
			frame = framed(spoilt(r, frame[8:]))
		}
		log += frame
	}
	if r.Intn(4) == 0 {
		log = log[:r.Intn(len(log)+1)] + "\x00\xffx"[:r.Intn(2)]
	}
	return log
}

// anyStore is a disk, mostly with a bank on it, and with some ops that are not synced.
func anyStore(r *rand.Rand) impl.Disk {
	b, number := anyBank(r), r.Int63n(5)
	files := map[string]string{"base": baseOf(number, b), "log": anyLog(r, number, b), "base.new": baseOf(number, b)[:r.Intn(9)], "z": "1"}
	for i, name := range []string{"base", "log", "base.new", "z"} {
		if r.Intn([]int{9, 5, 2, 2}[i]) == 0 {
			delete(files, name)
		}
	}
	if r.Intn(12) == 0 {
		files["base"] = spoilt(r, files["base"])
	}
	d := bothOf(inOrder(files))
	for range r.Intn(5) {
		change := []impl.DOp{appended("z", "2"), removed("z"), renamed("z", "y"), appended("base.new", "3"), removed("log"), appended("log", entry(number+r.Int63n(5), "day")), appended("log", entry(number, "day")[:9])}[r.Intn(7)]
		d, _ = impl.Do(d, change)
	}
	return d
}

func anyAct(r *rand.Rand, d impl.Disk) impl.Act {
	a := impl.Act{Kind: 1 + r.Int63n(5), Day: r.Int63n(9), Sync: r.Intn(2) == 0, Power: r.Int63n(9) - 1, Torn: r.Int63n(40)}
	if r.Intn(40) == 0 {
		a.Kind, a.Day, a.Torn = r.Int63n(9)-1, -1, -1
	}
	b, _, _, _ := viewOf(d)
	a.Op = anyBankOp(r, b)
	for i := range d.Ops {
		if r.Intn(3) != 0 {
			a.Keep = append(a.Keep, int64(i))
		}
	}
	if r.Intn(20) == 0 {
		a.Keep = append(a.Keep, int64(len(d.Ops)))
	}
	return a
}

// Acts and views of any disk are what the document tells step by step.
func TestActsAgainstTheirSteps(t *testing.T) {
	r := rand.New(rand.NewSource(26))
	counts := map[[2]int64]int{}
	for range 4000 {
		d := anyStore(r)
		for range 3 {
			b, number, _, code := viewOf(d)
			if c, n, got := impl.StoreView(d); got != code || n != number || !sameBank(c, b) {
				t.Fatal(d, c, n, got, b, number, code)
			}
			a := anyAct(r, d)
			want, code := actedAs(d, a)
			e, got := impl.StoreDo(d, a)
			if got != code || !sameDisk(e, want) {
				t.Fatal(d, a, got, brief(e), code, brief(want))
			}
			counts[[2]int64{a.Kind, code}]++
			d = e
		}
	}
	for kind, codes := range map[int64][]int64{
		impl.AcNew: {impl.StOk, impl.StForm, impl.StPower}, impl.AcLog: {impl.StOk, impl.StBad, impl.StForm, impl.StPower, impl.StTorn, impl.StNone, impl.StRefuse},
		impl.AcSave: {impl.StOk, impl.StBad, impl.StPower, impl.StTorn, impl.StNone}, impl.AcOpen: {impl.StOk, impl.StBad, impl.StPower, impl.StNone}, impl.AcCrash: {impl.StOk, impl.StBad, impl.StForm, impl.StPower, impl.StNone},
	} {
		for _, code := range codes {
			if counts[[2]int64{kind, code}] < 15 {
				t.Error("too few", kind, code, counts)
			}
		}
	}
}

// A history has the banks that the logged ops made, one by one, and how many
// of the ops a loss of power must leave.
type history struct {
	disk  impl.Disk
	banks []impl.Bank
	safe  int64
}

// tornAt are the numbers of bytes at the edges of a frame that are kept of an op, and one between them.
func tornAt(r *rand.Rand, o impl.DOp) []int64 {
	n := int64(len(o.Data))
	if n == 0 {
		return []int64{0}
	}
	l := []int64{0, 1, 7, 8, 9, n - 1, n, 1 + r.Int63n(n)}
	slices.Sort(l)
	return slices.Compact(l)
}

// someKeeps are all ways to keep some of the ops, or a few when there are many of them.
func someKeeps(r *rand.Rand, ops int) [][]int64 {
	if ops <= 4 {
		return keeps(ops)
	}
	all := make([]int64, ops)
	for i := range all {
		all[i] = int64(i)
	}
	l := [][]int64{nil, all, all[1:], all[:ops-1]}
	for range 10 {
		l = append(l, slices.DeleteFunc(slices.Clone(all), func(int64) bool { return r.Intn(3) == 0 }))
	}
	return l
}

// lost are the disks that a loss of power may leave.
func lost(r *rand.Rand, d impl.Disk) []impl.Disk {
	all := map[string]impl.Disk{}
	for _, keep := range someKeeps(r, len(d.Ops)) {
		var last impl.DOp
		if len(keep) > 0 {
			last = d.Ops[keep[len(keep)-1]]
		}
		for _, torn := range tornAt(r, last) {
			if c, ok := impl.Crash(d, keep, torn); ok {
				all[fmt.Sprint(c.Live)] = c
			}
		}
	}
	var disks []impl.Disk
	for _, name := range slices.Sorted(maps.Keys(all)) {
		disks = append(disks, all[name])
	}
	return disks
}

// begins asks that the bank on a disk is what a beginning of the logged ops
// made, at least so many and at most so many of them, and tells how many.
func (h *history) begins(t *testing.T, d impl.Disk, least, most int64) int64 {
	t.Helper()
	b, number, code := impl.StoreView(d)
	if code != impl.StOk || number < least || number > most || !sameBank(b, h.banks[number]) {
		t.Fatalf("%v: bank %v of %d, code %d; %d .. %d ops must be there", d, b, number, code, least, most)
	}
	return number
}

// surviving asks for promise 8 of what the disk has now, and of a second loss
// of power in the middle of opening it again; it tells how many beginnings
// there were.
func (h *history) surviving(t *testing.T, r *rand.Rand) int {
	t.Helper()
	beginnings := map[int64]bool{}
	for _, c := range lost(r, h.disk) {
		n := h.begins(t, c, h.safe, int64(len(h.banks)-1))
		beginnings[n] = true
		for power := range int64(10) {
			e, code := impl.StoreDo(c, impl.Act{Kind: impl.AcOpen, Power: power})
			for _, again := range lost(r, e) {
				h.begins(t, again, n, n)
			}
			if h.begins(t, e, n, n); code == impl.StOk {
				acts(t, e, act(impl.AcSave), impl.StOk)
				break
			}
			if power > 8 || code != impl.StPower {
				t.Fatal(c, power, code)
			}
		}
	}
	return len(beginnings)
}

// goOn does one more act and keeps count of what was logged and synced.
func (h *history) goOn(t *testing.T, r *rand.Rand, a impl.Act) int64 {
	t.Helper()
	last := int64(len(h.banks) - 1)
	e, code := impl.StoreDo(h.disk, a)
	appends := a.Kind == impl.AcLog && (code == impl.StOk || code == impl.StPower && a.Power > 0)
	if appends {
		b, ran := ranAs(h.banks[last], a.Op)
		if ran != impl.TrDone {
			t.Fatal(a, ran)
		}
		h.banks = append(h.banks, b)
	}
	switch {
	case appends && a.Sync && code == impl.StOk:
		h.safe = last + 1
	case a.Kind == impl.AcSave && (code == impl.StOk || code == impl.StPower && a.Power > 0):
		h.safe = last
	case a.Kind == impl.AcCrash && (code == impl.StOk || code == impl.StPower):
		h.safe = h.begins(t, e, h.safe, last)
		h.banks = h.banks[:h.safe+1]
	}
	h.disk = e
	h.begins(t, e, int64(len(h.banks)-1), int64(len(h.banks)-1))
	return code
}

// nextAct mostly logs, and opens a log that is not good.
func nextAct(r *rand.Rand, d impl.Disk) impl.Act {
	a := anyAct(r, d)
	if r.Intn(2) == 0 {
		a.Kind, a.Sync, a.Power = impl.AcLog, r.Intn(4) == 0, []int64{-1, -1, 0, 1, 2}[r.Intn(5)]
	}
	if r.Intn(3) == 0 {
		a.Op = bankOp(impl.Op{Kind: impl.OpOpen, Id: 1 + r.Int63n(9), Amount: 50, Rate: r.Int63n(impl.MaxRate)})
	}
	if _, _, good, _ := viewOf(d); !good && r.Intn(2) == 0 {
		a.Kind = impl.AcOpen
	}
	return a
}

// Promise 8: behind any loss of power, between any two steps, whatever of what
// was not synced is kept, a bank is what a beginning of the logged ops made,
// all that were synced or saved among them.
func TestWhateverIsLost(t *testing.T) {
	r := rand.New(rand.NewSource(27))
	codes, several := map[[2]int64]int{}, 0
	for range 30 {
		day := r.Int63n(50)
		d, _ := impl.StoreDo(impl.Disk{}, newOn(day))
		h := &history{disk: d, banks: []impl.Bank{{Day: day}}}
		for range 25 {
			a := nextAct(r, h.disk)
			codes[[2]int64{a.Kind, h.goOn(t, r, a)}]++
			if h.surviving(t, r) > 1 {
				several++
			}
		}
	}
	if several < 100 {
		t.Error("too few disks of which more than one beginning may be left", several)
	}
	for _, what := range [][2]int64{{impl.AcLog, impl.StOk}, {impl.AcLog, impl.StPower}, {impl.AcLog, impl.StTorn}, {impl.AcSave, impl.StOk}, {impl.AcSave, impl.StPower}, {impl.AcOpen, impl.StOk}, {impl.AcOpen, impl.StPower}, {impl.AcCrash, impl.StOk}, {impl.AcCrash, impl.StPower}} {
		if codes[what] < 4 {
			t.Error("too few", what, codes)
		}
	}
}

// Promise 8 of the loss of power in the middle of each act, on one bank with
// ops that are synced and ops that are not.
func TestLosingPowerBetweenSteps(t *testing.T) {
	r := rand.New(rand.NewSource(28))
	for _, fresh := range []string{"", "torn", baseOf(0, impl.Bank{Day: 7})} {
		d, _ := impl.StoreDo(impl.Disk{}, newOn(7))
		if fresh != "" {
			d = impl.Sync(changed(t, d, appended("base.new", fresh)))
		}
		start := history{disk: d, banks: []impl.Bank{{Day: 7}}}
		for _, a := range []impl.Act{logging(opOf(t, "open 1 0 9 0"), true), logging(opOf(t, put5), true), logging(opOf(t, put7), false), logging(opOf(t, take9), false)} {
			if code := start.goOn(t, r, a); code != impl.StOk {
				t.Fatal(a, code)
			}
		}
		// The same bank whose log has a torn end that is synced.
		tornLog := start
		tornLog.disk = impl.Sync(changed(t, start.disk, appended("log", entry(5, "day")[:11])))
		tornLog.safe = 4
		for _, h := range []history{start, tornLog} {
			for _, a := range []impl.Act{logging(opOf(t, "day"), false), logging(opOf(t, "day"), true), act(impl.AcSave), act(impl.AcOpen)} {
				for power := range int64(12) {
					now := h
					now.banks = slices.Clone(h.banks)
					a.Power = power
					now.goOn(t, r, a)
					now.surviving(t, r)
				}
			}
		}
	}
}

// A new bank is there or not; what was there ahead of it is not a bank.
func TestLosingPowerOfANewBank(t *testing.T) {
	r := rand.New(rand.NewSource(29))
	for _, d := range []impl.Disk{{}, synced("a", "x", "base.new", baseOf(3, someBank()), "log", entry(1, put5)+entry(4, put5)), changed(t, impl.Disk{}, appended("log", "x"), appended("base.new", "y"))} {
		there := map[int64]int{}
		for power := range int64(10) {
			e, code := impl.StoreDo(d, impl.Act{Kind: impl.AcNew, Day: 8, Power: power})
			for _, c := range lost(r, e) {
				b, n, view := impl.StoreView(c)
				there[view]++
				if view != impl.StNone && (view != impl.StOk || n != 0 || !sameBank(b, impl.Bank{Day: 8})) || code == impl.StOk && view != impl.StOk {
					t.Fatal(d, power, c, b, n, view)
				}
				if view == impl.StNone {
					acts(t, c, newOn(8), impl.StOk)
				} else {
					actsBy(t, c, act(impl.AcOpen), c)
				}
			}
		}
		if there[impl.StOk] == 0 || there[impl.StNone] == 0 {
			t.Error(there)
		}
	}
}

// Files of any bytes are told of, and no act fails at them.
func TestStoresOfAnyBytes(t *testing.T) {
	r := rand.New(rand.NewSource(30))
	for range 2000 {
		junk := anyBytes(r, r.Intn(60))
		takes(t, "\xff"+junk)
		unseen(t, synced("base", "\xff"+junk), impl.StBad)
		unseen(t, synced("base", framed(junk), "log", junk), impl.StBad)
		if r.Intn(4) == 0 {
			logged(t, entry(4, put5)+"\xff"+junk, false, put5)
			logged(t, entry(4, put5)+framed(junk)+entry(5, put5), false, put5)
		}
	}
}
