package tests

import (
	"encoding/binary"
	"fmt"
	"hash/crc32"
	"math"
	"math/rand"
	"slices"
	"strings"
	"testing"

	"loop.example/g00362/impl"
)

// framed is the frame of data of any length.
func framed(data string) string {
	head := binary.BigEndian.AppendUint32(nil, uint32(len(data)))
	return string(binary.LittleEndian.AppendUint32(head, crc32.ChecksumIEEE([]byte(data)))) + data
}

func baseOf(number int64, b impl.Bank) string {
	return entry(number, textOf(b))
}

func entry(number int64, text string) string {
	return framed(fmt.Sprintf("%d\n%s", number, text))
}

func act(kind int64) impl.Act {
	return impl.Act{Kind: kind, Power: -1}
}

func newOn(day int64) impl.Act {
	return impl.Act{Kind: impl.AcNew, Day: day, Power: -1}
}

func logging(o impl.BOp, sync bool) impl.Act {
	return impl.Act{Kind: impl.AcLog, Op: o, Sync: sync, Power: -1}
}

func crashing(keep []int64, torn int64) impl.Act {
	return impl.Act{Kind: impl.AcCrash, Keep: keep, Torn: torn, Power: -1}
}

// acts asks for the code, and with a refusal for the disk that it leaves.
func acts(t *testing.T, d impl.Disk, a impl.Act, code int64) impl.Disk {
	t.Helper()
	e, got := impl.StoreDo(d, a)
	if got != code {
		t.Errorf("%v on %s: code %d, want %d", a, brief(d), got, code)
	}
	was := d
	if left, ok := impl.Crash(d, a.Keep, a.Torn); ok && a.Kind == impl.AcCrash {
		was = left
	}
	if got != impl.StOk && got != impl.StPower && !sameDisk(e, was) {
		t.Errorf("%v refused with %d, and changed %s to %s", a, got, brief(was), brief(e))
	}
	if !impl.DiskOk(e) {
		t.Errorf("%v on %s left a disk that is not right: %s", a, brief(d), brief(e))
	}
	return e
}

// syncStep stands for a Sync among ops of a disk.
var syncStep = impl.DOp{}

// stepped are the disks ahead of all steps and behind each of them.
func stepped(t *testing.T, d impl.Disk, steps ...impl.DOp) []impl.Disk {
	t.Helper()
	disks := []impl.Disk{d}
	for _, s := range steps {
		if s == syncStep {
			d = impl.Sync(d)
		} else {
			d = changed(t, d, s)
		}
		disks = append(disks, d)
	}
	return disks
}

// actsBy asks for the steps that an act makes, with each Power; from is the
// disk ahead of the first one.
func actsBy(t *testing.T, d impl.Disk, a impl.Act, from impl.Disk, steps ...impl.DOp) impl.Disk {
	t.Helper()
	disks := stepped(t, from, steps...)
	last := disks[len(steps)]
	for power := range int64(len(steps)) {
		a.Power = power
		if e := acts(t, d, a, impl.StPower); !sameDisk(e, disks[power]) {
			t.Errorf("%v on %s: %s, want %s", a, brief(d), brief(e), brief(disks[power]))
		}
	}
	for _, power := range []int64{int64(len(steps)), int64(len(steps)) + 1, math.MaxInt64, -1, -2, math.MinInt64} {
		a.Power = power
		if e := acts(t, d, a, impl.StOk); !sameDisk(e, last) {
			t.Errorf("%v on %s: %s, want %s", a, brief(d), brief(e), brief(last))
		}
	}
	return last
}

// views asks for the bank on a disk and its number.
func views(t *testing.T, d impl.Disk, b impl.Bank, number int64) {
	t.Helper()
	if c, n, code := impl.StoreView(d); code != impl.StOk || n != number || !sameBank(c, b) {
		t.Errorf("%s: %v %d %d, want %v %d", brief(d), c, n, code, b, number)
	}
}

// unseen asks for the code of a disk with no bank to see, also of the acts that need one.
func unseen(t *testing.T, d impl.Disk, code int64) {
	t.Helper()
	if c, n, got := impl.StoreView(d); got != code || n != 0 || !sameBank(c, impl.Bank{}) {
		t.Errorf("%s: %v %d %d, want %d", brief(d), c, n, got, code)
	}
	for _, kind := range []int64{impl.AcLog, impl.AcSave, impl.AcOpen, impl.AcCrash} {
		if kind == impl.AcCrash {
			d = impl.Sync(d)
		}
		for power := int64(-1); power < 2; power++ {
			acts(t, d, impl.Act{Kind: kind, Power: power}, code)
			acts(t, d, impl.Act{Kind: kind, Op: dayEnd, Sync: true, Power: power, Day: -1}, code)
		}
	}
}

// Some ops that can be logged on a bank with a root 1 that has 8.
const (
	put5  = "put 1 5"
	put7  = "put 1 7"
	take9 = "take 1 9"
)

func opOf(t *testing.T, text string) impl.BOp {
	t.Helper()
	o, ok := impl.ReadBOp(text)
	if !ok {
		t.Fatal(text)
	}
	return o
}

func someBank() impl.Bank {
	return bankOf(5, root(1, 0, 8))
}

// after is the bank with those ops done.
func after(t *testing.T, b impl.Bank, texts ...string) impl.Bank {
	t.Helper()
	for _, text := range texts {
		b = runs(t, b, opOf(t, text), impl.TrDone)
	}
	return b
}

func TestFrames(t *testing.T) {
	if f := impl.FrameOf("123456789"); f != "\x00\x00\x00\x09\x26\x39\xf4\xcb123456789" {
		t.Errorf("%q", f)
	}
	if f := impl.FrameOf(""); f != "\x00\x00\x00\x00\x00\x00\x00\x00" {
		t.Errorf("%q", f)
	}
	r := rand.New(rand.NewSource(24))
	for _, size := range []int{0, 1, 2, 3, 4, 5, 255, 256, 257, 65535, 65536, 99999, 100000} {
		for _, data := range []string{strings.Repeat("\x00", size), strings.Repeat("\xff", size), anyBytes(r, size), anyBytes(r, size)} {
			f := impl.FrameOf(data)
			if f != framed(data) || len(f) != size+8 {
				t.Fatalf("frame of %d bytes: %d bytes, %.20q", size, len(f), f)
			}
			takes(t, f, data)
		}
	}
	for _, size := range []int{100001, 100002, 200000, 1 << 20} {
		data := anyBytes(r, size)
		if f := impl.FrameOf(data); f != "" {
			t.Error(size, len(f))
		}
		// A frame of that is none, though all in it is as it says.
		takes(t, framed(data))
		takes(t, framed("a")+framed(data)+framed("b"), "a")
	}
}

func anyBytes(r *rand.Rand, size int) string {
	bytes := make([]byte, size)
	r.Read(bytes)
	return string(bytes)
}

// takes asks for the data of the frames with which s begins.
func takes(t *testing.T, s string, want ...string) {
	t.Helper()
	end := 0
	for _, data := range want {
		end += len(data) + 8
	}
	if got, n := impl.TakeFrames(s); !slices.Equal(got, want) || n != int64(end) {
		t.Errorf("%.60q: %.60q %d, want %.60q %d", s, got, n, want, end)
	}
}

func TestFramesOneBehindTheOther(t *testing.T) {
	takes(t, "")
	a, b, none := framed("abc"), framed("12\n34"), framed("")
	takes(t, a+b, "abc", "12\n34")
	takes(t, a+a+none+none+b, "abc", "abc", "", "", "12\n34")
	takes(t, strings.Repeat("\x00", 20), "", "")
	for _, rest := range []string{"x", "\x00", "\x00\x00\x00\x01", "\xff\xff\xff\xff\xff\xff\xff\xff", "abcdefgh", "\n", "frames"} {
		takes(t, a+b+rest, "abc", "12\n34")
		takes(t, rest)
		takes(t, rest+a)
		takes(t, a+rest+b, "abc")
	}
	takes(t, strings.Repeat(a, 20000)+"x", slices.Repeat([]string{"abc"}, 20000)...)
}

func TestFramesThatAreNone(t *testing.T) {
	for _, data := range []string{"", "x", "abc", "0\nbank 0 0 0 0 0\n"} {
		f := framed(data)
		for cut := range len(f) {
			takes(t, f[:cut])
			takes(t, framed("ahead")+f[:cut], "ahead")
		}
		// One bit of its head or of its data is another one.
		for i := range len(f) * 8 {
			bytes := []byte(f)
			bytes[i/8] ^= 1 << (i % 8)
			takes(t, string(bytes))
			takes(t, framed("ahead")+string(bytes)+f, "ahead")
		}
		// The number of bytes is another one, and there are so many.
		for _, size := range []uint32{0, 1, 2, 3, 4, 100000, 100001, 1 << 31, math.MaxUint32} {
			if size != uint32(len(data)) {
				takes(t, string(binary.BigEndian.AppendUint32(nil, size))+f[4:]+strings.Repeat("x", 100001))
			}
		}
	}
	// The bytes of the number or of the CRC-32 the other way round.
	f := framed("abc")
	takes(t, f[3:4]+f[2:3]+f[1:2]+f[0:1]+f[4:])
	takes(t, f[:4]+f[7:8]+f[6:7]+f[5:6]+f[4:5]+"abc")
	takes(t, f[4:8]+f[:4]+"abc")
}

func TestBases(t *testing.T) {
	b := someBank()
	views(t, synced("base", baseOf(0, b)), b, 0)
	views(t, synced("base", baseOf(1, b)), b, 1)
	views(t, synced("base", baseOf(1000000000, b)), b, 1000000000)
	views(t, synced("base", baseOf(7, fullBank())), fullBank(), 7)
	views(t, synced("a", "x", "base", baseOf(7, impl.Bank{}), "base.new", "x", "base.old", "x"), impl.Bank{}, 7)
	// What is seen counts, not what is synced.
	views(t, changed(t, synced(), appended("base", baseOf(3, b))), b, 3)
	views(t, changed(t, synced("base", "x", "other", baseOf(3, b)), renamed("other", "base")), b, 3)
	for _, d := range []impl.Disk{{}, synced("a", "x"), synced("Base", baseOf(1, b)), synced("base.new", baseOf(1, b)), synced("log", entry(1, put5)), changed(t, synced("base", baseOf(1, b)), removed("base")), changed(t, synced("base", baseOf(1, b)), renamed("base", "base.new"))} {
		unseen(t, d, impl.StNone)
	}
}

func TestBasesThatAreBroken(t *testing.T) {
	b := someBank()
	text, whole := textOf(b), baseOf(3, b)
	bad := []string{"", "x", text, "3\n" + text, whole + whole, whole + "x", whole + "\n", whole + "\x00", "x" + whole, whole + framed(""), framed("") + whole, entry(3, put5), framed(""), framed("3"), framed("3\n"), framed("\n"), framed("\n" + text), framed(text)}
	for cut := range len(whole) {
		bad = append(bad, whole[:cut])
		bytes := []byte(whole)
		bytes[cut]++
		bad = append(bad, string(bytes))
	}
	for _, number := range append(badNumbers("3"), "-1", "-3", "1000000001", "1000000000000", "9999999999999999", "00", "03", "3 ", " 3", "3\r", "4294967299", "18446744073709551619", "3\n", "3 4") {
		bad = append(bad, framed(number+"\n"+text))
	}
	for _, no := range []string{text + "\n", "\n" + text, text + " ", text[:len(text)-1], text + text, strings.Replace(text, "5", "05", 1), "bank 0 1 0 0 0\n", "bank -1 0 0 0 0\n", "day", put5, "bank"} {
		bad = append(bad, entry(3, no))
	}
	for _, base := range bad {
		unseen(t, synced("base", base), impl.StBad)
		unseen(t, synced("base", base, "base.new", whole, "log", entry(4, put5)), impl.StBad)
		// There is a base, whatever it is.
		acts(t, synced("base", base), newOn(5), impl.StForm)
	}
}

// logged asks for what a log makes of someBank with the number 3, and for
// whether it is good, as the acts on it tell.
func logged(t *testing.T, log string, good bool, counting ...string) {
	t.Helper()
	d := synced("base", baseOf(3, someBank()), "log", log)
	b, number := after(t, someBank(), counting...), int64(3+len(counting))
	views(t, d, b, number)
	code := int64(impl.StTorn)
	if good {
		code = impl.StOk
	}
	e := acts(t, d, logging(opOf(t, put7), true), code)
	f := acts(t, d, act(impl.AcSave), code)
	if good {
		views(t, e, after(t, b, put7), number+1)
		views(t, f, b, number)
	}
	g := acts(t, d, act(impl.AcOpen), impl.StOk)
	if good != sameDisk(d, g) {
		t.Errorf("%q: %v", log, g)
	}
	if want := synced("base", baseOf(number, b)); !good && !sameDisk(g, want) {
		t.Errorf("%q: %s, want %s", log, brief(g), brief(want))
	}
	views(t, g, b, number)
}

func TestLogs(t *testing.T) {
	views(t, synced("base", baseOf(3, someBank())), someBank(), 3)
	logged(t, "", true)
	logged(t, entry(4, put5), true, put5)
	logged(t, entry(4, put5)+entry(5, take9)+entry(6, "day"), true, put5, take9, "day")
	// Numbers that are not above that of the bank are passed over, whatever their op would do.
	logged(t, entry(3, put5), true)
	logged(t, entry(0, put5)+entry(1, "close 9")+entry(2, put5)+entry(3, "take 1 99"), true)
	logged(t, entry(2, put5)+entry(3, put5)+entry(4, put7)+entry(5, put5), true, put7, put5)
	logged(t, entry(4, put5)+entry(4, put7)+entry(0, put7)+entry(5, take9)+entry(4, put7), true, put5, take9)
	// What is in another file is no log.
	views(t, synced("base", baseOf(3, someBank()), "log.new", entry(4, put5)), someBank(), 3)
}

// Good frames behind one that does not count do not count either.
func TestLogsThatAreNotGood(t *testing.T) {
	four, five := entry(4, put5), entry(5, take9)
	for _, bad := range []string{
		"x", "\x00", "\xff\xff\xff\xff\xff\xff\xff\xff", framed(""), framed("4"), framed("5\n"), framed("\nput 1 5"), framed(put5),
		entry(6, put5), entry(7, "day"), entry(1000000000, put5), entry(1000000001, put5), entry(math.MaxInt64, put5), entry(-1, put5), entry(math.MinInt64, put5),
		framed("05\nput 1 5"), framed("+5\nput 1 5"), framed("5 \nput 1 5"), framed("-0\nput 1 5"), framed("00\nput 1 5"), framed("0x5\nput 1 5"), framed("5\r\nput 1 5"), framed("5\n\nput 1 5"), framed("5 put 1 5"),
		entry(5, "put 1 05"), entry(5, "put 1 5\n"), entry(5, "put 1"), entry(5, "fly"), entry(5, "put 1 0"), entry(5, "open 1 0 -1 0"), entry(5, "put 1 5 "), entry(5, textOf(someBank())), entry(4, "fly"), entry(0, ""), entry(3, "put 1 05"),
		entry(5, "take 1 14"), entry(5, "put 2 5"), entry(5, "open 1 0 5 0"), entry(5, "cancel 7"), entry(5, "thaw 1"), entry(5, "put 1 1000000000000"),
		strings.Replace(five, "take", "tale", 1), "\x00\x00\x00\x7f" + five[4:],
	} {
		for _, behind := range []string{"", five, four, four + five, entry(5, put7) + entry(6, put7)} {
			logged(t, four+bad+behind, false, put5)
			logged(t, entry(1, put5)+four+entry(4, put5)+bad+behind, false, put5)
		}
	}
	for cut := 1; cut < len(five); cut++ {
		logged(t, four+five[:cut], false, put5)
		logged(t, five[:cut], false)
		logged(t, four+five[:cut]+five, false, put5)
	}
	logged(t, entry(5, put5), false)
	logged(t, entry(5, put5)+entry(4, put5), false)
	logged(t, "x"+four, false)
}

// A base of a number above that of all frames: the log was left by a save.
func TestLogsThatAreBehindTheBase(t *testing.T) {
	b := someBank()
	log := entry(1, "open 1 0 0 0") + entry(2, "put 1 8") + entry(3, "day")
	for number := int64(3); number < 6; number++ {
		d := synced("base", baseOf(number, b), "log", log)
		views(t, d, b, number)
		e := acts(t, d, logging(opOf(t, put5), true), impl.StOk)
		if want := synced("base", baseOf(number, b), "log", log+entry(number+1, put5)); !sameDisk(e, want) {
			t.Error(number, brief(e), brief(want))
		}
		views(t, e, after(t, b, put5), number+1)
		// The end of such a log may be torn as well.
		torn := synced("base", baseOf(number, b), "log", log+"x")
		acts(t, torn, act(impl.AcSave), impl.StTorn)
		e = acts(t, torn, act(impl.AcOpen), impl.StOk)
		if want := synced("base", baseOf(number, b)); !sameDisk(e, want) {
			t.Error(number, brief(e))
		}
	}
}

func TestTheGreatestNumber(t *testing.T) {
	const most = 1000000000
	b := someBank()
	d := synced("base", baseOf(most-1, b))
	views(t, d, b, most-1)
	d = acts(t, d, logging(opOf(t, put5), true), impl.StOk)
	five := after(t, b, put5)
	for _, d := range []impl.Disk{d, synced("base", baseOf(most, five)), synced("base", baseOf(most, five), "log", entry(most, put7))} {
		views(t, d, five, most)
		acts(t, d, logging(opOf(t, put5), true), impl.StForm)
		acts(t, d, logging(opOf(t, "put 9 5"), true), impl.StForm)
		e := acts(t, d, act(impl.AcSave), impl.StOk)
		if want := synced("base", baseOf(most, five)); !sameDisk(e, want) {
			t.Error(brief(e))
		}
	}
	// The next number would be one more; and it is told ahead of a log that is not good.
	d = synced("base", baseOf(most, b), "log", entry(most+1, put5))
	views(t, d, b, most)
	acts(t, d, logging(opOf(t, put5), true), impl.StForm)
	acts(t, d, act(impl.AcSave), impl.StTorn)
	views(t, acts(t, d, act(impl.AcOpen), impl.StOk), b, most)
}

func TestKindsOfActs(t *testing.T) {
	for _, d := range []impl.Disk{{}, synced("base", baseOf(3, someBank())), synced("base", "x"), synced("base", baseOf(3, someBank()), "log", "x")} {
		for _, kind := range []int64{0, 6, -1, 19, math.MinInt64, math.MaxInt64} {
			for power := int64(-1); power < 3; power++ {
				acts(t, d, impl.Act{Kind: kind, Power: power}, impl.StForm)
				acts(t, d, impl.Act{Kind: kind, Power: power, Day: 5, Op: dayEnd, Sync: true}, impl.StForm)
			}
		}
	}
}

func TestNewStores(t *testing.T) {
	for _, day := range []int64{0, 1, 739934, impl.MaxDay} {
		frame := baseOf(0, impl.Bank{Day: day})
		d := actsBy(t, impl.Disk{}, newOn(day), impl.Disk{}, syncStep, appended("base.new", frame), renamed("base.new", "base"), syncStep)
		if !sameDisk(d, synced("base", frame)) {
			t.Error(brief(d))
		}
		views(t, d, impl.Bank{Day: day}, 0)
	}
	for _, day := range []int64{-1, impl.MaxDay + 1, math.MinInt64, math.MaxInt64} {
		for _, d := range []impl.Disk{{}, synced("a", "x"), synced("base", baseOf(0, impl.Bank{}))} {
			acts(t, d, newOn(day), impl.StForm)
			acts(t, d, impl.Act{Kind: impl.AcNew, Day: day}, impl.StForm)
		}
	}
	for _, base := range []string{"", "x", baseOf(0, impl.Bank{}), baseOf(3, someBank())} {
		acts(t, synced("base", base), newOn(5), impl.StForm)
		acts(t, synced("a", "x", "base", base, "log", "x"), impl.Act{Kind: impl.AcNew, Day: 5}, impl.StForm)
		acts(t, changed(t, impl.Disk{}, appended("base", base)), newOn(5), impl.StForm)
	}
}

// Each file goes by itself ahead of the first Sync, by name.
func TestNewStoresWhereThereAreFiles(t *testing.T) {
	frame := baseOf(0, impl.Bank{Day: 5})
	rest := []impl.DOp{syncStep, appended("base.new", frame), renamed("base.new", "base"), syncStep}
	d := synced("Base", "1", "base.new", baseOf(7, someBank()), "base2", "", "log", entry(1, put5), "z", "2")
	want := actsBy(t, d, newOn(5), d, append([]impl.DOp{removed("Base"), removed("base.new"), removed("base2"), removed("log"), removed("z")}, rest...)...)
	views(t, want, impl.Bank{Day: 5}, 0)
	d = changed(t, synced("base", "old", "c", "1"), removed("base"), appended("a", "2"), renamed("c", "log"))
	actsBy(t, d, newOn(5), d, append([]impl.DOp{removed("a"), removed("log")}, rest...)...)
}

func TestLogging(t *testing.T) {
	b := someBank()
	base := baseOf(3, b)
	d := synced("base", base)
	actsBy(t, d, logging(opOf(t, put5), false), d, appended("log", entry(4, put5)))
	e := actsBy(t, d, logging(opOf(t, put5), true), d, appended("log", entry(4, put5)), syncStep)
	views(t, e, after(t, b, put5), 4)
	e = actsBy(t, e, logging(opOf(t, "day"), false), e, appended("log", entry(5, "day")))
	e = actsBy(t, e, logging(opOf(t, take9), false), e, appended("log", entry(6, take9)))
	views(t, e, after(t, b, put5, "day", take9), 6)
	e = actsBy(t, e, logging(opOf(t, "order 2 1 3 5 10 7 4"), true), e, appended("log", entry(7, "order 2 1 3 5 10 7 4")), syncStep)
	if want := synced("base", base, "log", entry(4, put5)+entry(5, "day")+entry(6, take9)+entry(7, "order 2 1 3 5 10 7 4")); !sameDisk(e, want) {
		t.Error(brief(e))
	}
	// A base.new that was left, other files and an empty log stay as they are.
	other := synced("a", "x", "base", base, "base.new", "x", "log", "")
	actsBy(t, other, logging(opOf(t, put5), true), other, appended("log", entry(4, put5)), syncStep)
	// Fields that the Kind does not name do nothing.
	a := logging(opOf(t, put5), true)
	a.Day, a.Keep, a.Torn = -1, []int64{-1}, -1
	actsBy(t, d, a, d, appended("log", entry(4, put5)), syncStep)
}

func TestLoggingWhatIsRefused(t *testing.T) {
	d := synced("base", baseOf(3, someBank()), "log", entry(4, put5))
	torn := synced("base", baseOf(3, someBank()), "log", entry(4, put5)+"x")
	for power := int64(-1); power < 3; power++ {
		for _, sync := range []bool{false, true} {
			for _, o := range []impl.BOp{{}, {Kind: impl.BkOp}, {Kind: impl.BkDay, Id: 1}, bankOp(op(impl.OpPut, 1, 0, 0)), cancellation(0), addition(order(0, 1, 1, 1))} {
				a := impl.Act{Kind: impl.AcLog, Op: o, Sync: sync, Power: power}
				acts(t, d, a, impl.StForm)
				acts(t, torn, a, impl.StForm)
			}
			for _, text := range []string{"take 1 14", "put 2 5", "open 1 0 5 0", "cancel 7", "thaw 1", "limit 1 -1", "put 1 1000000000000"} {
				a := impl.Act{Kind: impl.AcLog, Op: opOf(t, text), Sync: sync, Power: power}
				acts(t, d, a, impl.StRefuse)
				acts(t, torn, a, impl.StTorn)
			}
			acts(t, torn, impl.Act{Kind: impl.AcLog, Op: dayEnd, Sync: sync, Power: power}, impl.StTorn)
		}
	}
	// What the log made counts: there are 13, not the 8 of the base.
	acts(t, d, logging(opOf(t, "take 1 13"), false), impl.StOk)
	last := synced("base", baseOf(3, impl.Bank{Day: impl.MaxDay - 1}))
	last = acts(t, last, logging(dayEnd, false), impl.StOk)
	acts(t, last, logging(dayEnd, false), impl.StRefuse)
}

func TestSaving(t *testing.T) {
	b := someBank()
	old, log := baseOf(3, b), entry(4, put5)+entry(5, take9)
	frame := baseOf(5, after(t, b, put5, take9))
	fresh := []impl.DOp{appended("base.new", frame), renamed("base.new", "base"), syncStep}
	d := synced("base", old, "log", log)
	want := actsBy(t, d, act(impl.AcSave), d, slices.Concat([]impl.DOp{syncStep}, fresh, []impl.DOp{removed("log"), syncStep})...)
	if !sameDisk(want, synced("base", frame)) {
		t.Error(brief(want))
	}
	// There is a base.new, and there are other files, some of them not synced.
	d = changed(t, synced("a", "x", "base", old, "z", "y"), appended("base.new", "torn"), appended("log", log), removed("z"))
	want = actsBy(t, d, act(impl.AcSave), d, slices.Concat([]impl.DOp{syncStep, removed("base.new"), syncStep}, fresh, []impl.DOp{removed("log"), syncStep})...)
	if !sameDisk(want, synced("a", "x", "base", frame)) {
		t.Error(brief(want))
	}
	// There is no log, and a base.new that is whole.
	d = synced("base", frame, "base.new", old)
	actsBy(t, d, act(impl.AcSave), d, slices.Concat([]impl.DOp{syncStep, removed("base.new"), syncStep}, fresh)...)
	d = synced("base", frame)
	actsBy(t, d, act(impl.AcSave), d, append([]impl.DOp{syncStep}, fresh...)...)
	// An empty log goes too.
	d = synced("base", frame, "log", "")
	actsBy(t, d, act(impl.AcSave), d, slices.Concat([]impl.DOp{syncStep}, fresh, []impl.DOp{removed("log"), syncStep})...)
	for power := int64(-1); power < 8; power++ {
		acts(t, synced("base", old, "log", log+"x"), impl.Act{Kind: impl.AcSave, Power: power}, impl.StTorn)
		acts(t, synced("base", old, "base.new", frame, "log", entry(5, put5)), impl.Act{Kind: impl.AcSave, Power: power}, impl.StTorn)
	}
}

func TestOpeningStores(t *testing.T) {
	old, frame := baseOf(3, someBank()), baseOf(4, after(t, someBank(), put5))
	for _, d := range []impl.Disk{
		synced("base", old), synced("base", old, "log", ""), synced("base", old, "log", entry(4, put5)), synced("a", "x", "base", old, "base.new", "x", "log", entry(1, put5)),
		changed(t, synced("base", old), appended("log", entry(4, put5)), appended("a", "x"), renamed("a", "b")),
	} {
		actsBy(t, d, act(impl.AcOpen), d)
	}
	saved := []impl.DOp{appended("base.new", frame), renamed("base.new", "base"), syncStep, removed("log"), syncStep}
	d := synced("base", old, "log", entry(4, put5)+"x")
	actsBy(t, d, act(impl.AcOpen), d, append([]impl.DOp{syncStep}, saved...)...)
	d = changed(t, synced("base", old, "log", entry(4, put5)+entry(6, put5)), appended("base.new", "x"))
	e := actsBy(t, d, act(impl.AcOpen), d, append([]impl.DOp{syncStep, removed("base.new"), syncStep}, saved...)...)
	if !sameDisk(e, synced("base", frame)) {
		t.Error(brief(e))
	}
	actsBy(t, e, act(impl.AcOpen), e)
}

func TestCrashing(t *testing.T) {
	b := someBank()
	base, four, five := baseOf(3, b), entry(4, put5), entry(5, take9)
	d := changed(t, synced("base", base), appended("log", four), appended("log", five))
	leaves := func(keep []int64, torn int64, want impl.Disk, counting ...string) {
		t.Helper()
		actsBy(t, d, crashing(keep, torn), want)
		views(t, want, after(t, b, counting...), int64(3+len(counting)))
	}
	leaves(nil, 0, synced("base", base))
	leaves([]int64{0}, 900, synced("base", base, "log", four), put5)
	leaves([]int64{0}, 0, synced("base", base, "log", ""))
	leaves([]int64{0, 1}, int64(len(five)), synced("base", base, "log", four+five), put5, take9)
	leaves([]int64{0, 1}, 0, synced("base", base, "log", four), put5)
	mends := func(keep []int64, torn int64, log string, counting ...string) {
		t.Helper()
		from := synced("base", base, "log", log)
		frame := baseOf(int64(3+len(counting)), after(t, b, counting...))
		e := actsBy(t, d, crashing(keep, torn), from, syncStep, appended("base.new", frame), renamed("base.new", "base"), syncStep, removed("log"), syncStep)
		if !sameDisk(e, synced("base", frame)) {
			t.Error(brief(e))
		}
	}
	for torn := 1; torn < len(five); torn++ {
		mends([]int64{0, 1}, int64(torn), four+five[:torn], put5)
		mends([]int64{1}, int64(torn), five[:torn])
	}
	for torn := 1; torn < len(four); torn++ {
		mends([]int64{0}, int64(torn), four[:torn])
	}
	mends([]int64{1}, math.MaxInt64, five)
}

func TestCrashingThatIsRefused(t *testing.T) {
	base := baseOf(3, someBank())
	d := changed(t, synced("base", base), appended("log", entry(4, put5)), appended("log", "x"))
	none := changed(t, synced("a", "x"), appended("log", entry(4, put5)), appended("base", base))
	for _, disk := range []impl.Disk{d, none, changed(t, synced("base", "x"), appended("b", "1"), appended("b", "2"))} {
		for _, keep := range [][]int64{{-1}, {2}, {0, 0}, {1, 0}, {0, 1, 2}, {0, 1, 1}, {math.MinInt64}, {math.MaxInt64}, {0, math.MaxInt64}} {
			for power := int64(-1); power < 3; power++ {
				acts(t, disk, impl.Act{Kind: impl.AcCrash, Keep: keep, Torn: 1, Power: power}, impl.StForm)
			}
		}
		for _, torn := range []int64{-1, math.MinInt64} {
			acts(t, disk, crashing(nil, torn), impl.StForm)
			acts(t, disk, crashing([]int64{0, 1}, torn), impl.StForm)
		}
	}
	acts(t, synced("base", base), crashing([]int64{0}, 9), impl.StForm)
	// The disk behind Crash has no base, or a broken one.
	for power := int64(-1); power < 3; power++ {
		acts(t, none, impl.Act{Kind: impl.AcCrash, Power: power}, impl.StNone)
		acts(t, none, impl.Act{Kind: impl.AcCrash, Keep: []int64{0}, Torn: 900, Power: power}, impl.StNone)
		acts(t, none, impl.Act{Kind: impl.AcCrash, Keep: []int64{0, 1}, Torn: 9, Power: power}, impl.StBad)
		acts(t, none, impl.Act{Kind: impl.AcCrash, Keep: []int64{1}, Torn: 900, Power: power}, impl.StOk)
		acts(t, changed(t, d, removed("base")), impl.Act{Kind: impl.AcCrash, Keep: []int64{2}, Power: power}, impl.StNone)
		acts(t, changed(t, d, appended("base", "x")), impl.Act{Kind: impl.AcCrash, Keep: []int64{2}, Torn: 1, Power: power}, impl.StBad)
	}
	// A disk that is broken, or has no base, has one again when that was not synced.
	acts(t, changed(t, synced("base", base), removed("base")), crashing(nil, 0), impl.StOk)
	acts(t, changed(t, synced("base", base), appended("base", "x")), crashing(nil, 0), impl.StOk)
	// There would be too many bytes: what made room for others is not kept.
	full := changed(t, synced("a", strings.Repeat("x", impl.MaxBytes-1000), "base", base), removed("a"), appended("b", strings.Repeat("x", 2000)))
	acts(t, full, crashing([]int64{1}, 2000), impl.StForm)
	acts(t, full, crashing([]int64{0, 1}, 2000), impl.StOk)
}
