package tests

import (
	"math"
	"math/rand"
	"slices"
	"strings"
	"testing"

	"loop.example/g00362/impl"
)

// refusedAt asks that a step in the middle of an act is refused: with a Power
// of fewer steps than that it ends ahead of it.
func refusedAt(t *testing.T, d impl.Disk, a impl.Act, from impl.Disk, steps ...impl.DOp) {
	t.Helper()
	disks := stepped(t, from, steps...)
	for power, want := range disks {
		a.Power = int64(power)
		if e := acts(t, d, a, impl.StPower); !sameDisk(e, want) {
			t.Errorf("%v on %s: %s, want %s", a, brief(d), brief(e), brief(want))
		}
	}
	for _, power := range []int64{int64(len(disks)), int64(len(disks)) + 1, int64(len(disks)) + 9, math.MaxInt64, -1, math.MinInt64} {
		a.Power = power
		acts(t, d, a, impl.StFull)
	}
}

// fatDisk has just so many bytes left.
func fatDisk(room int, files ...string) impl.Disk {
	for i := 1; i < len(files); i += 2 {
		room += len(files[i])
	}
	return synced(append([]string{"a", strings.Repeat("x", impl.MaxBytes-room)}, files...)...)
}

func TestLoggingOnAFullDisk(t *testing.T) {
	base, frame := baseOf(3, someBank()), entry(4, put5)
	a := logging(opOf(t, put5), true)
	d := fatDisk(len(frame)-1, "base", base)
	refusedAt(t, d, a, d)
	d = fatDisk(len(frame), "base", base)
	actsBy(t, d, a, d, appended("log", frame), syncStep)
	// There are too many files, and just so many.
	d = synced("base", base)
	d.Live = append(d.Live, manyFiles(impl.MaxFiles-1)...)
	d.Safe = slices.Clone(d.Live)
	refusedAt(t, d, a, d)
	d = bothOf(d.Live[:impl.MaxFiles-1])
	actsBy(t, d, a, d, appended("log", frame), syncStep)
	// There are too many ops that are not synced: a Sync in time makes room.
	d = busyDisk(t, synced("base", base), impl.MaxOps-1)
	full := acts(t, d, logging(opOf(t, put5), false), impl.StOk)
	refusedAt(t, full, logging(dayEnd, false), full)
	refusedAt(t, full, logging(dayEnd, true), full)
	acts(t, acts(t, d, a, impl.StOk), logging(dayEnd, false), impl.StOk)
	acts(t, acts(t, full, act(impl.AcSave), impl.StOk), logging(dayEnd, false), impl.StOk)
}

func busyDisk(t *testing.T, d impl.Disk, ops int) impl.Disk {
	t.Helper()
	name := d.Live[0].Name
	for range ops {
		e, code := impl.Do(d, renamed(name, name))
		if code != impl.DkOk {
			t.Fatal(code)
		}
		d = e
	}
	return d
}

func TestSavingOnAFullDisk(t *testing.T) {
	old, log := baseOf(3, someBank()), entry(4, put5)
	frame := baseOf(4, after(t, someBank(), put5))
	fresh := []impl.DOp{appended("base.new", frame), renamed("base.new", "base"), syncStep, removed("log"), syncStep}
	for _, a := range []impl.Act{act(impl.AcSave), act(impl.AcOpen), crashing(nil, 0)} {
		// The log is good for AcSave, and not good for the others.
		end := "x"
		if a.Kind == impl.AcSave {
			end = ""
		}
		d := fatDisk(len(frame)-1, "base", old, "log", log+end)
		refusedAt(t, d, a, d, syncStep)
		d = fatDisk(len(frame), "base", old, "log", log+end)
		actsBy(t, d, a, d, append([]impl.DOp{syncStep}, fresh...)...)
		// A base.new that goes first makes room; where it is too little, it is there again.
		d = fatDisk(len(frame)-5, "base", old, "base.new", "12345", "log", log+end)
		actsBy(t, d, a, d, append([]impl.DOp{syncStep, removed("base.new"), syncStep}, fresh...)...)
		d = fatDisk(len(frame)-5, "base", old, "base.new", "1234", "log", log+end)
		refusedAt(t, d, a, d, syncStep, removed("base.new"), syncStep)
		// There are too many files for one more.
		files := append(synced("base", old).Live, manyFiles(impl.MaxFiles-2)...)
		d = bothOf(append(files, impl.File{Name: "log", Data: log + end}))
		refusedAt(t, d, a, d, syncStep)
		d = bothOf(append(files[:impl.MaxFiles-2:impl.MaxFiles-2], impl.File{Name: "log", Data: log + end}))
		actsBy(t, d, a, d, append([]impl.DOp{syncStep}, fresh...)...)
	}
	// The first step of a save is a Sync, so that ops that are full do not hinder it.
	d := busyDisk(t, synced("base", old, "log", log), impl.MaxOps)
	actsBy(t, d, act(impl.AcSave), d, append([]impl.DOp{syncStep}, fresh...)...)
}

// What is refused behind Crash leaves what Crash left.
func TestCrashingToAFullDisk(t *testing.T) {
	old, log := baseOf(3, someBank()), entry(4, put5)
	left := fatDisk(20, "base", old, "log", log+"x")
	d := changed(t, left, removed("a"), appended("log", "y"), appended("b", "z"))
	refusedAt(t, d, crashing([]int64{2}, 0), fatDisk(20, "b", "", "base", old, "log", log+"x"), syncStep)
	refusedAt(t, d, crashing([]int64{1, 2}, 1), fatDisk(18, "b", "z", "base", old, "log", log+"xy"), syncStep)
	acts(t, d, crashing([]int64{0}, 0), impl.StOk)
}

func TestNewStoresOnAFullDisk(t *testing.T) {
	// Each file that goes is an op: with 198 of them the third one is refused.
	three := synced("a", "x", "b", "y", "c", "z")
	for ops := impl.MaxOps - 4; ops <= impl.MaxOps; ops++ {
		d := busyDisk(t, three, ops)
		gone := []impl.DOp{removed("a"), removed("b"), removed("c")}
		if ops <= impl.MaxOps-3 {
			frame := baseOf(0, impl.Bank{Day: 5})
			actsBy(t, d, newOn(5), d, append(gone, syncStep, appended("base.new", frame), renamed("base.new", "base"), syncStep)...)
			continue
		}
		refusedAt(t, d, newOn(5), d, gone[:impl.MaxOps-ops]...)
	}
	// A disk that is full of files or bytes has room when they have gone.
	acts(t, bothOf(manyFiles(impl.MaxFiles)), newOn(5), impl.StOk)
	acts(t, fatDisk(0), newOn(5), impl.StOk)
}

func wrongDisks() []impl.Disk {
	base := baseOf(3, someBank())
	return []impl.Disk{
		{Live: synced("base", base).Live}, {Safe: synced("base", base).Live}, bothOf([]impl.File{{Name: "log"}, {Name: "base", Data: base}}), bothOf([]impl.File{{Name: ""}, {Name: "base", Data: base}}),
		bothOf([]impl.File{{Name: "base", Data: base}, {Name: "base", Data: base}}), bothOf(append(synced("base", base).Live, manyFiles(impl.MaxFiles)...)), synced("base", base, "x", strings.Repeat("x", impl.MaxBytes)),
		{Live: synced("base", base).Live, Safe: synced("base", base).Live, Ops: []impl.DOp{{}}}, {Ops: []impl.DOp{removed("base")}}, {Live: synced("base", base).Live, Safe: synced("base", base).Live, Ops: slices.Repeat([]impl.DOp{renamed("base", "base")}, impl.MaxOps+1)},
	}
}

func TestActsOnWrongDisks(t *testing.T) {
	for _, d := range wrongDisks() {
		if impl.DiskOk(d) {
			t.Fatal(brief(d))
		}
		if b, n, code := impl.StoreView(d); code != impl.StDisk || n != 0 || !sameBank(b, impl.Bank{}) {
			t.Error(brief(d), b, n, code)
		}
		var list []impl.Act
		for kind := int64(-1); kind < 8; kind++ {
			for power := int64(-1); power < 2; power++ {
				a := impl.Act{Kind: kind, Day: 5, Op: dayEnd, Sync: true, Power: power}
				list = append(list, a)
				if e, code := impl.StoreDo(d, a); code != impl.StDisk || !sameDisk(e, impl.Disk{}) {
					t.Error(brief(d), a, brief(e), code)
				}
			}
		}
		for _, l := range [][]impl.Act{nil, list[:1], list} {
			if e, codes := impl.StorePlay(d, l); len(codes) != 0 || !sameDisk(e, impl.Disk{}) {
				t.Error(brief(d), brief(e), codes)
			}
		}
	}
}

func TestPlaying(t *testing.T) {
	list := []impl.Act{
		act(impl.AcSave), newOn(-1), newOn(3), newOn(3), logging(bankOp(op(impl.OpOpen, 1, 0, 5)), true), logging(opOf(t, put5), false), logging(opOf(t, "take 1 11"), false), logging(opOf(t, put7), false), {Kind: 9},
		crashing([]int64{2}, 0), crashing([]int64{0, 1}, 3), act(impl.AcOpen), logging(impl.BOp{}, true), logging(dayEnd, true), {Kind: impl.AcSave, Power: 3}, act(impl.AcOpen), act(impl.AcSave),
	}
	want := []int64{impl.StNone, impl.StForm, impl.StOk, impl.StForm, impl.StOk, impl.StOk, impl.StRefuse, impl.StOk, impl.StForm, impl.StForm, impl.StOk, impl.StOk, impl.StForm, impl.StOk, impl.StPower, impl.StOk, impl.StOk}
	d, codes := impl.StorePlay(impl.Disk{}, list)
	b := bankOf(4, root(1, 5, 5))
	if !slices.Equal(codes, want) || !sameDisk(d, synced("base", baseOf(3, b))) {
		t.Error(codes, brief(d))
	}
	views(t, d, b, 3)
	// Acts in two pieces are the same acts, and none at all leave the disk.
	for cut := range list {
		e, first := impl.StorePlay(impl.Disk{}, list[:cut])
		f, rest := impl.StorePlay(e, list[cut:])
		if !sameDisk(f, d) || !slices.Equal(append(first, rest...), codes) {
			t.Error(cut, first, rest)
		}
		if same, none := impl.StorePlay(e, nil); !sameDisk(same, e) || len(none) != 0 {
			t.Error(cut, brief(same), none)
		}
	}
	many := slices.Repeat([]impl.Act{act(impl.AcOpen), {}}, 300)
	if e, codes := impl.StorePlay(d, many); !sameDisk(e, d) || len(codes) != 600 || codes[0] != impl.StOk || codes[599] != impl.StForm {
		t.Error(brief(e), codes)
	}
}

// Promise 10: nothing is written into a disk or an act, or the room behind
// them; an answer shares no memory with them, and no two lists of it do.
func TestStoresAreLeftAlone(t *testing.T) {
	r := rand.New(rand.NewSource(25))
	for range 400 {
		d := anyStore(r)
		live, safe, ops := append(slices.Clone(d.Live), impl.File{Name: "y"}), append(slices.Clone(d.Safe), impl.File{Name: "y"}), append(slices.Clone(d.Ops), appended("y", "1"))
		d = impl.Disk{Live: live[:len(d.Live)], Safe: safe[:len(d.Safe)], Ops: ops[:len(d.Ops)]}
		same := clonedDisk(impl.Disk{Live: live, Safe: safe, Ops: ops})
		a := anyAct(r, d)
		keep := append(slices.Clone(a.Keep), 77)
		a.Keep = keep[:len(a.Keep)]
		sameKeep := slices.Clone(keep)
		answers := func() []impl.Disk {
			done, _ := impl.StoreDo(d, a)
			refused, _ := impl.StoreDo(d, impl.Act{})
			played, _ := impl.StorePlay(d, []impl.Act{a, act(impl.AcSave)})
			still, _ := impl.StorePlay(d, nil)
			return []impl.Disk{done, refused, played, still}
		}
		for i, e := range answers() {
			whole := clonedDisk(e)
			clear(e.Live[:cap(e.Live)])
			if !slices.Equal(e.Safe, whole.Safe) || !slices.Equal(e.Ops, whole.Ops) {
				t.Fatal("lists of one answer share memory", i, brief(d))
			}
			wipedDisk(e)
			if again := answers()[i]; !sameDisk(again, whole) {
				t.Fatal("another answer", i, brief(d), brief(again), brief(whole))
			}
		}
		b, n, code := impl.StoreView(d)
		first := cloned(b)
		wiped(b)
		if c, m, other := impl.StoreView(d); !sameBank(c, first) || m != n || other != code {
			t.Fatal("another answer", brief(d), c, first)
		}
		if !sameDisk(impl.Disk{Live: live, Safe: safe, Ops: ops}, same) || !slices.Equal(keep, sameKeep) {
			t.Fatal("written into", live, safe, ops, keep)
		}
		frames, _ := impl.TakeFrames(fileOf(d, "log"))
		clear(frames[:cap(frames)])
		if again, _ := impl.TakeFrames(fileOf(d, "log")); slices.Contains(again, "") && !strings.Contains(fileOf(d, "log"), framed("")) {
			t.Fatal("another answer", again)
		}
	}
}
