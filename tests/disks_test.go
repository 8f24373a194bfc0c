package tests

import (
	"maps"
	"math"
	"math/rand"
	"slices"
	"strconv"
	"strings"
	"testing"

	"loop.example/g00362/impl"
)

func appended(name, data string) impl.DOp {
	return impl.DOp{Kind: impl.DkAppend, Name: name, Data: data}
}

func renamed(name, to string) impl.DOp {
	return impl.DOp{Kind: impl.DkRename, Name: name, To: to}
}

func removed(name string) impl.DOp {
	return impl.DOp{Kind: impl.DkRemove, Name: name}
}

// synced is a disk with those files and no ops: names and data by turns.
func synced(files ...string) impl.Disk {
	var l []impl.File
	for i := 0; i < len(files); i += 2 {
		l = append(l, impl.File{Name: files[i], Data: files[i+1]})
	}
	return impl.Disk{Live: l, Safe: slices.Clone(l)}
}

func sameDisk(a, b impl.Disk) bool {
	return slices.Equal(a.Live, b.Live) && slices.Equal(a.Safe, b.Safe) && slices.Equal(a.Ops, b.Ops)
}

func clonedDisk(d impl.Disk) impl.Disk {
	return impl.Disk{Live: slices.Clone(d.Live), Safe: slices.Clone(d.Safe), Ops: slices.Clone(d.Ops)}
}

// brief keeps what a test tells of a disk short.
func brief(d impl.Disk) string {
	s := strconv.Quote(strings.Join([]string{listed(d.Live), listed(d.Safe), strconv.Itoa(len(d.Ops))}, " | "))
	return s[:min(len(s), 500)]
}

func listed(files []impl.File) string {
	s := strconv.Itoa(len(files)) + ":"
	for _, f := range files {
		s += " " + f.Name + "=" + f.Data[:min(len(f.Data), 20)]
	}
	return s
}

// changes asks for the code, of a refusal that the disk is as it was, and of
// what is done that it is seen and stands behind Ops.
func changes(t *testing.T, d impl.Disk, op impl.DOp, code int64) impl.Disk {
	t.Helper()
	e, got := impl.Do(d, op)
	if got != code {
		t.Errorf("%.200v on %s: code %d, want %d", op, brief(d), got, code)
	}
	if got != impl.DkOk && !sameDisk(d, e) {
		t.Errorf("%.200v refused with %d, and changed %s to %s", op, got, brief(d), brief(e))
	}
	if got == impl.DkOk && (!impl.DiskOk(e) || !slices.Equal(e.Safe, d.Safe) || !slices.Equal(e.Ops, append(slices.Clone(d.Ops), op))) {
		t.Errorf("%.200v on %s: %s", op, brief(d), brief(e))
	}
	return e
}

// changed asks for ops that are all done.
func changed(t *testing.T, d impl.Disk, ops ...impl.DOp) impl.Disk {
	t.Helper()
	for _, op := range ops {
		d = changes(t, d, op, impl.DkOk)
	}
	return d
}

// seen asks for the files that a disk has then: names and data by turns.
func seen(t *testing.T, d impl.Disk, files ...string) {
	t.Helper()
	want := synced(files...).Live
	if !slices.Equal(d.Live, want) {
		t.Errorf("%s seen, want %s", brief(d), listed(want))
	}
	for _, f := range want {
		if s, ok := impl.ReadFile(d, f.Name); !ok || s != f.Data {
			t.Errorf("%s: %q of %q, %v", brief(d), s, f.Name, ok)
		}
	}
}

// left asks for what a loss of power leaves: names and data by turns.
func left(t *testing.T, d impl.Disk, keep []int64, torn int64, files ...string) {
	t.Helper()
	c, ok := impl.Crash(d, keep, torn)
	if !ok || !sameDisk(c, synced(files...)) {
		t.Errorf("%s, kept %v, torn %d: %s %v", brief(d), keep, torn, brief(c), ok)
	}
}

func noCrash(t *testing.T, d impl.Disk, keep []int64, torn int64) {
	t.Helper()
	if c, ok := impl.Crash(d, keep, torn); ok || !sameDisk(c, impl.Disk{}) {
		t.Errorf("%s, kept %v, torn %d: %s %v", brief(d), keep, torn, brief(c), ok)
	}
}

// refusedDisk: nothing is told of a disk that is not right.
func refusedDisk(t *testing.T, d impl.Disk) {
	t.Helper()
	if impl.DiskOk(d) {
		t.Error("taken as right", brief(d))
	}
	for _, op := range []impl.DOp{appended("a", "x"), renamed("a", "b"), removed("a"), removed("none"), {}, appended("", "")} {
		if e, code := impl.Do(d, op); code != impl.DkDisk || !sameDisk(e, impl.Disk{}) {
			t.Error(brief(d), op, brief(e), code)
		}
	}
	if e := impl.Sync(d); !sameDisk(e, impl.Disk{}) {
		t.Error(brief(d), brief(e))
	}
	noCrash(t, d, nil, 0)
	noCrash(t, d, []int64{0}, 9)
	for _, name := range []string{"a", "b", "none", ""} {
		if s, ok := impl.ReadFile(d, name); ok || s != "" {
			t.Error(brief(d), name, s, ok)
		}
		if e, code := impl.Replace(d, name, "x"); code != impl.DkDisk || !sameDisk(e, impl.Disk{}) {
			t.Error(brief(d), name, brief(e), code)
		}
	}
}

func acceptedDisk(t *testing.T, d impl.Disk) {
	t.Helper()
	if !impl.DiskOk(d) {
		t.Error("not taken as right", brief(d))
	}
	if e := impl.Sync(d); !sameDisk(e, impl.Disk{Live: d.Live, Safe: d.Live}) {
		t.Error(brief(d), brief(e))
	}
}

// manyFiles have no Data; their names rise.
func manyFiles(n int) []impl.File {
	var l []impl.File
	for i := range n {
		l = append(l, impl.File{Name: "f" + strconv.Itoa(1000+i)})
	}
	return l
}

func bothOf(files []impl.File) impl.Disk {
	return impl.Disk{Live: files, Safe: slices.Clone(files)}
}

func TestFilesOfDisks(t *testing.T) {
	long := strings.Repeat("n", 100)
	acceptedDisk(t, impl.Disk{})
	acceptedDisk(t, synced("a", "x"))
	acceptedDisk(t, synced("A", "", "a", "x", "b", "y"))
	// Names are bytes: a longer one is behind its beginning, 255 is the last byte.
	acceptedDisk(t, synced("\x00", "\xff", "\n", "", " ", "", "a", "", "a\x00", "", "aa", "", "a\xff", "", "b", "", "\xff", ""))
	acceptedDisk(t, synced(long, "x", "o", ""))
	acceptedDisk(t, bothOf(manyFiles(impl.MaxFiles)))
	acceptedDisk(t, synced("a", strings.Repeat("x", impl.MaxBytes)))
	acceptedDisk(t, synced("a", strings.Repeat("x", impl.MaxBytes-3), "b", "", "c", "yyy"))
	for _, files := range [][]impl.File{
		{{Name: ""}}, {{Name: "", Data: "x"}, {Name: "a"}}, {{Name: long + "n"}}, {{Name: "a"}, {Name: "a"}}, {{Name: "b"}, {Name: "a"}}, {{Name: "a"}, {Name: "c"}, {Name: "b"}}, {{Name: "a\x00"}, {Name: "a"}}, {{Name: "\xff"}, {Name: "a"}},
		manyFiles(impl.MaxFiles + 1), {{Name: "a", Data: strings.Repeat("x", impl.MaxBytes+1)}}, {{Name: "a", Data: strings.Repeat("x", impl.MaxBytes-2)}, {Name: "b"}, {Name: "c", Data: "yyy"}},
	} {
		refusedDisk(t, bothOf(files))
		refusedDisk(t, impl.Disk{Live: files})
		refusedDisk(t, impl.Disk{Safe: files})
		// Safe is not right, though Ops make a Live of it that is.
		var gone []impl.DOp
		for name := range byName(files) {
			gone = append(gone, removed(name))
		}
		refusedDisk(t, impl.Disk{Safe: files, Ops: gone})
	}
	refusedDisk(t, impl.Disk{Live: synced("a", "x").Live, Safe: []impl.File{{Name: "a", Data: "y"}, {Name: "a", Data: "x"}}})
	refusedDisk(t, impl.Disk{Live: synced("a", "x", "b", "").Live, Safe: []impl.File{{Name: "b"}, {Name: "a", Data: "x"}}})
}

// A disk whose Ops, done on Safe, do not make Live is not right.
func TestOpsOfDisks(t *testing.T) {
	a, b := impl.File{Name: "a", Data: "x"}, impl.File{Name: "b", Data: "x"}
	one := func(f ...impl.File) []impl.File { return f }
	acceptedDisk(t, impl.Disk{Live: one(a), Ops: []impl.DOp{appended("a", "x")}})
	acceptedDisk(t, impl.Disk{Live: one(b), Safe: one(a), Ops: []impl.DOp{renamed("a", "b")}})
	acceptedDisk(t, impl.Disk{Safe: one(a), Ops: []impl.DOp{removed("a")}})
	acceptedDisk(t, impl.Disk{Live: one(a), Safe: one(a), Ops: []impl.DOp{removed("a"), appended("a", ""), appended("a", "x")}})
	for _, d := range []impl.Disk{
		{Live: one(a)}, {Safe: one(a)}, {Live: one(a), Safe: one(b)}, {Live: one(a, b), Safe: one(a)}, {Live: one(a), Safe: one(a, b)}, {Live: one(a), Safe: one(impl.File{Name: "a", Data: "y"})},
		{Live: one(a), Ops: []impl.DOp{appended("a", "y")}}, {Live: one(a), Ops: []impl.DOp{appended("b", "x")}}, {Live: one(a), Ops: []impl.DOp{appended("a", "")}}, {Ops: []impl.DOp{appended("a", "")}},
		{Live: one(a), Safe: one(a), Ops: []impl.DOp{appended("a", "x")}}, {Live: one(a), Safe: one(a), Ops: []impl.DOp{removed("a")}}, {Live: one(a), Safe: one(a), Ops: []impl.DOp{renamed("a", "b")}},
		{Live: one(b), Safe: one(a), Ops: []impl.DOp{renamed("b", "a")}}, {Live: one(a), Safe: one(a), Ops: []impl.DOp{renamed("b", "a"), appended("a", "")}}, {Live: one(a, b), Safe: one(a), Ops: []impl.DOp{renamed("a", "b")}},
		// Ops that do not find their file, or are not of their form, though Live is as if they had done nothing.
		{Ops: []impl.DOp{removed("a")}}, {Ops: []impl.DOp{renamed("a", "b")}}, {Ops: []impl.DOp{renamed("a", "a")}}, {Live: one(a), Safe: one(a), Ops: []impl.DOp{removed("b")}}, {Live: one(a), Safe: one(a), Ops: []impl.DOp{renamed("b", "a")}},
		{Ops: []impl.DOp{{}}}, {Ops: []impl.DOp{{Kind: 4, Name: "a"}}}, {Live: one(a), Ops: []impl.DOp{{Kind: impl.DkAppend, Name: "a", Data: "x", To: "b"}}}, {Safe: one(a), Ops: []impl.DOp{{Kind: impl.DkRemove, Name: "a", Data: "x"}}},
		{Safe: one(a), Ops: []impl.DOp{{Kind: impl.DkRemove, Name: "a", To: "a"}}}, {Live: one(b), Safe: one(a), Ops: []impl.DOp{{Kind: impl.DkRename, Name: "a", To: "b", Data: "x"}}},
		{Live: one(a), Safe: one(a), Ops: []impl.DOp{appended("", "x"), removed("")}}, {Live: one(a), Safe: one(a), Ops: []impl.DOp{appended(strings.Repeat("n", 101), "x"), removed(strings.Repeat("n", 101))}},
	} {
		refusedDisk(t, d)
	}
}

// Each op leaves files that are so, even where the next one would mend it.
func TestOpsThatLeaveTooMuch(t *testing.T) {
	full := bothOf(manyFiles(impl.MaxFiles))
	full.Ops = []impl.DOp{appended("z", ""), removed("z")}
	refusedDisk(t, full)
	full.Ops = []impl.DOp{removed("f1000"), appended("z", ""), removed("z"), appended("f1000", "")}
	acceptedDisk(t, full)
	heavy := synced("a", strings.Repeat("x", impl.MaxBytes))
	heavy.Ops = []impl.DOp{appended("z", "x"), removed("z")}
	refusedDisk(t, heavy)
	heavy.Ops = []impl.DOp{appended("z", ""), removed("z")}
	acceptedDisk(t, heavy)
	refusedDisk(t, impl.Disk{Ops: []impl.DOp{appended("z", strings.Repeat("x", impl.MaxBytes+1)), removed("z")}})
	most := impl.Disk{Live: []impl.File{{Name: "a"}}, Ops: slices.Repeat([]impl.DOp{appended("a", "")}, impl.MaxOps)}
	acceptedDisk(t, most)
	most.Ops = append(most.Ops, appended("a", ""))
	refusedDisk(t, most)
	refusedDisk(t, impl.Disk{Live: []impl.File{{Name: "a"}}, Ops: slices.Repeat([]impl.DOp{appended("a", "")}, 10000)})
}

func TestFormsOfDiskOps(t *testing.T) {
	d := synced("a", "x", "b", "y")
	name := func(n int) string { return strings.Repeat("n", n) }
	for _, n := range []int{1, 100} {
		seen(t, changed(t, synced(), appended(name(n), "z")), name(n), "z")
		e := changed(t, d, renamed("a", name(n)), appended(name(n), "z"), renamed(name(n), "c"), renamed("c", name(n)), removed(name(n)))
		seen(t, e, "b", "y")
	}
	for _, n := range []int{0, 101, 1000} {
		for _, op := range []impl.DOp{appended(name(n), "z"), appended(name(n), ""), renamed(name(n), "c"), renamed("a", name(n)), renamed("none", name(n)), renamed(name(n), name(n)), removed(name(n))} {
			changes(t, d, op, impl.DkForm)
		}
	}
	for _, kind := range []int64{0, 4, -1, math.MinInt64, math.MaxInt64} {
		changes(t, d, impl.DOp{Kind: kind, Name: "a"}, impl.DkForm)
		changes(t, d, impl.DOp{Kind: kind, Name: "a", To: "c"}, impl.DkForm)
		changes(t, d, impl.DOp{Kind: kind}, impl.DkForm)
	}
	// Fields that a Kind does not name and that are not empty.
	for _, op := range []impl.DOp{
		{Kind: impl.DkAppend, Name: "a", To: "c", Data: "z"}, {Kind: impl.DkAppend, Name: "a", To: "a"}, {Kind: impl.DkRename, Name: "a", To: "c", Data: "z"}, {Kind: impl.DkRename, Name: "none", To: "c", Data: "z"},
		{Kind: impl.DkRemove, Name: "a", Data: "x"}, {Kind: impl.DkRemove, Name: "a", To: "a"}, {Kind: impl.DkRemove, Name: "none", To: "a", Data: "x"},
	} {
		changes(t, d, op, impl.DkForm)
	}
}

func TestDoing(t *testing.T) {
	d := synced("a", "x", "b", "y")
	seen(t, changed(t, d, appended("a", "zz")), "a", "xzz", "b", "y")
	seen(t, changed(t, d, appended("a", "")), "a", "x", "b", "y")
	seen(t, changed(t, d, appended("aa", "z")), "a", "x", "aa", "z", "b", "y")
	seen(t, changed(t, d, appended("c", "")), "a", "x", "b", "y", "c", "")
	seen(t, changed(t, d, appended("0", ""), appended("0", "\x00\n")), "0", "\x00\n", "a", "x", "b", "y")
	seen(t, changed(t, d, renamed("a", "a")), "a", "x", "b", "y")
	seen(t, changed(t, d, renamed("a", "b")), "b", "x")
	seen(t, changed(t, d, renamed("b", "a")), "a", "y")
	seen(t, changed(t, d, renamed("a", "c")), "b", "y", "c", "x")
	seen(t, changed(t, d, removed("a")), "b", "y")
	seen(t, changed(t, d, removed("a"), removed("b")))
	seen(t, changed(t, d, removed("a"), appended("a", "new")), "a", "new", "b", "y")
	seen(t, changed(t, d, renamed("a", "c"), appended("a", "new"), appended("c", "z")), "a", "new", "b", "y", "c", "xz")
	for _, op := range []impl.DOp{renamed("c", "a"), renamed("c", "c"), renamed("c", "d"), removed("c"), removed("A"), removed("a "), renamed("aa", "a")} {
		changes(t, d, op, impl.DkNone)
	}
	changes(t, changed(t, d, removed("a")), removed("a"), impl.DkNone)
	changes(t, changed(t, d, renamed("a", "c")), renamed("a", "d"), impl.DkNone)
	for _, name := range []string{"c", "", "A", "ab", "a\x00", strings.Repeat("n", 101)} {
		if s, ok := impl.ReadFile(d, name); ok || s != "" {
			t.Error(name, s, ok)
		}
	}
	// What is not synced is read too, and what is only synced is not.
	e := changed(t, d, removed("a"), appended("c", "z"))
	if s, ok := impl.ReadFile(e, "a"); ok || s != "" {
		t.Error(s)
	}
	seen(t, e, "b", "y", "c", "z")
	if f := impl.Sync(e); !sameDisk(f, synced("b", "y", "c", "z")) {
		t.Error(brief(f))
	}
}

func TestFullDisks(t *testing.T) {
	d := bothOf(manyFiles(impl.MaxFiles))
	for _, op := range []impl.DOp{appended("g", ""), appended("g", "x")} {
		changes(t, d, op, impl.DkFull)
		changed(t, bothOf(manyFiles(impl.MaxFiles-1)), op)
		changed(t, d, removed("f1007"), op)
	}
	changed(t, d, appended("f1007", "x"), renamed("f1007", "g"), renamed("g", "f1008"), appended("h", "x"))
	d = synced("a", strings.Repeat("x", impl.MaxBytes-3), "b", "y")
	for _, name := range []string{"a", "b", "c"} {
		changes(t, d, appended(name, "123"), impl.DkFull)
		changes(t, changed(t, d, appended(name, "12")), appended("b", "1"), impl.DkFull)
		changed(t, d, appended(name, "12"), appended(name, ""), appended("e", ""), renamed("a", "g"))
		changed(t, d, removed("a"), appended(name, strings.Repeat("z", impl.MaxBytes-1)))
	}
	changes(t, d, appended("c", strings.Repeat("z", 2*impl.MaxBytes)), impl.DkFull)
	changes(t, synced(), appended("c", strings.Repeat("z", impl.MaxBytes+1)), impl.DkFull)
	changed(t, synced(), appended("c", strings.Repeat("z", impl.MaxBytes)))
	// Ops are full: what is not of its form or finds no file is told ahead of that.
	d = synced("a", "x", "b", "y")
	for range impl.MaxOps - 1 {
		d, _ = impl.Do(d, renamed("a", "a"))
	}
	for _, last := range []impl.DOp{appended("a", "z"), renamed("a", "c"), renamed("a", "a"), removed("b")} {
		full := changed(t, d, last)
		if len(full.Ops) != impl.MaxOps {
			t.Error(len(full.Ops))
		}
		for _, op := range []impl.DOp{appended("c", ""), appended("c", "z"), renamed(full.Live[0].Name, "e"), removed(full.Live[0].Name)} {
			changes(t, full, op, impl.DkFull)
			changed(t, impl.Sync(full), op)
		}
		changes(t, full, removed("none"), impl.DkNone)
		changes(t, full, renamed("none", "a"), impl.DkNone)
		changes(t, full, appended("", ""), impl.DkForm)
		changes(t, full, impl.DOp{Kind: impl.DkRemove, Name: "none", To: "a"}, impl.DkForm)
	}
}

func TestWhatALossOfPowerLeaves(t *testing.T) {
	d := changed(t, synced("a", "x", "b", "y"), appended("a", "12345"), appended("c", "678"), renamed("c", "b"), removed("a"))
	left(t, d, nil, 0, "a", "x", "b", "y")
	left(t, d, nil, 7, "a", "x", "b", "y")
	left(t, d, []int64{0, 1, 2, 3}, 0, "b", "678")
	left(t, d, []int64{0, 1, 2}, 0, "a", "x12345", "b", "678")
	// The last one of keep is torn, and only where it is a DkAppend.
	for torn, data := range []string{"x", "x1", "x12", "x123", "x1234", "x12345", "x12345", "x12345"} {
		left(t, d, []int64{0}, int64(torn), "a", data, "b", "y")
	}
	left(t, d, []int64{0}, math.MaxInt64, "a", "x12345", "b", "y")
	left(t, d, []int64{1}, 0, "a", "x", "b", "y", "c", "")
	left(t, d, []int64{0, 1}, 2, "a", "x12345", "b", "y", "c", "67")
	left(t, d, []int64{0, 2}, 2, "a", "x12345", "b", "y")
	left(t, d, []int64{0, 3}, 2, "b", "y")
	left(t, d, []int64{1, 2}, 0, "a", "x", "b", "678")
	left(t, d, []int64{1, 3}, 0, "b", "y", "c", "678")
	// A rename whose file was not kept does nothing, to the one of the new name too.
	left(t, d, []int64{2}, 0, "a", "x", "b", "y")
	left(t, d, []int64{2, 3}, 0, "b", "y")
	// A removal that finds no file, and an append to one that was not renamed.
	e := changed(t, synced("a", "x"), appended("b", "1"), removed("b"), renamed("a", "c"), appended("c", "2"), appended("c", ""))
	left(t, e, []int64{1}, 5, "a", "x")
	left(t, e, []int64{1, 2}, 5, "c", "x")
	left(t, e, []int64{3}, 5, "a", "x", "c", "2")
	left(t, e, []int64{4}, 5, "a", "x", "c", "")
	left(t, e, []int64{3, 4}, 0, "a", "x", "c", "2")
	left(t, e, []int64{0, 2, 3}, 0, "b", "1", "c", "x")
	f := changed(t, synced("a", "x"), renamed("a", "a"), removed("a"))
	left(t, f, []int64{0}, 0, "a", "x")
	left(t, f, []int64{1}, 0)
	left(t, impl.Disk{}, nil, 3)
}

func TestCrashesThatAreRefused(t *testing.T) {
	d := changed(t, synced("a", "x"), appended("a", "12345"), renamed("a", "b"), appended("c", "678"))
	for _, keep := range [][]int64{{-1}, {3}, {0, 3}, {-1, 0}, {0, 0}, {1, 0}, {0, 2, 1}, {0, 1, 1}, {0, 1, 2, 3}, {0, 1, 2, 2}, {2, 1, 0}, {math.MinInt64}, {math.MaxInt64}, {0, math.MaxInt64}, {1 << 32}} {
		noCrash(t, d, keep, 0)
		noCrash(t, d, keep, 9)
	}
	for _, torn := range []int64{-1, math.MinInt64} {
		for _, keep := range [][]int64{nil, {0}, {1}, {0, 1, 2}} {
			noCrash(t, d, keep, torn)
		}
	}
	noCrash(t, impl.Disk{}, []int64{0}, 0)
	noCrash(t, synced("a", "x"), []int64{0}, 0)
}

// Too much may be there between two of the ops that are kept, but not at the end.
func TestCrashesThatLeaveTooMuch(t *testing.T) {
	const most = impl.MaxBytes
	data := strings.Repeat("z", most-10)
	d := changed(t, synced("k", "12345"), appended("a", data), removed("a"), appended("b", data), renamed("b", "c"), removed("c"))
	left(t, d, []int64{0, 1, 2}, most, "b", data, "k", "12345")
	noCrash(t, d, []int64{0, 2}, most)
	noCrash(t, d, []int64{0, 2}, 6)
	left(t, d, []int64{0, 2}, 5, "a", data, "b", "zzzzz", "k", "12345")
	noCrash(t, d, []int64{0, 2, 3}, 5)
	left(t, d, []int64{0, 2, 3, 4}, 0, "a", data, "k", "12345")
	files := bothOf(manyFiles(impl.MaxFiles - 1))
	e := changed(t, files, appended("y", ""), removed("y"), appended("z", ""), removed("z"))
	noCrash(t, e, []int64{0, 2}, 0)
	for _, keep := range [][]int64{{0}, {2}, {0, 1, 2}, {0, 2, 3}} {
		if c, ok := impl.Crash(e, keep, 0); !ok || len(c.Live) != impl.MaxFiles {
			t.Error(keep, brief(c), ok)
		}
	}
}

// putInstead asks for the code of a Replace, and of a refusal that the disk is as it was.
func putInstead(t *testing.T, d impl.Disk, name, data string, code int64) impl.Disk {
	t.Helper()
	e, got := impl.Replace(d, name, data)
	if got != code {
		t.Errorf("%.120q replaced on %s: code %d, want %d", name, brief(d), got, code)
	}
	if got != impl.DkOk && !sameDisk(d, e) {
		t.Errorf("%.120q refused with %d, and changed %s to %s", name, got, brief(d), brief(e))
	}
	return e
}

func TestReplacing(t *testing.T) {
	d := synced("a", "x", "b", "y")
	e := putInstead(t, d, "a", "new", impl.DkOk)
	seen(t, e, "a", "new", "b", "y")
	if want := []impl.DOp{appended("a.new", "new"), renamed("a.new", "a")}; !slices.Equal(e.Ops, want) || !slices.Equal(e.Safe, d.Safe) {
		t.Error(e)
	}
	// Behind other ops; twice; a file that was not there; of no bytes; with ".new" in its name.
	seen(t, putInstead(t, changed(t, d, removed("a")), "a", "new", impl.DkOk), "a", "new", "b", "y")
	seen(t, putInstead(t, e, "a", "newer", impl.DkOk), "a", "newer", "b", "y")
	seen(t, putInstead(t, d, "c", "new", impl.DkOk), "a", "x", "b", "y", "c", "new")
	seen(t, putInstead(t, d, "a", "", impl.DkOk), "a", "", "b", "y")
	seen(t, putInstead(t, d, "a.new", "z", impl.DkOk), "a", "x", "a.new", "z", "b", "y")
	seen(t, putInstead(t, impl.Disk{}, "a", "z", impl.DkOk), "a", "z")
	// There is a file of name and ".new" together: it goes first.
	f := synced("a", "x", "a.new", "old", "b", "y")
	e = putInstead(t, f, "a", "new", impl.DkOk)
	seen(t, e, "a", "new", "b", "y")
	if want := []impl.DOp{removed("a.new"), appended("a.new", "new"), renamed("a.new", "a")}; !slices.Equal(e.Ops, want) {
		t.Error(e)
	}
	// Such a file that is only synced, and one that is only seen.
	seen(t, putInstead(t, changed(t, f, removed("a.new")), "a", "new", impl.DkOk), "a", "new", "b", "y")
	if e = putInstead(t, changed(t, d, appended("a.new", "old")), "a", "new", impl.DkOk); len(e.Ops) != 4 {
		t.Error(e)
	}
	seen(t, e, "a", "new", "b", "y")
}

// One of its three Do is refused: the disk is as it was ahead of all of them.
func TestReplacesThatAreRefused(t *testing.T) {
	name := func(n int) string { return strings.Repeat("n", n) }
	d, f := synced("a", "x", "b", "y"), synced(".new", "old", "a", "x", "a.new", "old")
	putInstead(t, d, name(96), "new", impl.DkOk)
	for _, n := range []int{97, 100, 101, 300} {
		putInstead(t, d, name(n), "new", impl.DkForm)
	}
	putInstead(t, d, "", "new", impl.DkForm)
	putInstead(t, f, "", "new", impl.DkForm)
	busy := func(d impl.Disk, ops int) impl.Disk {
		for range ops {
			d, _ = impl.Do(d, renamed("a", "a"))
		}
		return d
	}
	for ops, code := range map[int]int64{197: impl.DkOk, 198: impl.DkOk, 199: impl.DkFull, 200: impl.DkFull} {
		putInstead(t, busy(d, ops), "a", "new", code)
	}
	for ops, code := range map[int]int64{196: impl.DkOk, 197: impl.DkOk, 198: impl.DkFull, 199: impl.DkFull, 200: impl.DkFull} {
		putInstead(t, busy(f, ops), "a", "new", code)
	}
	// Both the old one and the new one must have room.
	heavy := synced("a", strings.Repeat("x", impl.MaxBytes-5), "b", "y")
	putInstead(t, heavy, "a", "1234", impl.DkOk)
	putInstead(t, heavy, "a", "12345", impl.DkFull)
	heavy = synced("a", strings.Repeat("x", impl.MaxBytes-5), "a.new", "yyyyy")
	putInstead(t, heavy, "a", "12345", impl.DkOk)
	putInstead(t, heavy, "a", "123456", impl.DkFull)
	putInstead(t, heavy, "b", "", impl.DkOk)
	putInstead(t, heavy, "b", "1", impl.DkFull)
	full := bothOf(manyFiles(impl.MaxFiles))
	putInstead(t, full, "f1000", "1", impl.DkFull)
	putInstead(t, bothOf(full.Live[1:]), "f1001", "1", impl.DkOk)
	full = bothOf(append(slices.Clone(full.Live[1:]), impl.File{Name: "f1059.new"}))
	putInstead(t, full, "f1059", "1", impl.DkOk)
	putInstead(t, full, "f1058", "1", impl.DkFull)
}

// keeps are all the ways to keep some of so many ops.
func keeps(ops int) [][]int64 {
	var all [][]int64
	for set := range 1 << ops {
		var keep []int64
		for i := range ops {
			if set>>i&1 == 1 {
				keep = append(keep, int64(i))
			}
		}
		all = append(all, keep)
	}
	return all
}

// Promise 7: a file that is replaced on a synced disk is the old one or the new one, whichever ops are kept.
func TestWhatIsReplacedIsTheOldOrTheNew(t *testing.T) {
	r := rand.New(rand.NewSource(20))
	olds, news := 0, 0
	for range 500 {
		d := impl.Sync(anyDisk(r))
		name := string("abcd"[r.Intn(4)])
		if _, there := impl.ReadFile(d, name+".new"); there {
			continue
		}
		data := strings.Repeat("n", r.Intn(5)) + "!"
		old, there := impl.ReadFile(d, name)
		e := putInstead(t, d, name, data, impl.DkOk)
		for _, keep := range keeps(len(e.Ops)) {
			for torn := range int64(len(data) + 2) {
				c, ok := impl.Crash(e, keep, torn)
				got, has := impl.ReadFile(c, name)
				isOld, isNew := got == old && has == there, got == data && has
				if !ok || !isOld && !isNew || len(keep) == 2 && !isNew || len(keep) == 0 && !isOld {
					t.Fatal(e, keep, torn, c)
				}
				if isNew {
					news++
				} else {
					olds++
				}
			}
		}
	}
	if olds < 1000 || news < 500 {
		t.Error("too few old or new ones", olds, news)
	}
}

// anyChange has few names, so that most find a file, and some do not.
func anyChange(r *rand.Rand) impl.DOp {
	names := []string{"a", "b", "c", "d", "a.new", "b.new"}
	name, to := names[r.Intn(len(names))], names[r.Intn(len(names))]
	op := []impl.DOp{appended(name, "0123456789"[:r.Intn(11)]), appended(name, "abc"), renamed(name, to), removed(name)}[r.Intn(4)]
	if r.Intn(25) == 0 {
		op.To += "x"
	}
	return op
}

func anyDisk(r *rand.Rand) impl.Disk {
	var d impl.Disk
	for range r.Intn(20) {
		d, _ = impl.Do(d, anyChange(r))
		if r.Intn(6) == 0 {
			d = impl.Sync(d)
		}
	}
	return d
}

// changedFiles does an op of its form on files by their names; false where it finds none.
func changedFiles(files map[string]string, op impl.DOp) bool {
	data, there := files[op.Name]
	if op.Kind == impl.DkAppend {
		files[op.Name] = data + op.Data
		return true
	}
	if there {
		delete(files, op.Name)
	}
	if there && op.Kind == impl.DkRename {
		files[op.To] = data
	}
	return there
}

func byName(files []impl.File) map[string]string {
	m := map[string]string{}
	for _, f := range files {
		m[f.Name] = f.Data
	}
	return m
}

func inOrder(files map[string]string) []impl.File {
	var l []impl.File
	for _, name := range slices.Sorted(maps.Keys(files)) {
		l = append(l, impl.File{Name: name, Data: files[name]})
	}
	return l
}

// Promise 7: what is done is seen; what a refused op leaves is what there was.
func TestWhatIsDoneIsSeen(t *testing.T) {
	r := rand.New(rand.NewSource(21))
	codes := map[int64]int{}
	for range 300 {
		var d impl.Disk
		for range 40 {
			op := anyChange(r)
			want := impl.Disk{Safe: d.Safe, Ops: append(slices.Clone(d.Ops), op)}
			files, code := byName(d.Live), int64(impl.DkOk)
			if op.Kind != impl.DkRename && op.To != "" {
				code = impl.DkForm
			} else if !changedFiles(files, op) {
				code = impl.DkNone
			}
			if want.Live = inOrder(files); code != impl.DkOk {
				want = d
			}
			e, got := impl.Do(d, op)
			if got != code || !sameDisk(e, want) || !impl.DiskOk(e) {
				t.Fatal(d, op, got, e, code, want)
			}
			codes[code]++
			if d = e; r.Intn(9) == 0 {
				d = impl.Sync(e)
				if !sameDisk(d, impl.Disk{Live: e.Live, Safe: e.Live}) {
					t.Fatal(e, d)
				}
			}
		}
	}
	if codes[impl.DkOk] < 3000 || codes[impl.DkNone] < 1000 || codes[impl.DkForm] < 200 {
		t.Error("too few of a code", codes)
	}
}

// Promise 7: when all ops are kept, whole, Crash leaves what was seen, when
// none is, what was synced; of others what those that are kept make.
func TestWhateverIsKept(t *testing.T) {
	r := rand.New(rand.NewSource(22))
	whole, part := 0, 0
	for range 300 {
		d := anyDisk(r)
		if len(d.Ops) > 8 {
			continue
		}
		for _, keep := range keeps(len(d.Ops)) {
			torn := int64(r.Intn(12))
			files := byName(d.Safe)
			for i, place := range keep {
				op := d.Ops[place]
				if i == len(keep)-1 && torn < int64(len(op.Data)) {
					op.Data = op.Data[:torn]
					part++
				}
				changedFiles(files, op)
			}
			c, ok := impl.Crash(d, keep, torn)
			if want := inOrder(files); !ok || !sameDisk(c, impl.Disk{Live: want, Safe: want}) || !impl.DiskOk(c) {
				t.Fatal(d, keep, torn, c, want)
			}
			if len(keep) == 0 && !slices.Equal(c.Live, d.Safe) {
				t.Fatal(d, keep, torn, c)
			}
			if len(keep) == len(d.Ops) {
				whole++
				if e, ok := impl.Crash(d, keep, 10); !ok || !sameDisk(e, impl.Sync(d)) {
					t.Fatal(d, keep, e)
				}
			}
		}
	}
	if whole < 150 || part < 500 {
		t.Error("too few whole or torn", whole, part)
	}
}

func wipedDisk(d impl.Disk) {
	clear(d.Live[:cap(d.Live)])
	clear(d.Safe[:cap(d.Safe)])
	clear(d.Ops[:cap(d.Ops)])
}

// Nothing is written into a disk, the places that are kept, or the room behind
// them; no two lists of an answer share memory, nor does it with the disk.
func TestDisksAreLeftAlone(t *testing.T) {
	r := rand.New(rand.NewSource(23))
	for range 300 {
		d := anyDisk(r)
		live, safe, ops := append(d.Live, impl.File{Name: "y"}, impl.File{Name: "z"}), append(d.Safe, impl.File{Name: "y"}, impl.File{Name: "z"}), append(d.Ops, appended("y", "1"), appended("z", "2"))
		d = impl.Disk{Live: live[:len(d.Live)], Safe: safe[:len(d.Safe)], Ops: ops[:len(d.Ops)]}
		same := clonedDisk(impl.Disk{Live: live, Safe: safe, Ops: ops})
		places := []int64{0, 1, 2, 3, 4, 5, 6, 7, 8, 9, 10, 11, 12, 13, 14, 15, 16, 17, 18, 19, 20}
		keep := places[:len(d.Ops)]
		op := anyChange(r)
		answers := func() []impl.Disk {
			done, _ := impl.Do(d, op)
			refused, _ := impl.Do(d, impl.DOp{})
			crashed, _ := impl.Crash(d, keep, 1)
			replaced, _ := impl.Replace(d, "a", "new")
			kept, _ := impl.Replace(d, "", "new")
			return []impl.Disk{done, refused, impl.Sync(d), crashed, replaced, kept}
		}
		first := answers()
		for i, e := range first {
			whole := clonedDisk(e)
			clear(e.Live[:cap(e.Live)])
			if !slices.Equal(e.Safe, whole.Safe) || !slices.Equal(e.Ops, whole.Ops) {
				t.Fatal("lists of one answer share memory", i, d)
			}
			wipedDisk(e)
			if again := answers()[i]; !sameDisk(again, whole) {
				t.Fatal("another answer", i, d, again, whole)
			}
		}
		if !sameDisk(impl.Disk{Live: live, Safe: safe, Ops: ops}, same) || places[len(keep)] != int64(len(keep)) {
			t.Fatal("written into", live, safe, ops, places)
		}
	}
}
