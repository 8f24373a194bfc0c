package tests

import (
	"fmt"
	"math/rand"
	"regexp"
	"slices"
	"strconv"
	"strings"
	"testing"

	"loop.example/g00362/impl"
)

var wordAndNumbers = regexp.MustCompile(`^(new|save|open|crash|show|sum|today)((?: (?:0|[1-9][0-9]{0,15}))*)$`)

func actSays(d impl.Disk, a impl.Act) (impl.Disk, string) {
	e, code := actedAs(d, a)
	switch code {
	case impl.StOk:
		return e, "ok"
	case impl.StRefuse:
		b, _, _, _ := viewOf(d)
		_, code = ranAs(b, a.Op)
		return e, fmt.Sprintf("not %d", code)
	}
	return e, fmt.Sprintf("no %d", code)
}

func todayOf(b impl.Bank, number int64) string {
	return fmt.Sprintf("today %s %d %d %d %d %d", dateAndWeekday(b.Day), b.In, b.Out, b.Posted, b.Missed, number)
}

func sumsOf(f []impl.Account, id int64) string {
	room := int64(impl.MaxSum)
	for _, up := range climbed(f, id) {
		if i := slices.IndexFunc(f, func(a impl.Account) bool { return a.Id == up }); f[i].Limit != -1 {
			room = min(room, sums(f)[up]+f[i].Limit)
		}
	}
	return fmt.Sprintf("sum %d %d", sums(f)[id], room)
}

func askedOf(d impl.Disk, word string, id int64) string {
	b, number, _, code := viewOf(d)
	if code != impl.StOk {
		return "no bank"
	}
	if word == "today" {
		return todayOf(b, number)
	}
	i := slices.IndexFunc(b.Forest, func(a impl.Account) bool { return a.Id == id })
	if i < 0 {
		return "no"
	}
	if word == "sum" {
		return sumsOf(b.Forest, id)
	}
	a := b.Forest[i]
	return fmt.Sprintf("show %d %d %d %d", a.Up, a.Balance, a.Limit, map[bool]int{true: 1}[a.Frozen])
}

// lineSays is a second reckoning of one line: the disk behind it and its answer.
func lineSays(d impl.Disk, line string) (impl.Disk, string) {
	if o, ok := looseOp(strings.TrimPrefix(line, "sync ")); ok {
		return actSays(d, logging(o, strings.HasPrefix(line, "sync ")))
	}
	m := wordAndNumbers.FindStringSubmatch(line)
	if m == nil {
		return d, "what"
	}
	words := strings.Split(m[2], " ")
	n := looseNumbers(words, max(2, len(words)-1))
	power := int64(-1)
	if len(words) > 1 {
		power = n[0]
	}
	switch fmt.Sprint(m[1], " ", len(words)-1) {
	case "new 1":
		return actSays(d, newOn(n[0]))
	case "save 0", "save 1":
		return actSays(d, impl.Act{Kind: impl.AcSave, Power: power})
	case "open 0", "open 1":
		return actSays(d, impl.Act{Kind: impl.AcOpen, Power: power})
	case "crash 2":
		var keep []int64
		for i := range d.Ops {
			if int64(i) < n[0] {
				keep = append(keep, int64(i))
			}
		}
		return actSays(d, crashing(keep, n[1]))
	case "show 1", "sum 1", "today 0":
		return d, askedOf(d, m[1], n[0])
	}
	return d, "what"
}

// scriptSays is a second reckoning of a script.
func scriptSays(script string) string {
	lines := strings.Split(script, "\n")
	if last := len(lines) - 1; lines[last] != "" || last > 40 || len(script) > 4000 {
		return "too long\n"
	}
	var d impl.Disk
	said := ""
	for _, line := range lines {
		answer := ""
		if strings.Count(line, " ") < len(line) {
			d, answer = lineSays(d, line)
			said += answer + "\n"
		}
	}
	return said
}

// anyAsk is a line that asks, at times of an account that is there, or that says nothing.
func anyAsk(r *rand.Rand) string {
	id := strconv.Itoa(r.Intn(9))
	return []string{"today", "show " + id, "sum " + id, "show 1000000", "today", "", "  ", "sum", "what", "show " + id, "sum " + id}[r.Intn(11)]
}

func anyOpText(r *rand.Rand, b impl.Bank) string {
	if r.Intn(5) == 0 {
		return fmt.Sprintf("open %d %d %d %d", 1+r.Intn(8), 0, r.Intn(1000), r.Intn(impl.MaxRate))
	}
	if r.Intn(5) == 0 && len(b.Forest) > 0 {
		return fmt.Sprintf("open %d %d %d 0", 1+r.Intn(8), b.Forest[r.Intn(len(b.Forest))].Id, r.Intn(100)-1)
	}
	return opText(anyBankOp(r, b))
}

// anyLine is a line that may do something on a disk.
func anyLine(r *rand.Rand, d impl.Disk) string {
	b, _, _, code := viewOf(d)
	if code != impl.StOk && r.Intn(2) == 0 {
		return fmt.Sprintf("new %d", []int{5, 739934, r.Intn(300), impl.MaxDay - 1, impl.MaxDay, impl.MaxDay + 1}[r.Intn(6)])
	}
	switch r.Intn(20) {
	case 0:
		return []string{"save", "open", "new 7", "open 0", "open 1", "crash 200 1000"}[r.Intn(6)]
	case 1:
		return fmt.Sprintf("save %d", r.Intn(10))
	case 2, 3:
		return fmt.Sprintf("crash %d %d", r.Intn(len(d.Ops)+2), []int{0, r.Intn(40), 1000}[r.Intn(3)])
	case 4, 5, 6:
		return anyAsk(r)
	case 7, 8, 9:
		return "sync " + anyOpText(r, b)
	}
	return anyOpText(r, b)
}

// anyScript has lines that fit what the lines ahead of them made.
func anyScript(r *rand.Rand, most int) []string {
	var d impl.Disk
	var lines []string
	for range r.Intn(most + 1) {
		line := anyLine(r, d)
		if strings.Trim(line, " ") != "" {
			d, _ = lineSays(d, line)
		}
		lines = append(lines, line)
	}
	return lines
}

func joined(lines []string) string {
	return strings.Join(append(slices.Clone(lines), ""), "\n")
}

// answersOf has the answer of each line, with "" of one that says nothing.
func answersOf(t *testing.T, lines []string) []string {
	t.Helper()
	said := impl.RunScript(joined(lines))
	var answers []string
	for _, line := range lines {
		answer := ""
		if strings.Trim(line, " ") != "" {
			var ended bool
			answer, said, ended = strings.Cut(said, "\n")
			if !ended || answer == "" {
				t.Fatalf("%q: no answer of %q", lines, line)
			}
		}
		answers = append(answers, answer)
	}
	if said != "" {
		t.Fatalf("%q says %q, too", lines, said)
	}
	return answers
}

func TestScriptsAgainstTheirLines(t *testing.T) {
	r := rand.New(rand.NewSource(31))
	seen := map[string]int{}
	for range 600 {
		lines := anyScript(r, impl.MaxScript)
		if got, want := impl.RunScript(joined(lines)), scriptSays(joined(lines)); got != want {
			t.Fatalf("%q says %q, want %q", lines, got, want)
		}
		for i, answer := range answersOf(t, lines) {
			word, _, _ := strings.Cut(lines[i], " ")
			seen[word+" "+answer]++
			seen[strings.Fields(answer + " -")[0]]++
		}
	}
	for _, what := range []string{"ok", "not", "no", "what", "show", "sum", "today", "-", "new ok", "new no 3", "save ok", "save no 5", "crash ok", "crash no 7", "open ok", "open not 4", "open not 3", "sync ok", "sync not 3", "sync no 7", "put ok", "pay not 6", "take not 6", "take ok", "day ok", "day not 7", "close ok", "close not 8", "hang ok", "hang not 8", "order ok", "cancel ok", "today no bank", "show no bank", "sum no bank", "show no", "sum no"} {
		if seen[what] < 3 {
			t.Error("too few", what, seen[what])
		}
	}
}

// Promise 9: what a script said stays said when more lines stand behind it.
func TestWhatWasSaidStaysSaid(t *testing.T) {
	r := rand.New(rand.NewSource(32))
	for range 150 {
		lines := anyScript(r, impl.MaxScript)
		answers := answersOf(t, lines)
		for i := range lines {
			if got := answersOf(t, lines[:i]); !slices.Equal(got, answers[:i]) {
				t.Fatalf("%q says %q, and %q alone %q", lines, answers, lines[:i], got)
			}
		}
	}
}

// Promise 9: lines that ask change nothing.
func TestLinesThatAskChangeNothing(t *testing.T) {
	r := rand.New(rand.NewSource(33))
	for range 400 {
		lines := anyScript(r, impl.MaxScript/2)
		answers := answersOf(t, lines)
		var more []string
		var places []int
		for _, line := range lines {
			for range min(r.Intn(3), impl.MaxScript/2-(len(more)-len(places))) {
				more = append(more, anyAsk(r))
			}
			places = append(places, len(more))
			more = append(more, line)
		}
		got := answersOf(t, more)
		for i, place := range places {
			if got[place] != answers[i] {
				t.Fatalf("%q says %q at line %d, and %q without what asks", more, got[place], place, answers[i])
			}
		}
	}
}

// Promise 10: the same script says the same, whatever ran between.
func TestScriptsKeepNothing(t *testing.T) {
	r := rand.New(rand.NewSource(34))
	said := map[string]string{}
	for range 200 {
		script := joined(anyScript(r, impl.MaxScript))
		said[script] = impl.RunScript(script)
	}
	for range 2 {
		for script, want := range said {
			if got := impl.RunScript(script); got != want {
				t.Fatalf("%q says %q, and %q ahead of that", script, got, want)
			}
		}
	}
}

func TestSpoiltScripts(t *testing.T) {
	r := rand.New(rand.NewSource(35))
	odd := 0
	for range 1500 {
		script := joined(anyScript(r, 12))
		for range r.Intn(4) {
			script = spoilt(r, script)
		}
		got := impl.RunScript(script)
		if want := scriptSays(script); got != want {
			t.Fatalf("%q says %q, want %q", script, got, want)
		}
		if strings.Contains(got, "what") {
			odd++
		}
	}
	if odd < 500 {
		t.Error("too few with a line that is none", odd)
	}
}

func TestScriptsOfAnyBytes(t *testing.T) {
	r := rand.New(rand.NewSource(36))
	const few = "\n\n\n   0159-+newsavopcrhtudyi"
	for range 3000 {
		script := anyBytes(r, r.Intn(300))
		if r.Intn(2) == 0 {
			few := few[:1+r.Intn(len(few))]
			script = strings.Map(func(c rune) rune { return rune(few[int(c)%len(few)]) }, script) + "\n"
		}
		if got, want := impl.RunScript(script), scriptSays(script); got != want {
			t.Fatalf("%q says %q, want %q", script, got, want)
		}
	}
	for _, size := range []int{3999, 4000, 4001, 100000} {
		script := strings.ReplaceAll(anyBytes(r, size-1), "\n", "x") + "\n"
		want := "what\n"
		if size > 4000 {
			want = "too long\n"
		}
		saysAll(t, script, want)
	}
}
