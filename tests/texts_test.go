package tests

import (
	"fmt"
	"math"
	"math/rand"
	"slices"
	"strconv"
	"strings"
	"testing"

	"loop.example/g00362/impl"
)

// textOf tells the text of a bank, right or not.
func textOf(b impl.Bank) string {
	s := fmt.Sprintln("bank", b.Day, b.In, b.Out, b.Posted, b.Missed)
	for _, a := range b.Forest {
		frozen := map[bool]int{true: 1}[a.Frozen]
		s += fmt.Sprintln("account", a.Id, a.Up, a.Limit, a.Rate, a.Target, frozen, a.Balance, a.Carry)
	}
	for _, o := range b.Orders {
		s += orderText(o) + "\n"
	}
	return s
}

func orderText(o impl.Order) string {
	return strings.TrimSuffix(fmt.Sprintln("order", o.Id, o.From, o.To, o.Amount, o.First, o.Every, o.Times), "\n")
}

// opText tells the text of an op that is one of the Kinds, right or not.
func opText(o impl.BOp) string {
	p := o.Op
	switch [2]int64{o.Kind, p.Kind} {
	case [2]int64{impl.BkOrder}:
		return orderText(o.Order)
	case [2]int64{impl.BkCancel}:
		return fmt.Sprintf("cancel %d", o.Id)
	case [2]int64{impl.BkDay}:
		return "day"
	case [2]int64{impl.BkOp, impl.OpOpen}:
		return fmt.Sprintf("open %d %d %d %d", p.Id, p.To, p.Amount, p.Rate)
	case [2]int64{impl.BkOp, impl.OpFreeze}:
		return fmt.Sprintf("freeze %d", p.Id)
	case [2]int64{impl.BkOp, impl.OpThaw}:
		return fmt.Sprintf("thaw %d", p.Id)
	case [2]int64{impl.BkOp, impl.OpClose}:
		return fmt.Sprintf("close %d", p.Id)
	case [2]int64{impl.BkOp, impl.OpPut}:
		return fmt.Sprintf("put %d %d", p.Id, p.Amount)
	case [2]int64{impl.BkOp, impl.OpTake}:
		return fmt.Sprintf("take %d %d", p.Id, p.Amount)
	case [2]int64{impl.BkOp, impl.OpPay}:
		return fmt.Sprintf("pay %d %d %d", p.Id, p.To, p.Amount)
	case [2]int64{impl.BkOp, impl.OpLimit}:
		return fmt.Sprintf("limit %d %d", p.Id, p.Amount)
	case [2]int64{impl.BkOp, impl.OpHang}:
		return fmt.Sprintf("hang %d %d", p.Id, p.To)
	case [2]int64{impl.BkOp, impl.OpTarget}:
		return fmt.Sprintf("target %d %d", p.Id, p.Amount)
	}
	return ""
}

// looseNumbers are those of the words behind the first one, as many as there are to be.
func looseNumbers(words []string, many int) []int64 {
	n := make([]int64, many)
	for i := range min(many, len(words)-1) {
		n[i], _ = strconv.ParseInt(words[i+1], 10, 64)
	}
	return n
}

func looseOrder(words []string) impl.Order {
	n := looseNumbers(words, 7)
	return impl.Order{Id: n[0], From: n[1], To: n[2], Amount: n[3], First: n[4], Every: n[5], Times: n[6]}
}

// looseBank takes what it finds; a text is that of the bank if it is told of it again.
func looseBank(s string) (impl.Bank, bool) {
	var b impl.Bank
	for _, line := range strings.Split(s, "\n") {
		words := strings.Split(line, " ")
		switch n := looseNumbers(words, 8); words[0] {
		case "bank":
			b.Day, b.In, b.Out, b.Posted, b.Missed = n[0], n[1], n[2], n[3], n[4]
		case "account":
			b.Forest = append(b.Forest, impl.Account{Id: n[0], Up: n[1], Limit: n[2], Rate: n[3], Target: n[4], Frozen: n[5] == 1, Balance: n[6], Carry: n[7]})
		case "order":
			b.Orders = append(b.Orders, looseOrder(words))
		}
	}
	if textOf(b) != s || !impl.BankOk(b) {
		return impl.Bank{}, false
	}
	return b, true
}

func looseOp(s string) (impl.BOp, bool) {
	words := strings.Split(s, " ")
	n := looseNumbers(words, 4)
	var o impl.BOp
	switch words[0] {
	case "order":
		o = addition(looseOrder(words))
	case "cancel":
		o = cancellation(n[0])
	case "day":
		o = dayEnd
	case "open":
		o = bankOp(impl.Op{Kind: impl.OpOpen, Id: n[0], To: n[1], Amount: n[2], Rate: n[3]})
	case "pay":
		o = bankOp(op(impl.OpPay, n[0], n[1], n[2]))
	case "hang":
		o = bankOp(op(impl.OpHang, n[0], n[1], 0))
	default:
		kinds := map[string]int64{"freeze": impl.OpFreeze, "thaw": impl.OpThaw, "close": impl.OpClose, "put": impl.OpPut, "take": impl.OpTake, "limit": impl.OpLimit, "target": impl.OpTarget}
		o = bankOp(op(kinds[words[0]], n[0], 0, n[1]))
	}
	if opText(o) != s || formless(o) {
		return impl.BOp{}, false
	}
	return o, true
}

// formless: Ran tells TrForm of it.
func formless(o impl.BOp) bool {
	_, code := impl.Ran(impl.Bank{}, o)
	return code == impl.TrForm
}

// bankComesBack asks for the text of a right bank, and for the bank of that text.
func bankComesBack(t *testing.T, b impl.Bank, text string) {
	t.Helper()
	if s := impl.BankText(b); s != text {
		t.Errorf("text of %v: %q, want %q", b, s, text)
	}
	if c, ok := impl.ReadBank(text); !ok || !sameBank(c, b) {
		t.Errorf("%q read: %v %v, want %v", text, c, ok, b)
	}
}

func opComesBack(t *testing.T, o impl.BOp, text string) {
	t.Helper()
	if s := impl.BOpText(o); s != text {
		t.Errorf("text of %v: %q, want %q", o, s, text)
	}
	if p, ok := impl.ReadBOp(text); !ok || p != o {
		t.Errorf("%q read: %v %v, want %v", text, p, ok, o)
	}
}

func noBankText(t *testing.T, s string) {
	t.Helper()
	if b, ok := impl.ReadBank(s); ok || !sameBank(b, impl.Bank{}) {
		t.Errorf("%q read: %v %v", s, b, ok)
	}
}

func noOpText(t *testing.T, s string) {
	t.Helper()
	if o, ok := impl.ReadBOp(s); ok || o != (impl.BOp{}) {
		t.Errorf("%q read: %v %v", s, o, ok)
	}
}

// fullBank has as many accounts and orders as there may be.
func fullBank() impl.Bank {
	b := bankOf(17, chain(impl.MaxAccounts)...)
	for id := int64(1); id <= impl.MaxOrders; id++ {
		b.Orders = append(b.Orders, order(id*100, 20+id, id, id))
	}
	return b
}

// Promise 6: right banks come back from their texts.
func TestBanksComeBackFromTheirTexts(t *testing.T) {
	r := rand.New(rand.NewSource(16))
	for range 2000 {
		b := anyBank(r)
		bankComesBack(t, b, textOf(b))
	}
	full := fullBank()
	if !impl.BankOk(full) || len(full.Forest) != 12 || len(full.Orders) != 8 {
		t.Fatal(full)
	}
	bankComesBack(t, full, textOf(full))
	bankComesBack(t, impl.Bank{}, "bank 0 0 0 0 0\n")
	bankComesBack(t, impl.Bank{Day: 9, In: 4, Out: 3, Posted: -1, Missed: 2}, "bank 9 4 3 -1 2\n")
	bankComesBack(t, withOrders(impl.Bank{}, order(3, 0, 1, 2)), "bank 0 0 0 0 0\norder 3 1 2 5 0 1 2\n")
	bankComesBack(t, bankOf(1, frozen(root(4, 8, 6)), targeted(kid(5, 4, -1, -2), 7)), "bank 1 4 0 0 0\naccount 4 0 8 0 -1 1 6 0\naccount 5 4 -1 0 7 0 -2 0\n")
}

func TestTextsOfTheGreatestNumbers(t *testing.T) {
	const sum, most = "1000000000000000", "1000000000000"
	bankComesBack(t, impl.Bank{Day: impl.MaxDay, In: impl.MaxSum, Posted: -impl.MaxSum, Missed: impl.MaxSum}, "bank 3000000 "+sum+" 0 -"+sum+" "+sum+"\n")
	bankComesBack(t, impl.Bank{Out: impl.MaxSum, Posted: impl.MaxSum}, "bank 0 0 "+sum+" "+sum+" 0\n")
	one, all := rated(root(1, impl.MaxMoney, impl.MaxMoney), impl.MaxRate, impl.YearPart-1), targeted(kid(impl.MaxId, 1, impl.MaxMoney, -impl.MaxMoney), impl.MaxMoney)
	bankComesBack(t, impl.Bank{Forest: []impl.Account{one, all}}, "bank 0 0 0 0 0\naccount 1 0 "+most+" 10000 -1 0 "+most+" 3649999\naccount 1000000 1 "+most+" 0 "+most+" 0 -"+most+" 0\n")
	last := impl.Order{Id: impl.MaxId, From: impl.MaxId, To: 1, Amount: impl.MaxMoney, First: impl.MaxDay, Every: 366, Times: impl.MaxTimes}
	text := "order 1000000 1000000 1 " + most + " 3000000 366 1000"
	bankComesBack(t, withOrders(impl.Bank{}, last), "bank 0 0 0 0 0\n"+text+"\n")
	opComesBack(t, addition(last), text)
	opComesBack(t, bankOp(op(impl.OpPay, impl.MaxId, 1, impl.MaxMoney)), "pay 1000000 1 "+most)
	opComesBack(t, bankOp(impl.Op{Kind: impl.OpOpen, Id: impl.MaxId, Amount: impl.MaxMoney, Rate: impl.MaxRate}), "open 1000000 0 "+most+" 10000")
	// One more than the greatest, or less than the least, is of no bank and no op.
	for _, s := range []string{
		"bank 3000001 0 0 0 0\n", "bank -1 0 0 0 0\n", "bank 0 0 0 0 -1\n", "bank 0 0 0 0 1000000000000001\n", "bank 0 1000000000000001 " + sum + " -1 0\n", "bank 0 -1 0 1 0\n",
		"bank 0 0 0 0 9999999999999999\n", "bank 0 0 0 0 9223372036854775808\n", "bank 0 0 0 0 -9223372036854775809\n", "bank 0 0 0 0 18446744073709551616\n",
	} {
		noBankText(t, s)
	}
	for _, s := range []string{"cancel 1000001", "cancel 0", "cancel -1", "freeze 1000001", "put 1 1000000000001", "limit 1 -2", "open 1 0 0 10001", "open 1 0 0 -1", "cancel 18446744073709551617", "freeze -18446744073709551615"} {
		noOpText(t, s)
	}
}

// Promise 6: right ops come back from their texts.
func TestOpsComeBackFromTheirTexts(t *testing.T) {
	opComesBack(t, bankOp(impl.Op{Kind: impl.OpOpen, Id: 1, Amount: 5, Rate: 9}), "open 1 0 5 9")
	opComesBack(t, bankOp(op(impl.OpOpen, 2, 1, -1)), "open 2 1 -1 0")
	opComesBack(t, bankOp(op(impl.OpFreeze, 3, 0, 0)), "freeze 3")
	opComesBack(t, bankOp(op(impl.OpThaw, 3, 0, 0)), "thaw 3")
	opComesBack(t, bankOp(op(impl.OpClose, 3, 0, 0)), "close 3")
	opComesBack(t, bankOp(op(impl.OpPut, 3, 0, 4)), "put 3 4")
	opComesBack(t, bankOp(op(impl.OpTake, 3, 0, 4)), "take 3 4")
	opComesBack(t, bankOp(op(impl.OpPay, 3, 4, 5)), "pay 3 4 5")
	opComesBack(t, bankOp(op(impl.OpLimit, 3, 0, -1)), "limit 3 -1")
	opComesBack(t, bankOp(op(impl.OpLimit, 3, 0, 0)), "limit 3 0")
	opComesBack(t, bankOp(op(impl.OpHang, 3, 4, 0)), "hang 3 4")
	opComesBack(t, bankOp(op(impl.OpTarget, 3, 0, 4)), "target 3 4")
	opComesBack(t, addition(impl.Order{Id: 2, From: 1, To: 3, Amount: 5, First: 10, Every: 7, Times: 4}), "order 2 1 3 5 10 7 4")
	opComesBack(t, cancellation(4), "cancel 4")
	opComesBack(t, dayEnd, "day")
	r := rand.New(rand.NewSource(17))
	right, wrong := 0, 0
	for range 5000 {
		o := anyBankOp(r, anyBank(r))
		if formless(o) {
			wrong++
			if s := impl.BOpText(o); s != "" {
				t.Errorf("text of %v: %q", o, s)
			}
			continue
		}
		right++
		opComesBack(t, o, opText(o))
	}
	if right < 1000 || wrong < 100 {
		t.Error("too few right or wrong", right, wrong)
	}
}

func TestNoTextsOfWhatIsNotRight(t *testing.T) {
	for _, b := range []impl.Bank{
		{Day: -1}, {Day: impl.MaxDay + 1}, {In: 1}, {Missed: -1}, {Posted: math.MinInt64}, {Forest: []impl.Account{{}}}, {Forest: chain(13)}, {Forest: []impl.Account{kid(1, 1, 0, 0)}},
		{Orders: []impl.Order{{}}}, withOrders(impl.Bank{}, order(2, 1, 1, 1), order(1, 1, 1, 1)), bankOf(0, root(2, 1, 1), root(1, 1, 1)), withOrders(impl.Bank{}, slices.Repeat([]impl.Order{order(1, 1, 1, 1)}, 9)...),
	} {
		if s := impl.BankText(b); s != "" {
			t.Errorf("text of %v: %q", b, s)
		}
		noBankText(t, textOf(b))
	}
	for _, o := range []impl.BOp{
		{}, {Kind: impl.BkOp}, {Kind: impl.BkOrder}, {Kind: impl.BkCancel}, {Kind: 18, Id: 1}, {Kind: 23, Id: 1}, {Kind: impl.BkCancel, Id: impl.MaxId + 1}, {Kind: impl.BkDay, Id: 1},
		{Kind: impl.BkDay, Op: op(impl.OpPut, 1, 0, 1)}, {Kind: impl.BkDay, Order: order(1, 1, 1, 1)}, {Kind: impl.BkOp, Op: op(impl.OpPut, 1, 0, 1), Id: 1}, {Kind: impl.BkOrder, Order: order(1, 1, 1, 1), Id: 1},
		bankOp(op(impl.OpPut, 1, 0, 0)), bankOp(op(impl.OpFreeze, 1, 2, 0)), bankOp(op(impl.OpHang, 2, 2, 0)), bankOp(op(11, 1, 0, 1)), bankOp(op(math.MinInt64, 1, 0, 1)), addition(order(1, 1, 0, 1)), bankOp(op(impl.OpOpen, 1, 0, -1)),
	} {
		if s := impl.BOpText(o); s != "" || !formless(o) {
			t.Errorf("text of %v: %q", o, s)
		}
	}
	// What an op cannot be, whatever the words are.
	for _, s := range []string{"open 1 0 -1 0", "open 1 1 5 0", "open 2 1 5 9", "put 1 0", "put 0 1", "take 1 -1", "pay 1 1 5", "pay 1 0 5", "hang 2 2", "hang 2 0", "limit 1 -2", "target 0 5", "order 1 2 2 5 0 1 1", "order 1 2 3 5 0 0 1", "order 1 2 3 5 0 1 0", "order 0 2 3 5 0 1 1", "cancel 0", "freeze 0"} {
		noOpText(t, s)
	}
}

// A number has one text alone.
func TestNumbersThatAreNotInDecimal(t *testing.T) {
	const text = "bank 3 8 2 1 4\naccount 5 0 6 7 -1 0 7 9\naccount 6 5 -1 0 2 1 0 0\norder 2 1 3 5 10 7 4\n"
	if _, ok := impl.ReadBank(text); !ok {
		t.Fatal(text)
	}
	lines := strings.SplitAfter(text, "\n")
	for i, line := range lines[:4] {
		words := strings.Split(strings.TrimSuffix(line, "\n"), " ")
		for j := 1; j < len(words); j++ {
			for _, bad := range badNumbers(words[j]) {
				other := slices.Clone(words)
				other[j] = bad
				otherLines := slices.Clone(lines)
				otherLines[i] = strings.Join(other, " ") + "\n"
				noBankText(t, strings.Join(otherLines, ""))
			}
		}
	}
	for _, s := range []string{"open 2 1 -1 0", "open 1 0 5 9", "freeze 3", "thaw 3", "close 3", "put 3 4", "take 3 4", "pay 3 4 5", "limit 3 0", "hang 3 4", "target 3 4", "order 2 1 3 5 10 7 4", "cancel 4"} {
		words := strings.Split(s, " ")
		for j := 1; j < len(words); j++ {
			for _, bad := range badNumbers(words[j]) {
				other := slices.Clone(words)
				other[j] = bad
				noOpText(t, strings.Join(other, " "))
			}
		}
	}
}

// badNumbers are words that a looser reader takes for the number, and some that it may take for another one.
func badNumbers(n string) []string {
	bad := []string{"0" + n, "+" + n, "-0", "", "-", "+", "--" + n, n + ".0", n + "e0", n + "_0", "0x" + n, n + "x", "x", "\t" + n, n + "\t", n + "\r", n + "\x00", "\x00" + n, n + ",", "\u0663", "\xff",
		"12345678901234567", "-12345678901234567", "00000000000000000", "99999999999999999999999999", strings.Repeat("0", 16) + n}
	if digits, below := strings.CutPrefix(n, "-"); below {
		bad = append(bad, "-0"+digits, "- "+digits)
	}
	return bad
}

func TestWordsAndLinesOutOfPlace(t *testing.T) {
	const bank, one, two, first, last = "bank 3 8 2 1 4\n", "account 5 0 6 7 -1 0 7 9\n", "account 6 5 -1 0 2 1 0 0\n", "order 2 1 3 5 10 7 4\n", "order 3 1 3 5 10 7 4\n"
	if _, ok := impl.ReadBank(bank + one + two + first + last); !ok {
		t.Fatal("a right text")
	}
	// A line too many or too few, or lines in another order.
	for _, s := range []string{
		"", "\n", " ", "bank", "bank\n", bank + bank, bank + "\n", "\n" + bank, one + bank, one + two, first, bank + two + one, bank + one + one, bank + two, bank + one + two + last + first,
		bank + one + two + first + first, bank + first + one + two, bank + one + first + two, bank + one + two + first + one, bank + one + two + first + last + "\n", bank + one + two + "\n" + first, bank + one + two + "day\n", bank + one + two + bank,
		bank + one + two + "x\n", bank + one + two + "account\n", bank + one + two + "order\n", bank + one + two + "accounts 7 0 6 0 -1 0 0 0\n", bank + one + two + "orders 2 1 3 5 10 7 4\n", bank + one + two + "x",
	} {
		noBankText(t, s)
	}
	for _, line := range []string{bank, one, two, first} {
		whole := bank + one + two + first
		open := strings.TrimSuffix(line, "\n")
		cut := open[:strings.LastIndexByte(open, ' ')]
		for _, bad := range []string{
			open, " " + line, open + " \n", strings.Replace(line, " ", "  ", 1), open[:len(cut)] + " " + open[len(cut):] + "\n", open + " 0\n", cut + "\n", cut + " \n", open + "\r\n", open + "\x00\n", open + "\n ", open + "\n\n",
			strings.ToUpper(line), strings.Replace(line, " ", "\t", 1), strings.Replace(line, " ", "", 1), strings.Replace(line, " ", "\n", 1), strings.Replace(line, " ", " x ", 1), line[1:], "x" + line, "\xef\xbb\xbf" + line,
		} {
			noBankText(t, strings.Replace(whole, line, bad, 1))
		}
		noBankText(t, strings.TrimSuffix(whole, "\n"))
	}
	for _, frozen := range []string{"2", "-1", "01", "true", "10"} {
		noBankText(t, "bank 0 0 0 0 0\naccount 5 0 6 7 -1 "+frozen+" 0 9\n")
	}
	for _, s := range []string{"open 2 1 -1 0", "freeze 3", "thaw 3", "close 3", "put 3 4", "take 3 4", "pay 3 4 5", "limit 3 0", "hang 3 4", "target 3 4", "order 2 1 3 5 10 7 4", "cancel 4", "day"} {
		word, _, _ := strings.Cut(s, " ")
		for _, bad := range []string{" " + s, s + " ", s + "\n", "\n" + s, s + " 1", s + " 0", s + "\r", s + "\x00", s + " x", strings.ToUpper(s), word + "s" + s[len(word):], s[1:], word + " " + s[len(word):], s + "\n" + s, word + " ", "sync " + s} {
			noOpText(t, bad)
		}
		if i := strings.LastIndexByte(s, ' '); i > 0 {
			noOpText(t, s[:i])
			noOpText(t, s[:i]+" ")
			noOpText(t, s[:i]+" "+s[i:])
			noOpText(t, s[:i]+"\t"+s[i+1:])
			noOpText(t, word)
		}
	}
	for _, s := range []string{"", " ", "x", "op", "bank", "account 1", "fly 1", "day day", "op 1 0 5 9", "\xff\xfe"} {
		noOpText(t, s)
	}
}

// spoilt changes, drops or doubles a few bytes.
func spoilt(r *rand.Rand, s string) string {
	const bytes = "0123456789 \n-+abcdeknoruty\x00\xff"
	for range r.Intn(3) {
		at := r.Intn(len(s) + 1)
		to := min(len(s), at+r.Intn(3))
		s = s[:at] + bytes[r.Intn(len(bytes)):][:r.Intn(2)] + s[to:]
	}
	return s
}

// A text is read just where it is the one of a bank, of an op.
func TestAnyTexts(t *testing.T) {
	r := rand.New(rand.NewSource(18))
	read, readOp := 0, 0
	for range 20000 {
		s := spoilt(r, textOf(anyBank(r)))
		want, ok := looseBank(s)
		if b, got := impl.ReadBank(s); got != ok || !sameBank(b, want) {
			t.Fatalf("%q: %v %v, want %v %v", s, b, got, want, ok)
		}
		o := spoilt(r, opText(anyBankOp(r, impl.Bank{Day: 5, Forest: chain(3)})))
		wantOp, okOp := looseOp(o)
		if p, got := impl.ReadBOp(o); got != okOp || p != wantOp {
			t.Fatalf("%q: %v %v, want %v %v", o, p, got, wantOp, okOp)
		}
		if ok && s != "" {
			read++
		}
		if okOp {
			readOp++
		}
	}
	if read < 2000 || readOp < 2000 || read > 18000 || readOp > 18000 {
		t.Error("too few texts that are read, or that are not", read, readOp)
	}
	for range 2000 {
		bytes := make([]byte, r.Intn(40))
		r.Read(bytes)
		noBankText(t, string(bytes))
		noBankText(t, "bank 0 0 0 0 0\n"+string(bytes)+"x")
		noOpText(t, "x"+string(bytes))
	}
	noBankText(t, strings.Repeat("account 1 0 0 0 -1 0 0 0\n", 20000))
	noBankText(t, "bank 0 0 0 0 0\n"+strings.Repeat("account 1 0 0 0 -1 0 0 0\n", 20000))
	noBankText(t, "bank "+strings.Repeat("9", 100000)+" 0 0 0 0\n")
	noOpText(t, strings.Repeat("day ", 100000))
}

func TestTextsLeaveBanksAlone(t *testing.T) {
	r := rand.New(rand.NewSource(19))
	for range 300 {
		b := anyBank(r)
		forest, orders := append(b.Forest, root(77, 1, 2)), append(b.Orders, order(77, 1, 2, 3))
		sameForest, sameOrders := slices.Clone(forest), slices.Clone(orders)
		b.Forest, b.Orders = forest[:len(b.Forest)], orders[:len(b.Orders)]
		s := impl.BankText(b)
		if again := impl.BankText(b); again != s || !slices.Equal(forest, sameForest) || !slices.Equal(orders, sameOrders) {
			t.Fatal("written into", forest, orders)
		}
		c, _ := impl.ReadBank(s)
		wiped(c)
		if c, ok := impl.ReadBank(s); !ok || !sameBank(c, b) {
			t.Fatal("another answer", s, c)
		}
	}
}
