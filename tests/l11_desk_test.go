package tests

import (
	"fmt"
	"math/rand"
	"net/netip"
	"regexp"
	"slices"
	"strconv"
	"strings"
	"testing"

	"loop.example/g00634/impl"
)

const (
	mostDesk   = 30
	mostNumber = "999999999"
	leakTag    = 1000
)

// deskForms are the lines of chapter 12: N is a number, other capitals are any word.
var deskForms = []string{
	"leak N N NET N", "link N N down", "link N N up", "route N ADDR", "sent N", "table N", "tell N ADDR NET N KEY N", "tick N",
}

// deskLines is a line of each form, in their order, that does what it asks for.
var deskLines = []string{
	"leak 0 1 10.0.0.0/8 1", "link 0 0 down", "link 0 0 up", "route 0 10.0.0.9", "sent 0", "table 0", "tell 10 10.0.0.2 10.6.0.0/16 2 red 3", "tick 1",
}

// deskPatterns are of the same forms.
var deskPatterns = func() []*regexp.Regexp {
	var l []*regexp.Regexp
	for _, form := range deskForms {
		number := `(?:0|[1-9][0-9]{0,8})`
		if form == "tick N" {
			number = `(?:[0-9]|1[0-9]|20)`
		}
		open := strings.NewReplacer("NET", `[^ \n]+`, "ADDR", `[^ \n]+`, "KEY", `[^ \n]+`, "N", number)
		l = append(l, regexp.MustCompile(`\A`+open.Replace(form)+`\n\z`))
	}
	return l
}()

// plainDesk is the desk's box, written out.
func plainDesk() impl.Box {
	b := impl.Box{Binds: []impl.Bind{{Vlan: 10}, {Vlan: 11, Iface: 1}, {Vlan: 20, Tenant: 1}, {Vlan: 21, Tenant: 1, Iface: 1}}}
	for _, key := range []string{"red", "blue"} {
		low, high := impl.Net{Addr: 0x0A000000, Len: 24}, impl.Net{Addr: 0x0A000100, Len: 24}
		b.Tenants = append(b.Tenants, impl.Tenant{Key: key, Quota: 4, Inst: impl.Inst{
			Ifaces: []impl.Iface{{Addr: 0x0A000001, Net: low, Cost: 1, Up: true}, {Addr: 0x0A000101, Net: high, Cost: 1, Up: true}},
			Rib:    impl.Rib{Routes: []impl.Route{{Net: low, Metric: 1, Changed: true}, {Net: high, Metric: 1, Iface: 1, Changed: true}}},
		}})
	}
	return b
}

// cutLines has the line feed of each line with it.
func cutLines(text string) []string {
	l := strings.SplitAfter(text, "\n")
	if l[len(l)-1] == "" {
		l = l[:len(l)-1]
	}
	return l
}

// plainDeskFault holds each line against the patterns.
func plainDeskFault(text string) impl.DeskOut {
	if len(text) > 8000 {
		return impl.DeskOut{Code: 2}
	}
	for at, line := range cutLines(text) {
		fits := slices.ContainsFunc(deskPatterns, func(p *regexp.Regexp) bool { return p.MatchString(line) })
		if !fits || at >= mostDesk {
			return impl.DeskOut{Line: int64(at), Code: 3}
		}
	}
	return impl.DeskOut{}
}

// plainDeskAddr and plainDeskNet read by the library.
func plainDeskAddr(text string) (int64, bool) {
	a, err := netip.ParseAddr(text)
	if err != nil || !a.Is4() {
		return 0, false
	}
	return numOf(a), true
}

func plainDeskNet(text string) (impl.Net, bool) {
	p, err := netip.ParsePrefix(text)
	if err != nil || !p.Addr().Is4() || p.Masked() != p {
		return impl.Net{}, false
	}
	return impl.Net{Addr: numOf(p.Addr()), Len: int64(p.Bits())}, true
}

// plainDeskTook puts the box that is told in the place of what there was.
func plainDeskTook(b *impl.Box, out impl.BoxOut, said string) string {
	if out.Code != impl.OK {
		return fmt.Sprint("error ", out.Code)
	}
	*b = out.Box
	return said
}

// plainDeskTell reads the words behind tell.
func plainDeskTell(b *impl.Box, w []string) string {
	vlan, _ := strconv.ParseInt(w[0], 10, 64)
	metric, _ := strconv.ParseInt(w[3], 10, 64)
	seq, _ := strconv.ParseInt(w[5], 10, 64)
	src, known := plainDeskAddr(w[1])
	n, right := plainDeskNet(w[2])
	if !known || !right {
		return "error 3"
	}
	if !isOneOf(vlan, 1, 4094) || !isOneOf(metric, 1, 16) || len(w[4]) > 32 || !isOneOf(seq, 1, 1000000) {
		return "error 1"
	}
	s := told{vlan: vlan, src: src, rip: tell(impl.Entry{Net: n, Metric: metric}), key: w[4], seq: seq}
	*b = plainIn(*b, 0, s.frame()).Box
	return fmt.Sprint(b.Tenants[0].Drops, b.Tenants[1].Drops, b.Lost)
}

// plainDeskRoute reads the words behind route.
func plainDeskRoute(b impl.Box, tenant int64, text string) string {
	a, known := plainDeskAddr(text)
	if !known {
		return "error 3"
	}
	if tenant > 1 {
		return "error 6"
	}
	r := plainBest(b.Tenants[tenant].Inst.Rib, a)
	switch {
	case r.Metric == 0:
		return "-"
	case r.Next == 0:
		return fmt.Sprintf("%s/%d %d own", plainAddr(r.Net.Addr), r.Net.Len, r.Metric)
	}
	return fmt.Sprintf("%s/%d %d %s", plainAddr(r.Net.Addr), r.Net.Len, r.Metric, plainAddr(r.Next))
}

func plainDeskTable(b impl.Box, tenant int64) string {
	if tenant > 1 {
		return "error 6"
	}
	out := ""
	for _, r := range b.Tenants[tenant].Inst.Rib.Routes {
		out += fmt.Sprintf(",%s/%d=%d", plainAddr(r.Net.Addr), r.Net.Len, r.Metric)
	}
	if out == "" {
		return "-"
	}
	return out[1:]
}

// plainDeskLeak reads the words behind leak.
func plainDeskLeak(b *impl.Box, from int64, to int64, text string, add int64) string {
	n, right := plainDeskNet(text)
	if !right {
		return "error 3"
	}
	l := append(slices.Clone(b.Leaks), impl.Leak{From: from, To: to, Within: n, Add: add, Tag: leakTag})
	if !plainLeaksRight(l) {
		return "error 1"
	}
	b.Leaks = l
	return "ok"
}

// plainDeskLine does what a line that is right asks for.
func plainDeskLine(b *impl.Box, line string) string {
	w := strings.Split(strings.TrimSuffix(line, "\n"), " ")
	n := func(at int) int64 {
		n, _ := strconv.ParseInt(w[at], 10, 64)
		return n
	}
	switch w[0] {
	case "tick":
		for range n(1) {
			*b = plainBoxTick(*b).Box
		}
		return "ok"
	case "tell":
		return plainDeskTell(b, w[1:])
	case "route":
		return plainDeskRoute(*b, n(1), w[2])
	case "table":
		return plainDeskTable(*b, n(1))
	case "link":
		return plainDeskTook(b, plainLink(*b, n(1), n(2), w[3] == "up"), "ok")
	case "leak":
		return plainDeskLeak(b, n(1), n(2), w[3], n(4))
	}
	out := plainDrain(*b, n(1))
	return plainDeskTook(b, out, strconv.Itoa(len(out.Sent)))
}

// plainDeskRun is what a desk's text comes to, line by line.
func plainDeskRun(text string) impl.DeskOut {
	out := plainDeskFault(text)
	if out.Code != impl.OK {
		return out
	}
	b := plainDesk()
	for _, line := range cutLines(text) {
		out.Text += plainDeskLine(&b, line) + "\n"
	}
	return out
}

// holdRun holds both calls to what they have to answer.
func holdRun(t *testing.T, text string, want impl.DeskOut) {
	t.Helper()
	if got := impl.DeskRun(text); got != want {
		t.Errorf("DeskRun(%q):\n got %+v\nwant %+v", text, got, want)
	}
	want.Text = ""
	if got := impl.DeskFault(text); got != want {
		t.Errorf("DeskFault(%q): got %+v, want %+v", text, got, want)
	}
}

// holdWrongLine: it is that line of the text which is not taken.
func holdWrongLine(t *testing.T, text string, line int64) {
	t.Helper()
	holdRun(t, text, impl.DeskOut{Line: line, Code: impl.ErrSyntax})
}

// holdTold takes lines and what each tells, in turn. It holds also what the first ones of them tell alone, and the plain ones to the same.
func holdTold(t *testing.T, linesAndTold ...string) {
	t.Helper()
	text, want := "", ""
	holdRun(t, text, impl.DeskOut{})
	for at := 0; at < len(linesAndTold); at += 2 {
		text += linesAndTold[at] + "\n"
		want += linesAndTold[at+1] + "\n"
		holdRun(t, text, impl.DeskOut{Text: want})
	}
	if got := plainDeskRun(text); got.Text != want {
		t.Errorf("the test's own desk:\n got %+v\nwant %q", got, want)
	}
}

// TestDeskBox: it is right, and made anew each time, of tenants that share nothing.
func TestDeskBox(t *testing.T) {
	holdBox(t, "the desk's box", boxOf(impl.DeskBox()), boxOf(plainDesk()))
	b := impl.DeskBox()
	scribble(b.Tenants[0].Inst)
	b.Tenants[0] = impl.Tenant{}
	if !sameTenant(b.Tenants[1], plainDesk().Tenants[1]) {
		t.Errorf("the tenant 1 is written into by the other one: %+v", b.Tenants[1])
	}
	b.Binds[0] = impl.Bind{}
	holdBox(t, "and again", boxOf(impl.DeskBox()), boxOf(plainDesk()))
}

// TestDeskBoxAtWork: what each tenant sends goes to its own Vlans alone, signed by its own Key.
func TestDeskBoxAtWork(t *testing.T) {
	b := impl.BoxTick(impl.DeskBox())
	holdBox(t, "a tick", b, plainBoxTick(plainDesk()))
	for tenant, key := range []string{"red", "blue"} {
		for i, sent := range impl.Drain(b.Box, int64(tenant)).Sent {
			f := impl.FrameRead(sent.Bytes).Frame
			opened := impl.RipOpen(impl.DgramRead(f.Data).Dgram.Data, key, 0)
			if f.Vlan != int64(10*tenant+10+i) || opened.Code != impl.OK || opened.Seq != 1 {
				t.Errorf("the tenant %d sent %+v: %+v", tenant, sent, opened)
			}
		}
	}
	// The frame of chapter 12 that 10.0.0.2 sends the tenant 0.
	n := impl.Net{Addr: 0x0A010000, Len: 16}
	s := told{vlan: 10, src: by0, rip: tell(impl.Entry{Net: n, Metric: 3}), key: "red", seq: 7}
	first := impl.BoxIn(b.Box, 0, s.frame())
	if got := impl.RibFind(first.Box.Tenants[0].Inst.Rib, n); got.Metric != 4 || got.Next != by0 {
		t.Errorf("told: got %+v", got)
	}
	again := impl.BoxIn(first.Box, 0, s.frame())
	if got := again.Box.Tenants[0].Drops; got != 1 || impl.Observe(again.Box, 1) != impl.Observe(b.Box, 1) {
		t.Errorf("told again: got %d", got)
	}
}

// TestDeskLines: how many there may be, and what ends each.
func TestDeskLines(t *testing.T) {
	ticks := func(many int) string { return strings.Repeat("tick 1\n", many) }
	oks := func(many int) string { return strings.Repeat("ok\n", many) }
	for _, many := range []int{0, 1, 2, mostDesk - 1, mostDesk} {
		holdRun(t, ticks(many), impl.DeskOut{Text: oks(many)})
	}
	for _, many := range []int{mostDesk + 1, mostDesk + 2, 2 * mostDesk, 500} {
		holdWrongLine(t, ticks(many), mostDesk)
	}
	for _, many := range []int{0, 1, 7, mostDesk - 1, mostDesk} {
		for _, rest := range []string{"\n", "\n\n", "tick 1", "tick 1\n\ntick 1\n"[7:], "tick", "tick 21\n", " ", " \n", "\r\n", "\x00", "x"} {
			holdWrongLine(t, ticks(many)+rest, int64(many))
		}
	}
	holdWrongLine(t, ticks(mostDesk)+"tick 1", mostDesk)
	holdWrongLine(t, ticks(mostDesk)+"tick 21\n", mostDesk)
	// What ends a line elsewhere does not here.
	for _, end := range []string{"\r", "\r\n", "\v\n", "\f\n", "\x00", "\u2028", "\u0085", "\\n"} {
		holdWrongLine(t, "tick 1\ntick 1"+end, 1)
		holdWrongLine(t, "tick 1"+end+"tick 1\n", 0)
	}
}

// TestDeskFirstWrongLine: of two that are wrong the first one counts, however wrong, and wherever it stands.
func TestDeskFirstWrongLine(t *testing.T) {
	wrong := []string{"", "tick", "tick 21", "tock 1", "tick 1 ", " tick 1", "table x", "link 0 0 off", "tell 10 10.0.0.2 10.6.0.0/16 2 red"}
	for at := range int64(mostDesk) {
		for i, first := range wrong {
			l := slices.Repeat([]string{"sent 0"}, mostDesk)
			l[at] = first
			holdWrongLine(t, strings.Join(l, "\n")+"\n", at)
			for behind := at + 1; behind < mostDesk; behind += 3 {
				two := slices.Clone(l)
				two[behind] = wrong[(i+1)%len(wrong)]
				holdWrongLine(t, strings.Join(two, "\n")+"\n", at)
				holdWrongLine(t, strings.Join(two, "\n"), at)
			}
			// One too many, or none at its end, counts no more.
			holdWrongLine(t, strings.Join(l, "\n")+"\nsent 0\n", at)
			holdWrongLine(t, strings.Join(l, "\n")+"\nsent 0", at)
		}
	}
}

// TestDeskWordsOfALine: as many as the form has, one blank between, and none of other letters.
func TestDeskWordsOfALine(t *testing.T) {
	for _, line := range deskLines {
		if got := impl.DeskRun(line + "\n"); got.Code != impl.OK || strings.Count(got.Text, "\n") != 1 {
			t.Errorf("DeskRun of the line %q: got %+v", line, got)
		}
		w := strings.Split(line, " ")
		var wrong []string
		for _, blank := range []string{" ", "  ", "\t", "\r", "\v", "\u00a0", "\x00"} {
			wrong = append(wrong, blank+line)
			if blank[0] == ' ' {
				wrong = append(wrong, line+blank)
			}
		}
		for at := range w {
			head, tail := strings.Join(w[:at], " "), strings.Join(w[at:], " ")
			fewer := slices.Delete(slices.Clone(w), at, at+1)
			wrong = append(wrong, head, strings.Join(fewer, " "))
			for _, more := range []string{"", "0", "1", "up", "red", "x", w[at], "10.0.0.0/8"} {
				wrong = append(wrong, strings.Join(slices.Insert(slices.Clone(w), at, more), " "), line+" "+more)
			}
			for _, gap := range []string{"  ", "   ", "", "\t", ",", "\u00a0", "\v", "\r", "\x00"} {
				if at > 0 {
					wrong = append(wrong, head+gap+tail)
				}
			}
		}
		for _, word := range []string{strings.ToUpper(w[0]), strings.ToUpper(w[0][:1]) + w[0][1:], w[0] + "s", w[0][1:], w[0][:3], "x" + w[0], w[0] + "\x00", "", "x", "N", "tack", "help", "ok", "error"} {
			wrong = append(wrong, strings.Join(append([]string{word}, w[1:]...), " "), word)
		}
		for _, text := range wrong {
			if plainDeskFault(text+"\n").Code == impl.OK {
				t.Fatalf("the test's own desk takes %q", text)
			}
			holdWrongLine(t, text+"\n", 0)
			holdWrongLine(t, line+"\n"+text+"\n"+line+"\n", 1)
		}
	}
}

// put has another word at a place of a line.
func put(line string, at int, word string) string {
	w := strings.Split(line, " ")
	w[at] = word
	return strings.Join(w, " ")
}

// TestDeskNumbers: digits, at most nine, without needless noughts, at each place of each form.
func TestDeskNumbers(t *testing.T) {
	right := []string{"0", "1", "9", "10", "19", "20", "21", "99", "100", "4294", "10000000", "99999999", "100000000", "999999998", mostNumber}
	wrong := []string{
		"", "00", "01", "001", "000000000", "000000001", "0000000000", "1000000000", "9999999999", "01000000000", "18446744073709551617", "4294967296", strings.Repeat("9", 400),
		"+1", "-1", "-0", "+0", "1.0", "1,0", "1e1", "0x1", "0b1", "0o1", "1_0", "1\t", "\t1", "1\r", "\x001", "1\x00", "x", "N", "a", "O", "l", ":", "/", "1:", "1/",
		"\u0661", "1\u0662", "\uff11", "\xff", "1\xff", "\xb1", "one", "up", "10.0.0.2",
	}
	for i, form := range deskForms {
		for at, kind := range strings.Split(form, " ") {
			if kind != "N" {
				continue
			}
			for _, n := range right {
				text := put(deskLines[i], at, n) + "\n"
				if form == "tick N" && (len(n) > 2 || n > "20" && len(n) == 2) {
					holdWrongLine(t, text, 0)
					continue
				}
				holdRun(t, text, plainDeskRun(text))
				if got := impl.DeskFault(text); got.Code != impl.OK {
					t.Errorf("DeskFault(%q): got %+v", text, got)
				}
			}
			for _, n := range wrong {
				holdWrongLine(t, put(deskLines[i], at, n)+"\n", 0)
			}
		}
	}
	for n := range 120 {
		text := "tick " + strconv.Itoa(n) + "\n"
		if n <= 20 {
			holdRun(t, text, impl.DeskOut{Text: "ok\n"})
		} else {
			holdWrongLine(t, text, 0)
		}
	}
}

// TestDeskAnyWord: where a word is in capitals, no word makes a line wrong, but none.
func TestDeskAnyWord(t *testing.T) {
	words := []string{"x", "\t", "\r", "\x00", "\v", "\xff", "é", "\u00a0", "\u2028", "ADDR", "NET", "KEY", "N", "0", "00", "-1", "10.0.0.2", "10.6.0.0/16", "tick", "up", "\\", "\"", "%d", ",", strings.Repeat("k", 32), strings.Repeat("k", 33), strings.Repeat("9", 5000)}
	for i, form := range deskForms {
		for at, kind := range strings.Split(form, " ") {
			if !slices.Contains([]string{"ADDR", "NET", "KEY"}, kind) {
				continue
			}
			for _, word := range append(words, wrongTexts...) {
				text := put(deskLines[i], at, word) + "\n"
				holdRun(t, text, plainDeskRun(text))
				noWord := word == "" || strings.ContainsAny(word, " \n")
				if got := impl.DeskFault(text); (got.Code == impl.OK) == noWord {
					t.Errorf("DeskFault(%q): got %+v", text, got)
				}
			}
		}
	}
}

// TestDeskUpAndDown: in these letters alone.
func TestDeskUpAndDown(t *testing.T) {
	for _, word := range []string{"UP", "Up", "uP", "u", "p", "upp", "up\x00", "\tup", "DOWN", "Down", "dowN", "dow", "own", "downs", "down\r", "on", "off", "0", "1", "true", "N", "KEY", "", "up,down", "updown", "ｕｐ"} {
		holdWrongLine(t, "link 0 0 "+word+"\n", 0)
		holdWrongLine(t, "link 0 0 down\nlink 0 0 "+word+"\n", 1)
	}
	holdTold(t, "link 0 0 down", "ok", "link 0 0 up", "ok")
}

// TestDeskSize: a text of more than MaxBytes bytes is looked at no further.
func TestDeskSize(t *testing.T) {
	head, tail := "tell 10 10.0.0.2 10.6.0.0/16 2 ", " 3\n"
	long := func(size int) string { return head + strings.Repeat("k", size-len(head)-len(tail)) + tail }
	for size, want := range map[int]impl.DeskOut{
		7999: {Text: "error 1\n"}, 8000: {Text: "error 1\n"}, 8001: {Code: impl.ErrSize}, 8002: {Code: impl.ErrSize}, 20000: {Code: impl.ErrSize},
	} {
		if got := long(size); len(got) != size {
			t.Fatalf("the test's own text has %d bytes", len(got))
		}
		holdRun(t, long(size), want)
	}
	for _, part := range []string{"\n", " ", "x", "\x00", "\xff", "tick 1\n", "tick 21\n", "tick 1"} {
		text := strings.Repeat(part, 8001)
		holdRun(t, text, impl.DeskOut{Code: impl.ErrSize})
		holdRun(t, text[:8001], impl.DeskOut{Code: impl.ErrSize})
		holdRun(t, text[:8000], plainDeskRun(text[:8000]))
		if got := impl.DeskRun(text[:8000]); got.Code != impl.ErrSyntax {
			t.Errorf("8000 bytes of %q: got %+v", part, got)
		}
	}
	// In 30 lines of 266 bytes there is no fault.
	line := "route 0 " + strings.Repeat("9", 257) + "\n"
	holdRun(t, strings.Repeat(line, mostDesk), impl.DeskOut{Text: strings.Repeat("error 3\n", mostDesk)})
}

// TestDeskTick: what is sent and dropped behind so many ticks.
func TestDeskTick(t *testing.T) {
	holdTold(t,
		"tick 0", "ok", "sent 0", "0", "sent 1", "0",
		"tick 1", "ok", "sent 0", "2", "sent 0", "0", "sent 1", "2",
		"tick 1", "ok", "sent 0", "0",
		"tick 1", "ok", "sent 0", "2", "sent 1", "2",
		"tick 20", "ok", "sent 0", "4", "sent 1", "4",
	)
	// Of 14 frames a tenant has room for four.
	holdTold(t, "tick 20", "ok", "tell 9 10.0.0.2 10.6.0.0/16 2 red 1", "10 10 1", "sent 0", "4", "sent 1", "4", "sent 0", "0")
	// More at once is as much in parts.
	for _, parts := range [][]string{{"tick 20"}, {"tick 10", "tick 10"}, {"tick 0", "tick 19", "tick 1"}, {"tick 7", "tick 0", "tick 13"}} {
		l := []string{"tell 10 10.0.0.2 10.6.0.0/16 2 red 1", "0 0 0", "leak 0 1 0.0.0.0/0 1", "ok"}
		for _, part := range parts {
			l = append(l, part, "ok")
		}
		holdTold(t, append(l, "table 0", "10.0.0.0/24=1,10.0.1.0/24=1", "tell 1 10.0.0.2 10.6.0.0/16 2 red 2", "10 14 1")...)
	}
	// As many as a text can ask for.
	holdRun(t, strings.Repeat("tick 20\n", mostDesk), impl.DeskOut{Text: strings.Repeat("ok\n", mostDesk)})
}

// TestDeskTell: what the drops of both tenants and Lost are behind each that is not taken.
func TestDeskTell(t *testing.T) {
	holdTold(t,
		"tell 10 10.0.0.2 10.6.0.0/16 2 red 3", "0 0 0",
		"tell 10 10.0.0.2 10.6.0.0/16 2 red 3", "1 0 0", // the same again
		"tell 10 10.0.0.2 10.6.0.0/16 5 red 2", "2 0 0", // a lower seq
		"tell 10 10.0.0.2 10.6.0.0/16 5 blue 4", "3 0 0", // the other one's key
		"tell 10 10.0.0.2 10.6.0.0/16 5 Red 4", "4 0 0",
		"tell 20 10.0.0.2 10.6.0.0/16 5 red 4", "4 1 0",
		"tell 11 10.0.0.2 10.6.0.0/16 5 red 4", "5 1 0", // the wrong Vlan: no neighbour there
		"tell 12 10.0.0.2 10.6.0.0/16 5 red 4", "5 1 1", // the wrong Vlan: nobody's
		"tell 1 10.0.0.2 10.6.0.0/16 5 red 4", "5 1 2",
		"tell 4094 10.0.0.2 10.6.0.0/16 5 red 4", "5 1 3",
		"tell 0 10.0.0.2 10.6.0.0/16 5 red 4", "error 1",
		"tell 4095 10.0.0.2 10.6.0.0/16 5 red 4", "error 1",
		"tell "+mostNumber+" 10.0.0.2 10.6.0.0/16 5 red 4", "error 1",
		"tell 4106 10.0.0.2 10.6.0.0/16 5 red 4", "error 1",
		"tell 65546 10.0.0.2 10.6.0.0/16 5 red 4", "error 1",
		"table 0", "10.0.0.0/24=1,10.0.1.0/24=1,10.6.0.0/16=3",
		"table 1", "10.0.0.0/24=1,10.0.1.0/24=1",
		"tell 20 10.0.0.2 10.6.0.0/16 5 blue 3", "5 1 3",
		"tell 10 10.0.0.2 10.6.0.0/16 5 red 4", "5 1 3",
		"table 0", "10.0.0.0/24=1,10.0.1.0/24=1,10.6.0.0/16=6",
		"table 1", "10.0.0.0/24=1,10.0.1.0/24=1,10.6.0.0/16=6",
		"tell 10 10.0.0.2 10.6.0.0/16 6 red\x00 5", "5 1 3", // another key of the same mac
		"table 0", "10.0.0.0/24=1,10.0.1.0/24=1,10.6.0.0/16=7",
	)
	// Who tells: a neighbour of the Iface, that is not the tenant itself.
	holdTold(t,
		"tell 10 10.0.0.1 10.6.0.0/16 2 red 1", "1 0 0",
		"tell 10 10.0.0.0 10.6.0.0/16 2 red 1", "1 0 0",
		"tell 10 10.0.0.255 10.7.0.0/16 2 red 1", "1 0 0",
		"tell 10 10.0.1.2 10.6.0.0/16 2 red 1", "2 0 0",
		"tell 10 0.0.0.0 10.6.0.0/16 2 red 1", "3 0 0",
		"tell 10 255.255.255.255 10.6.0.0/16 2 red 1", "4 0 0",
		"tell 10 224.0.0.9 10.6.0.0/16 2 red 1", "5 0 0",
		"tell 11 10.0.1.2 10.8.0.0/16 2 red 1", "5 0 0",
		"tell 21 10.0.1.2 10.8.0.0/16 3 blue 1", "5 0 0",
		"route 0 10.6.0.0", "10.6.0.0/16 3 10.0.0.0",
		"route 0 10.7.0.0", "10.7.0.0/16 3 10.0.0.255",
		"route 0 10.8.0.0", "10.8.0.0/16 3 10.0.1.2",
		"route 1 10.8.0.0", "10.8.0.0/16 4 10.0.1.2",
		"link 1 1 down", "ok",
		"tell 21 10.0.1.2 10.8.0.0/16 3 blue 2", "5 1 0",
		"tell 20 10.0.0.2 10.8.0.0/16 3 blue 2", "5 1 0",
	)
}

// TestDeskTellEdges: Metrics, seqs and keys at their edges, and what can't be read, which comes ahead of what may not be.
func TestDeskTellEdges(t *testing.T) {
	red32 := strings.Repeat("k", 32)
	holdTold(t,
		"tell 10 10.0.0.2 10.6.0.0/16 0 red 1", "error 1",
		"tell 10 10.0.0.2 10.6.0.0/16 17 red 1", "error 1",
		"tell 10 10.0.0.2 10.6.0.0/16 "+mostNumber+" red 1", "error 1",
		"tell 10 10.0.0.2 10.6.0.0/16 1 red 0", "error 1",
		"tell 10 10.0.0.2 10.6.0.0/16 1 red 1000001", "error 1",
		"tell 10 10.0.0.2 10.6.0.0/16 1 "+red32+"k 1", "error 1",
		"tell 10 10.0.0.2 10.6.0.0/16 1 "+red32+" 1", "1 0 0",
		"tell 10 10.0.0.2 10.6.0.0/16 1 r 1", "2 0 0",
		"tell 10 10.0.0.2 10.6.0.0/16 1 red 1", "2 0 0",
		"table 0", "10.0.0.0/24=1,10.0.1.0/24=1,10.6.0.0/16=2",
		"tell 10 10.0.0.2 10.6.0.0/16 15 red 2", "2 0 0",
		"table 0", "10.0.0.0/24=1,10.0.1.0/24=1,10.6.0.0/16=16",
		"tell 10 10.0.0.2 10.6.0.0/16 16 red 3", "2 0 0",
		"tell 10 10.0.0.2 10.7.0.0/16 16 red 4", "2 0 0",
		"tell 10 10.0.0.2 0.0.0.0/0 14 red 5", "2 0 0",
		"tell 10 10.0.0.2 255.255.255.255/32 1 red 1000000", "2 0 0",
		"tell 10 10.0.0.2 10.7.0.0/16 1 red 1000000", "3 0 0",
		"tell 10 10.0.0.2 10.7.0.0/16 1 red 999999", "4 0 0",
		"table 0", "0.0.0.0/0=15,10.0.0.0/24=1,10.0.1.0/24=1,10.6.0.0/16=16,255.255.255.255/32=2",
	)
	holdTold(t,
		"tell 10 10.0.0.2 10.6.0.1/16 2 red 1", "error 3",
		"tell 10 10.0.0.2 10.6.0.0 2 red 1", "error 3",
		"tell 10 10.0.0.2 10.6.0.0/33 2 red 1", "error 3",
		"tell 10 10.0.0.256 10.6.0.0/16 2 red 1", "error 3",
		"tell 10 10.0.0.2/32 10.6.0.0/16 2 red 1", "error 3",
		"tell 10 10.6.0.0/16 10.0.0.2 2 red 1", "error 3",
		"tell 10 ADDR NET 2 red 1", "error 3",
		"tell 0 10.0.0.2 10.6.0.1/16 2 red 1", "error 3",
		"tell 4095 10.0.0 10.6.0.0/16 2 red 1", "error 3",
		"tell 10 10.0.0 10.6.0.0/16 0 red 1", "error 3",
		"tell 10 10.0.0.2 10.6.0.0/016 17 red 1", "error 3",
		"tell 10 10.0.0.2 10.06.0.0/16 2 "+red32+"k 1", "error 3",
		"tell 10 010.0.0.2 10.6.0.0/16 2 red 0", "error 3",
		"tell 12 10.0.0.2 x 2 red 1", "error 3",
		"tell 12 x 10.6.0.0/16 2 red 1", "error 3",
		"tell 0 10.0.0.2 10.6.0.0/16 17 blue 0", "error 1",
		"tell 20 10.0.0.2 10.6.0.0/16 2 blue 1", "0 0 0", // none of these counts
		"table 1", "10.0.0.0/24=1,10.0.1.0/24=1,10.6.0.0/16=3",
	)
}

// TestDeskTellMany: how much is heard between two ticks no Quota tells; who is heard has room for eight.
func TestDeskTellMany(t *testing.T) {
	var l []string
	for seq := 1; seq <= 10; seq++ {
		l = append(l, fmt.Sprintf("tell 10 10.0.0.2 10.%d.0.0/16 2 red %d", 5+seq%6, seq), "0 0 0")
	}
	holdTold(t, append(l,
		"table 0", "10.0.0.0/24=1,10.0.1.0/24=1,10.5.0.0/16=3,10.6.0.0/16=3,10.7.0.0/16=3,10.8.0.0/16=3,10.9.0.0/16=3,10.10.0.0/16=3",
		"tick 1", "ok",
		"tell 10 10.0.0.2 10.20.0.0/16 2 red 11", "0 0 0", // a full table
		"table 0", "10.0.0.0/24=1,10.0.1.0/24=1,10.5.0.0/16=3,10.6.0.0/16=3,10.7.0.0/16=3,10.8.0.0/16=3,10.9.0.0/16=3,10.10.0.0/16=3",
		"sent 0", "2",
	)...)
	l = nil
	for by := 2; by <= 9; by++ {
		l = append(l, fmt.Sprintf("tell 10 10.0.0.%d 10.6.0.0/16 %d red 1", by, 12-by), "0 0 0")
	}
	holdTold(t, append(l,
		"route 0 10.6.0.1", "10.6.0.0/16 4 10.0.0.9",
		"tell 10 10.0.0.10 10.6.0.0/16 1 red 1", "1 0 0",
		"tell 11 10.0.1.2 10.6.0.0/16 1 red 1", "2 0 0",
		"tell 10 10.0.0.2 10.6.0.0/16 1 red 2", "2 0 0",
		"route 0 10.6.0.1", "10.6.0.0/16 2 10.0.0.2",
		"tell 20 10.0.0.10 10.6.0.0/16 1 blue 1", "2 0 0",
	)...)
	// What is too much to be sent is dropped, tenant by tenant.
	holdTold(t,
		"tick 3", "ok", "sent 1", "4", "tick 3", "ok",
		"tell 10 10.0.0.2 10.6.0.0/16 2 red 1", "2 0 0",
		"tick 1", "ok",
		"tell 10 10.0.0.2 10.6.0.0/16 2 red 2", "4 0 0",
		"sent 0", "4", "sent 1", "2",
	)
}

// TestDeskRoute: own, learned, the longest, out of reach, by a Leak, and none.
func TestDeskRoute(t *testing.T) {
	holdTold(t,
		"route 0 10.0.0.0", "10.0.0.0/24 1 own",
		"route 1 10.0.1.255", "10.0.1.0/24 1 own",
		"route 0 10.0.2.0", "-", "route 0 9.255.255.255", "-", "route 0 0.0.0.0", "-", "route 1 255.255.255.255", "-",
		"route 2 10.0.0.0", "error 6", "route 3 10.0.0.0", "error 6", "route "+mostNumber+" 10.0.2.0", "error 6",
		"route 0 10.0.0", "error 3", "route 1 10.0.0.0/24", "error 3", "route 0 own", "error 3",
		"route 2 10.0.0.00", "error 3", "route "+mostNumber+" -", "error 3",
		"tell 10 10.0.0.2 0.0.0.0/0 4 red 1", "0 0 0",
		"tell 11 10.0.1.2 10.0.0.0/25 7 red 1", "0 0 0",
		"route 0 10.0.0.127", "10.0.0.0/25 8 10.0.1.2",
		"route 0 10.0.0.128", "10.0.0.0/24 1 own",
		"route 0 255.255.255.255", "0.0.0.0/0 5 10.0.0.2",
		"route 1 10.0.0.127", "10.0.0.0/24 1 own",
		"tell 11 10.0.1.2 10.0.0.0/25 16 red 2", "0 0 0",
		"route 0 10.0.0.127", "10.0.0.0/24 1 own",
		"link 0 0 down", "ok",
		"route 0 10.0.0.127", "-",
		"route 0 10.0.1.127", "10.0.1.0/24 1 own",
	)
	holdTold(t,
		"tell 10 10.0.0.2 10.6.0.0/16 2 red 1", "0 0 0",
		"leak 0 1 10.6.0.0/15 3", "ok",
		"route 1 10.6.0.1", "-", // a rule works by a tick
		"tick 1", "ok",
		"route 1 10.6.0.1", "10.6.0.0/16 6 0.0.0.1",
		"leak 1 0 0.0.0.0/0 15", "ok",
		"tell 21 10.0.1.9 11.0.0.0/8 1 blue 9", "0 0 0",
		"tick 1", "ok",
		"route 0 11.0.0.0", "-", // 2 and 15 are out of reach
		"route 0 10.6.0.1", "10.6.0.0/16 3 10.0.0.2",
		"table 0", "10.0.0.0/24=1,10.0.1.0/24=1,10.6.0.0/16=3",
		"table 1", "10.0.0.0/24=1,10.0.1.0/24=1,10.6.0.0/16=6,11.0.0.0/8=2",
		"link 0 0 down", "ok",
		"tick 1", "ok",
		"route 0 10.6.0.1", "-",
		"route 1 10.6.0.1", "10.6.0.0/16 6 0.0.0.1", // until its time
		"tick 5", "ok",
		"route 1 10.6.0.1", "-",
	)
	holdTold(t,
		"tell 20 10.0.0.2 10.6.0.0/16 2 blue 1", "0 0 0", "leak 1 0 10.6.0.0/16 1", "ok", "tick 1", "ok", "route 0 10.6.9.9", "10.6.0.0/16 4 0.0.0.2",
	)
}

// TestDeskTable: all Routes in order, those out of reach too, until they go.
func TestDeskTable(t *testing.T) {
	holdTold(t,
		"table 0", "10.0.0.0/24=1,10.0.1.0/24=1", "table 1", "10.0.0.0/24=1,10.0.1.0/24=1",
		"table 2", "error 6", "table "+mostNumber, "error 6",
		"tell 11 10.0.1.2 10.0.0.0/8 3 red 1", "0 0 0",
		"tell 11 10.0.1.2 9.0.0.0/8 4 red 2", "0 0 0",
		"tell 11 10.0.1.2 10.0.0.0/24 1 red 3", "0 0 0",
		"table 0", "9.0.0.0/8=5,10.0.0.0/8=4,10.0.0.0/24=1,10.0.1.0/24=1",
		"link 0 1 down", "ok",
		"table 0", "9.0.0.0/8=16,10.0.0.0/8=16,10.0.0.0/24=1",
		"tick 3", "ok",
		"table 0", "9.0.0.0/8=16,10.0.0.0/8=16,10.0.0.0/24=1",
		"tick 1", "ok",
		"table 0", "10.0.0.0/24=1",
		"link 0 0 down", "ok",
		"table 0", "-",
		"route 0 10.0.0.1", "-",
		"table 1", "10.0.0.0/24=1,10.0.1.0/24=1",
		"link 0 1 up", "ok",
		"table 0", "10.0.1.0/24=1",
	)
	holdTold(t,
		"tell 10 10.0.0.2 10.6.0.0/16 2 red 1", "0 0 0",
		"tick 5", "ok", "table 0", "10.0.0.0/24=1,10.0.1.0/24=1,10.6.0.0/16=3",
		"tick 1", "ok", "table 0", "10.0.0.0/24=1,10.0.1.0/24=1,10.6.0.0/16=16",
		"tick 4", "ok", "table 0", "10.0.0.0/24=1,10.0.1.0/24=1",
	)
}

// TestDeskLink: each code that there may be.
func TestDeskLink(t *testing.T) {
	holdTold(t,
		"link 0 0 up", "error 10", "link 0 1 up", "error 10", "link 1 0 up", "error 10", "link 1 1 up", "error 10",
		"link 0 2 up", "error 6", "link 0 2 down", "error 6", "link 1 3 down", "error 6", "link 2 0 down", "error 6", "link 2 2 up", "error 6",
		"link "+mostNumber+" 0 down", "error 6", "link 0 "+mostNumber+" up", "error 6",
		"table 0", "10.0.0.0/24=1,10.0.1.0/24=1",
		"link 0 1 down", "ok", "link 0 1 down", "error 10",
		"table 0", "10.0.0.0/24=1", "table 1", "10.0.0.0/24=1,10.0.1.0/24=1",
		"link 1 0 down", "ok", "link 1 0 down", "error 10",
		"table 0", "10.0.0.0/24=1", "table 1", "10.0.1.0/24=1",
		"link 0 1 up", "ok", "link 0 1 up", "error 10",
		"tick 1", "ok", "sent 0", "2", "sent 1", "1",
	)
	l := []string{"link 0 0 down", "ok"}
	for seq := 1; seq <= 7; seq++ {
		l = append(l, fmt.Sprintf("tell 11 10.0.1.2 %d.0.0.0/8 2 red %d", 10+seq, seq), "0 0 0")
	}
	full := "10.0.1.0/24=1,11.0.0.0/8=3,12.0.0.0/8=3,13.0.0.0/8=3,14.0.0.0/8=3,15.0.0.0/8=3,16.0.0.0/8=3,17.0.0.0/8=3"
	holdTold(t, append(l,
		"link 0 0 up", "error 9", "table 0", full, "link 0 0 up", "error 9", "link 0 0 down", "error 10", "tick 10", "ok", "link 0 0 up", "ok", "table 0", "10.0.0.0/24=1,10.0.1.0/24=1",
	)...)
}

// TestDeskLeak: at most four, of tenants and numbers that may be, there or not.
func TestDeskLeak(t *testing.T) {
	holdTold(t,
		"leak 0 0 10.0.0.0/8 1", "error 1", "leak 1 1 10.0.0.0/8 1", "error 1", "leak 2 2 10.0.0.0/8 1", "error 1",
		"leak 0 3 10.0.0.0/8 1", "error 1", "leak 3 0 10.0.0.0/8 1", "error 1", "leak "+mostNumber+" 0 10.0.0.0/8 1", "error 1",
		"leak 0 1 10.0.0.0/8 0", "error 1", "leak 0 1 10.0.0.0/8 16", "error 1", "leak 0 1 10.0.0.0/8 "+mostNumber, "error 1",
		"leak 0 1 10.0.0.1/8 1", "error 3", "leak 0 1 10.0.0.0 1", "error 3", "leak 0 1 NET 1", "error 3",
		"leak 0 0 10.0.0.1/8 1", "error 3", "leak 0 3 10.0.0.0/33 1", "error 3", "leak 0 1 x 0", "error 3",
		"tell 10 10.0.0.2 10.6.0.0/16 2 red 1", "0 0 0",
		"tick 1", "ok",
		"table 1", "10.0.0.0/24=1,10.0.1.0/24=1", // none of these lets anything through
		"leak 0 1 0.0.0.0/0 1", "ok", "leak 0 2 10.0.0.0/8 15", "ok", "leak 2 0 255.255.255.255/32 15", "ok", "leak 1 2 10.0.0.0/8 1", "ok",
		"leak 1 0 10.0.0.0/8 1", "error 1", "leak 0 1 0.0.0.0/0 1", "error 1", "leak 1 0 10.0.0.1/8 1", "error 3",
		"tick 1", "ok",
		"table 1", "10.0.0.0/24=1,10.0.1.0/24=1,10.6.0.0/16=4",
		"table 2", "error 6",
	)
	// Within one rule and not within the other one; the least Add is what counts.
	holdTold(t,
		"tell 10 10.0.0.2 10.6.0.0/16 2 red 1", "0 0 0", "tell 10 10.0.0.2 11.0.0.0/8 2 red 2", "0 0 0", "tell 10 10.0.0.2 10.6.0.0/15 2 red 3", "0 0 0",
		"leak 0 1 10.6.0.0/16 9", "ok", "leak 0 1 10.0.0.0/8 2", "ok", "tick 1", "ok",
		"table 1", "10.0.0.0/24=1,10.0.1.0/24=1,10.6.0.0/15=5,10.6.0.0/16=5",
		"leak 0 1 11.0.0.0/8 13", "ok", "tick 1", "ok",
		"table 1", "10.0.0.0/24=1,10.0.1.0/24=1,10.6.0.0/15=5,10.6.0.0/16=5",
	)
}

// TestDeskSent: what there was, and nothing behind it.
func TestDeskSent(t *testing.T) {
	holdTold(t,
		"sent 0", "0", "sent 1", "0", "sent 2", "error 6", "sent 3", "error 6", "sent "+mostNumber, "error 6",
		"tick 1", "ok", "sent 1", "2", "sent 1", "0", "sent 2", "error 6", "sent 0", "2", "sent 0", "0",
		"link 0 0 down", "ok", "tick 2", "ok", "sent 0", "1", "sent 1", "2",
		"link 0 1 down", "ok", "tick 20", "ok", "sent 0", "0", "sent 1", "4",
	)
}

// anyOne is one of them.
func anyOne(r *rand.Rand, l ...string) string {
	return l[r.Intn(len(l))]
}

// anyDeskLine is right, of that tenant; below 0 of any one, there or not.
func anyDeskLine(r *rand.Rand, tenant int) string {
	who, vlan := anyOne(r, "0", "1", "0", "1", "2"), anyOne(r, "10", "11", "20", "21", "10", "11", "20", "21", "12", "4095")
	if tenant >= 0 {
		who, vlan = strconv.Itoa(tenant), fmt.Sprint(10*tenant+10+r.Intn(2))
	}
	addrs := []string{"10.6.6.6", "10.7.0.0", "10.6.6.6", "10.0.0.1", "10.0.1.9", "11.1.1.1", "255.0.0.0", "10.6.6"}
	switch r.Intn(12) {
	case 0, 1, 2:
		return "route " + who + " " + anyOne(r, addrs...)
	case 3, 4:
		return "table " + who
	case 5:
		return "link " + who + " " + anyOne(r, "0", "1", "0", "1", "2") + " " + anyOne(r, "up", "down")
	case 6:
		return "sent " + who
	}
	by := map[byte]string{'0': "10.0.0.", '1': "10.0.1.", '2': "10.0.0."}[vlan[1]] + strconv.Itoa(1+r.Intn(4))
	nets := []string{"10.6.0.0/16", "10.6.0.0/15", "10.6.6.0/24", "0.0.0.0/0", "10.0.0.0/24", "11.0.0.0/8", "12.0.0.0/8", "10.6.0.1/16"}
	own := map[byte]string{'1': "red", '2': "blue"}[vlan[0]]
	if own == "" || r.Intn(5) == 0 {
		own = anyOne(r, "red", "blue", "green")
	}
	return fmt.Sprintf("tell %s %s %s %d %s %d", vlan, by, anyOne(r, nets...), 1+r.Intn(1+r.Intn(17)), own, r.Intn(40))
}

// anyDesk is a text of so many lines, all right.
func anyDesk(r *rand.Rand, many int) string {
	out := ""
	for range many {
		switch r.Intn(9) {
		case 0, 1:
			out += "tick " + anyOne(r, "1", "1", "1", "1", "2", "2", "3", "0", "8", "20") + "\n"
		case 2:
			out += fmt.Sprintf("leak %s %s %d\n", anyOne(r, "0 1", "1 0", "0 1", "1 0", "2 1", "0 2", "0 0", "1 3"), anyOne(r, "10.0.0.0/8", "0.0.0.0/0", "11.0.0.0/8", "11.0.0.0/7"), r.Intn(6))
		default:
			out += anyDeskLine(r, -1) + "\n"
		}
	}
	return out
}

// TestDeskAny: any texts, right and wrong, against the plain ones.
func TestDeskAny(t *testing.T) {
	r := rand.New(rand.NewSource(111))
	kinds := map[string]int{}
	for range 1500 {
		text := anyDesk(r, r.Intn(mostDesk+1))
		want := plainDeskRun(text)
		holdRun(t, text, want)
		for i, told := range cutLines(want.Text) {
			word, _, _ := strings.Cut(cutLines(text)[i], " ")
			kinds[word]++
			kinds[strings.TrimSuffix(told, "\n")]++
			if strings.Contains(told, "own") {
				kinds["own"]++
			}
			if strings.Contains(told, " 0.0.0.") {
				kinds["by a Leak"]++
			}
			if strings.Contains(told, "=16") {
				kinds["out of reach"]++
			}
		}
	}
	for _, kind := range append([]string{"ok", "-", "own", "by a Leak", "out of reach", "error 1", "error 3", "error 6", "error 10", "0", "2", "4"}, impl.DeskWords()...) {
		if kinds[kind] < 20 {
			t.Errorf("the test's own texts tell %q %d times", kind, kinds[kind])
		}
	}
}

// TestDeskTurnedText: a byte turned, put in or left out anywhere makes the text another one, right or not.
func TestDeskTurnedText(t *testing.T) {
	r := rand.New(rand.NewSource(112))
	wrong := 0
	for range 40 {
		text := anyDesk(r, 1+r.Intn(6))
		for at := range len(text) {
			b := anyOne(r, " ", "\n", "0", "1", "9", "x", "\t", "\x00", "N", anyText(r, 1))
			for _, other := range []string{text[:at] + b + text[at+1:], text[:at] + b + text[at:], text[:at] + text[at+1:], text[:at]} {
				want := plainDeskRun(other)
				holdRun(t, other, want)
				if want.Code != impl.OK {
					wrong++
				}
			}
		}
	}
	if wrong < 2000 {
		t.Errorf("the test's own texts are wrong %d times", wrong)
	}
	for range 300 {
		text := anyText(r, r.Intn(40))
		holdRun(t, text, plainDeskRun(text))
	}
}

// TestP17EachLineTellsALine: so many as there are, and the first lines tell the beginning of what all tell.
func TestP17EachLineTellsALine(t *testing.T) {
	r := rand.New(rand.NewSource(113))
	for range 120 {
		lines := cutLines(anyDesk(r, mostDesk))
		all := impl.DeskRun(strings.Join(lines, ""))
		told := cutLines(all.Text)
		if all.Code != impl.OK || len(told) != mostDesk {
			t.Fatalf("30 lines %q: got %+v", lines, all)
		}
		for many := range mostDesk + 1 {
			got := impl.DeskRun(strings.Join(lines[:many], ""))
			if want := strings.Join(told[:many], ""); got != (impl.DeskOut{Text: want}) {
				t.Errorf("the first %d of %q: got %+v, want %q", many, lines, got, want)
			}
		}
		for i, line := range told {
			words := strings.Split(strings.TrimSuffix(line, "\n"), " ")
			if !strings.HasSuffix(line, "\n") || slices.Contains(words, "") {
				t.Errorf("the line %q tells %q", lines[i], line)
			}
		}
	}
}

// TestP17OneByOne: each line tells what the box is asked of it, behind what those ahead of it did.
func TestP17OneByOne(t *testing.T) {
	r := rand.New(rand.NewSource(114))
	for range 150 {
		text := anyDesk(r, mostDesk)
		b, told := plainDesk(), cutLines(impl.DeskRun(text).Text)
		for i, line := range cutLines(text) {
			was := copyBox(b)
			want := plainDeskLine(&b, line) + "\n"
			if told[i] != want {
				t.Fatalf("the line %d of %q: got %q, want %q", i, text, told[i], want)
			}
			if strings.HasPrefix(want, "error") && !sameBox(was, b) {
				t.Fatalf("the test's own box is changed by %q", line)
			}
		}
	}
}

// TestP17WhatOnlyAsksChangesNothing: route, table, and what tells an error, told in between, change nothing of what the others tell.
func TestP17WhatOnlyAsksChangesNothing(t *testing.T) {
	r := rand.New(rand.NewSource(115))
	asks := []string{
		"route 0 10.6.6.6\n", "route 1 9.9.9.9\n", "table 0\n", "table 1\n", "tick 0\n", "route 2 10.0.0.1\n", "route 0 x\n", "table 2\n", "sent 2\n", "link 2 0 up\n", "link 0 2 down\n",
		"leak 0 0 10.0.0.0/8 1\n", "leak 0 1 x 1\n", "tell 0 10.0.0.2 10.6.0.0/16 1 red 39\n", "tell 10 10.0.0.2 x 1 red 39\n", "tell 10 10.0.0.2 10.6.0.0/16 17 red 39\n",
	}
	for range 100 {
		lines := cutLines(anyDesk(r, mostDesk/2))
		mixed := ""
		for _, line := range lines {
			mixed += asks[r.Intn(len(asks))] + line
		}
		got := cutLines(impl.DeskRun(mixed).Text)
		for i, want := range cutLines(impl.DeskRun(strings.Join(lines, "")).Text) {
			if got[2*i+1] != want {
				t.Fatalf("%q: the line %d tells %q, it would have told %q", mixed, 2*i+1, got[2*i+1], want)
			}
		}
	}
}

// TestP18TheirOwnWays: the same addresses lead each tenant its own way.
func TestP18TheirOwnWays(t *testing.T) {
	holdTold(t,
		"tell 10 10.0.0.2 10.6.0.0/16 2 red 1", "0 0 0",
		"tell 21 10.0.1.7 10.6.0.0/16 9 blue 1", "0 0 0",
		"route 0 10.6.0.1", "10.6.0.0/16 3 10.0.0.2",
		"route 1 10.6.0.1", "10.6.0.0/16 10 10.0.1.7",
		"tell 20 10.0.0.2 10.7.0.0/16 2 blue 1", "0 0 0",
		"route 0 10.7.0.1", "-",
		"route 1 10.7.0.1", "10.7.0.0/16 3 10.0.0.2",
		"link 0 0 down", "ok",
		"route 0 10.6.0.1", "-", "route 0 10.0.0.9", "-",
		"route 1 10.6.0.1", "10.6.0.0/16 10 10.0.1.7", "route 1 10.0.0.9", "10.0.0.0/24 1 own",
		"tell 10 10.0.0.2 10.6.0.0/16 2 red 2", "1 0 0",
		"tell 20 10.0.0.2 10.7.0.0/16 4 blue 2", "1 0 0",
		"route 1 10.7.0.1", "10.7.0.0/16 5 10.0.0.2",
	)
}

// ofTenant leaves out of what a line tells what is another tenant's: of tell its own drops stay.
func ofTenant(tenant int, line string, told string) string {
	l := strings.Split(told, " ")
	if strings.HasPrefix(line, "tell") && len(l) == 3 {
		return l[tenant]
	}
	return told
}

// TestP18NothingOfTheOther: without a rule a tenant's lines tell the same, with the other one's lines between and without.
func TestP18NothingOfTheOther(t *testing.T) {
	r := rand.New(rand.NewSource(116))
	for range 200 {
		tenant := r.Intn(2)
		alone, mixed := "", ""
		var at []int
		for many := range mostDesk {
			line := anyDeskLine(r, r.Intn(2)) + "\n"
			if r.Intn(6) == 0 {
				line = fmt.Sprintf("tick %d\n", r.Intn(5))
			} else if r.Intn(2) == 0 {
				line = anyDeskLine(r, tenant) + "\n"
			}
			mixed += line
			w := strings.Split(line, " ")
			if w[0] == "tick" || w[0] == "tell" && int(w[1][0]-'1') == tenant || w[0] != "tell" && w[1][:1] == strconv.Itoa(tenant) {
				alone, at = alone+line, append(at, many)
			}
		}
		got, want := cutLines(impl.DeskRun(mixed).Text), cutLines(impl.DeskRun(alone).Text)
		if len(got) != mostDesk || len(want) != len(at) {
			t.Fatalf("%q and %q: got %d and %d lines", mixed, alone, len(got), len(want))
		}
		for i, line := range cutLines(alone) {
			if a, b := ofTenant(tenant, line, got[at[i]]), ofTenant(tenant, line, want[i]); a != b {
				t.Fatalf("%q: the tenant %d is told %q by %q, it would have been %q", mixed, tenant, a, line, b)
			}
		}
	}
}

// TestP18NotHeard: by another key, or again, a line changes nothing but the drops of whom it is said to.
func TestP18NotHeard(t *testing.T) {
	r := rand.New(rand.NewSource(117))
	looks := "table 0\ntable 1\nroute 0 10.6.6.6\nroute 1 10.6.6.6\nsent 0\nsent 1\ntick 1\ntable 0\ntable 1\nsent 0\nsent 1\n"
	for i := range 60 {
		head := anyDesk(r, 12) + "link 0 0 up\nlink 0 1 up\nlink 1 0 up\nlink 1 1 up\n"
		tenant := i % 2
		key, seq := []string{"red", "blue"}[tenant], 900
		first := fmt.Sprintf("tell %d 10.0.0.2 10.6.0.0/16 %d %s %d\n", 10*tenant+10, 1+r.Intn(16), key, seq)
		for _, other := range []string{"blue", "red", "Red", "rred", "re", "blu", "blueblue", "r", "\x00", "\x00" + key, strings.Repeat(key, 6)} {
			if other == key {
				continue
			}
			holdUnheard(t, head, tenant, strings.Replace(first, key, other, 1), looks)
		}
		heard := cutLines(impl.DeskRun(head + first).Text)
		if drops := ofTenant(tenant, first, heard[len(heard)-1]); drops != dropsOf(head, tenant) {
			continue
		}
		for _, again := range []int{seq, seq - 1, 1, 2} {
			holdUnheard(t, head+first, tenant, fmt.Sprintf("tell %d 10.0.0.2 10.6.0.0/16 %d %s %d\n", 10*tenant+10, 1+r.Intn(16), key, again), looks)
		}
	}
}

// dropsOf asks how many there are behind a text, by a frame that is nobody's.
func dropsOf(text string, tenant int) string {
	told := cutLines(impl.DeskRun(text + "tell 4094 10.0.0.2 10.6.0.0/16 1 red 1\n").Text)
	return strings.Split(told[len(told)-1], " ")[tenant]
}

// holdUnheard: the line is one more drop of that tenant, and all that is looked at behind it is as without it.
func holdUnheard(t *testing.T, head string, tenant int, line string, looks string) {
	t.Helper()
	told := cutLines(impl.DeskRun(head + line).Text)
	was, _ := strconv.Atoi(dropsOf(head, tenant))
	if got := ofTenant(tenant, line, told[len(told)-1]); got != strconv.Itoa(was+1) {
		t.Errorf("%q behind %q: got %q drops, there were %d", line, head, got, was)
	}
	if got, other := dropsOf(head+line, 1-tenant), dropsOf(head, 1-tenant); got != other {
		t.Errorf("%q behind %q: the other tenant has %q drops, it had %q", line, head, got, other)
	}
	want := impl.DeskRun(head + looks).Text[len(impl.DeskRun(head).Text):]
	if got := impl.DeskRun(head + line + looks).Text[len(impl.DeskRun(head+line).Text):]; got != want {
		t.Errorf("%q behind %q:\n got %q\nwant %q", line, head, got, want)
	}
}

// TestDeskWords: rising, and just those of the lines.
func TestDeskWords(t *testing.T) {
	want := []string{"leak", "link", "route", "sent", "table", "tell", "tick"}
	got := impl.DeskWords()
	if !slices.Equal(got, want) || !slices.IsSorted(got) {
		t.Fatalf("got %q, want %q", got, want)
	}
	for _, line := range deskLines {
		if word, _, _ := strings.Cut(line, " "); !slices.Contains(got, word) {
			t.Errorf("the word of %q is not told", line)
		}
	}
	for _, word := range got {
		if !slices.ContainsFunc(deskLines, func(line string) bool {
			return strings.HasPrefix(line, word+" ") && impl.DeskFault(line+"\n").Code == impl.OK
		}) {
			t.Errorf("no line begins with %q", word)
		}
	}
	for i := range got {
		got[i] = "x"
	}
	_ = append(got[:3], "y", "z")
	if again := impl.DeskWords(); !slices.Equal(again, want) {
		t.Errorf("what was told is written into: %q", again)
	}
	holdRun(t, strings.Join(deskLines, "\n")+"\n", plainDeskRun(strings.Join(deskLines, "\n")+"\n"))
}

// TestDeskKeepsNothing: each text begins with the same box, whatever was told ahead of it.
func TestDeskKeepsNothing(t *testing.T) {
	first := "table 0\ntable 1\nsent 0\nsent 1\ntell 12 10.0.0.2 10.6.0.0/16 2 red 1\nleak 0 1 10.0.0.0/8 1\n"
	want := impl.DeskOut{Text: "10.0.0.0/24=1,10.0.1.0/24=1\n10.0.0.0/24=1,10.0.1.0/24=1\n0\n0\n0 0 1\nok\n"}
	r := rand.New(rand.NewSource(118))
	for range 60 {
		text := anyDesk(r, mostDesk)
		once := impl.DeskRun(text)
		holdRun(t, first, want)
		holdRun(t, text, once)
		b := impl.DeskBox()
		b.Tenants[0].Inst.Rib.Routes[0].Metric = 7
		b.Tenants[1].Inst.Ifaces[0].Cost = 7
		b.Binds[0].Vlan = 77
		holdRun(t, text, once)
		holdBox(t, "the desk's box", boxOf(impl.DeskBox()), boxOf(plainDesk()))
	}
	text := strings.Clone("route 0 10.0.0.9\n")
	if got := impl.DeskRun(text).Text; shares(got, text) {
		t.Errorf("what is told shares memory with the text: %q", got)
	}
}
