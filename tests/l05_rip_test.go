package tests

import (
	"encoding/binary"
	"math"
	"math/bits"
	"math/rand"
	"reflect"
	"slices"
	"strings"
	"testing"

	"loop.example/g00634/impl"
)

const (
	ripHeadSize = 4
	entrySize   = 20
	leastSigned = 28
	macSize     = 16
	mostKey     = 32
)

var (
	edgeMetrics  = []int64{1, 2, 15, 16}
	wrongMetrics = []int64{0, -1, -16, 17, 18, 256 + 1, 65536 + 1, 1<<32 + 1, math.MaxInt64, math.MinInt64}
	edgeCmds     = []int64{1, 2}
	wrongCmds    = []int64{0, -1, -2, 3, 4, 255, 256 + 1, 256 + 2, 1<<32 + 1, math.MaxInt64, math.MinInt64}
	edgeSeqs     = []int64{1, 2, 255, 256, 65535, 65536, impl.MaxTime - 1, impl.MaxTime}
	wrongSeqs    = []int64{0, -1, impl.MaxTime + 1, impl.MaxTime + 2, 1<<32 + 1, math.MaxInt64, math.MinInt64}
	wrongLasts   = []int64{-1, -2, impl.MaxTime + 1, impl.MaxTime + 2, 1 << 32, math.MaxInt64, math.MinInt64}
	rightKeys    = []string{"k", "\x00", "\xff", "key", "red", strings.Repeat("a", 31), strings.Repeat("a", mostKey), strings.Repeat("\x00", mostKey)}
	wrongKeys    = []string{"", strings.Repeat("a", mostKey+1), strings.Repeat("\x00", mostKey+1), strings.Repeat("a", 64), strings.Repeat("a", 65), strings.Repeat("a", impl.MaxBytes)}
)

// someEntry is right, and no two of its fields are alike.
func someEntry() impl.Entry {
	return impl.Entry{Net: impl.Net{Addr: 0x0A010000, Len: 16}, Next: 0xC0A80102, Metric: 3, Tag: 1007}
}

// someRip is right, of so many entries, each another one.
func someRip(many int) impl.Rip {
	r := impl.Rip{Cmd: impl.CmTell}
	for i := range int64(many) {
		e := someEntry()
		e.Net = impl.NetOf(0x0A010000+i<<16, 16+i)
		e.Metric = 1 + i
		r.Entries = append(r.Entries, e)
	}
	return r
}

// anyEntry is right; each of its fields is often at an edge.
func anyEntry(r *rand.Rand) impl.Entry {
	of := func(edges []int64, most int64) int64 {
		if r.Intn(2) == 0 {
			return edges[r.Intn(len(edges))]
		}
		return r.Int63n(most)
	}
	length := of([]int64{0, 1, 8, 31, 32}, 33)
	return impl.Entry{
		Net:    impl.NetOf(of(edgeAddrs, topAddr+1), length),
		Next:   of(edgeAddrs, topAddr+1),
		Metric: 1 + of([]int64{0, 15}, 16),
		Tag:    of(edgeWords, 65536),
	}
}

// anyRip is right.
func anyRip(r *rand.Rand, many int) impl.Rip {
	out := impl.Rip{Cmd: 1 + r.Int63n(2)}
	for range many {
		out.Entries = append(out.Entries, anyEntry(r))
	}
	return out
}

// plainRip are the bytes of a Rip, laid down one by one, right or not.
func plainRip(r impl.Rip) string {
	b := []byte{byte(r.Cmd), 2, 0, 0}
	for _, e := range r.Entries {
		b = append(b, 0, 2)
		b = binary.BigEndian.AppendUint16(b, uint16(e.Tag))
		b = binary.BigEndian.AppendUint32(b, uint32(e.Net.Addr))
		b = binary.BigEndian.AppendUint32(b, uint32(uint64(0xFFFFFFFF00000000)>>e.Net.Len))
		b = binary.BigEndian.AppendUint32(b, uint32(e.Next))
		b = binary.BigEndian.AppendUint32(b, uint32(e.Metric))
	}
	return string(b)
}

// withMac has the mac behind a text that fits over it, whatever the text is.
func withMac(text string, key string) string {
	return text + hmac256(key, text)[:macSize]
}

// plainAhead is what stands ahead of the mac, right or not.
func plainAhead(r impl.Rip, seq int64) string {
	return string(binary.BigEndian.AppendUint32([]byte(plainRip(r)+"\xff\xff\x00\x03"), uint32(seq)))
}

// plainSigned signs a Rip, right or not.
func plainSigned(r impl.Rip, key string, seq int64) string {
	return withMac(plainAhead(r, seq), key)
}

// isRip looks at each field of a text by itself.
func isRip(text string) bool {
	if len(text) < ripHeadSize || (len(text)-ripHeadSize)%entrySize != 0 || len(text) > ripHeadSize+8*entrySize {
		return false
	}
	if text[0] != 1 && text[0] != 2 || text[1:4] != "\x02\x00\x00" {
		return false
	}
	for at := ripHeadSize; at < len(text); at += entrySize {
		e := []byte(text[at : at+entrySize])
		addr, mask, metric := binary.BigEndian.Uint32(e[4:]), binary.BigEndian.Uint32(e[8:]), binary.BigEndian.Uint32(e[16:])
		if wordAt(text, at) != 2 || bits.OnesCount32(mask) != bits.LeadingZeros32(^mask) || addr&^mask != 0 || metric < 1 || metric > 16 {
			return false
		}
	}
	return true
}

// plainOpenCode is what opening has to tell, asked in the document's order.
func plainOpenCode(text string, key string, last int64) int64 {
	if len(text) > impl.MaxBytes || len(key) > impl.MaxBytes {
		return impl.ErrSize
	}
	if key == "" || len(key) > mostKey || last < 0 || last > impl.MaxTime {
		return impl.ErrForm
	}
	if len(text) < leastSigned {
		return impl.ErrShort
	}
	ahead := text[:len(text)-macSize]
	if withMac(ahead, key) != text {
		return impl.ErrSum
	}
	said, sign := ahead[:len(ahead)-8], ahead[len(ahead)-8:]
	seq := int64(binary.BigEndian.Uint32([]byte(sign[4:])))
	if !isRip(said) || sign[:4] != "\xff\xff\x00\x03" || seq < 1 || seq > impl.MaxTime {
		return impl.ErrSyntax
	}
	if seq <= last {
		return impl.ErrRange
	}
	return impl.OK
}

// sameRip takes an empty list and none as the same.
func sameRip(a impl.Rip, b impl.Rip) bool {
	return a.Cmd == b.Cmd && slices.Equal(a.Entries, b.Entries)
}

// holdRipFault asks that there is nothing beside the code.
func holdRipFault(t *testing.T, what string, got impl.RipOut, code int64) {
	t.Helper()
	if got.Code != code || got.Seq != 0 || got.Rip.Cmd != 0 || len(got.Rip.Entries) != 0 {
		t.Errorf("%s: got %#v, want the code %d alone", what, got, code)
	}
}

// holdNoRip asks that a text is no right one's bytes.
func holdNoRip(t *testing.T, what string, text string) {
	t.Helper()
	if isRip(text) {
		t.Errorf("%s: the test asks for no Rip, but it is one: %x", what, text)
	}
	holdRipFault(t, what, impl.RipRead(text), impl.ErrSyntax)
}

// holdRipRead asks that a text is the bytes of that Rip.
func holdRipRead(t *testing.T, what string, text string, want impl.Rip) {
	t.Helper()
	if got := impl.RipRead(text); got.Code != impl.OK || got.Seq != 0 || !sameRip(got.Rip, want) {
		t.Errorf("%s: RipRead(%x): got %#v, want %#v", what, text, got, want)
	}
}

// holdShut asks that a text is not opened, and why.
func holdShut(t *testing.T, what string, text string, key string, last int64, code int64) {
	t.Helper()
	if plain := plainOpenCode(text, key, last); plain != code {
		t.Errorf("%s: the test asks for %d, but %d is right", what, code, plain)
	}
	holdRipFault(t, what, impl.RipOpen(text, key, last), code)
}

// holdOpen asks that a text is opened.
func holdOpen(t *testing.T, what string, text string, key string, last int64, want impl.Rip, seq int64) {
	t.Helper()
	if got := impl.RipOpen(text, key, last); got.Code != impl.OK || got.Seq != seq || !sameRip(got.Rip, want) {
		t.Errorf("%s: RipOpen by %q and %d: got %#v, want %#v and %d", what, key, last, got, want, seq)
	}
}

// turned has that byte of a text turned in those bits.
func turned(text string, at int, turn int) string {
	b := []byte(text)
	b[at] ^= byte(turn)
	return string(b)
}

// fieldsOf are the fields of an entry, the values at their edges, and those that may not be.
func fieldsOf() []struct {
	put         func(*impl.Entry, int64)
	edge, wrong []int64
} {
	return []struct {
		put         func(*impl.Entry, int64)
		edge, wrong []int64
	}{
		{func(e *impl.Entry, n int64) { e.Next = n }, edgeAddrs, wrongAddrs},
		{func(e *impl.Entry, n int64) { e.Metric = n }, edgeMetrics, wrongMetrics},
		{func(e *impl.Entry, n int64) { e.Tag = n }, edgeWords, wrongWords},
	}
}

// wrongEntries have each one field that may not be.
func wrongEntries() []impl.Entry {
	out := []impl.Entry{{}}
	for _, n := range wrongNets() {
		e := someEntry()
		e.Net = n
		out = append(out, e)
	}
	for _, f := range fieldsOf() {
		for _, n := range f.wrong {
			e := someEntry()
			f.put(&e, n)
			out = append(out, e)
		}
	}
	return out
}

// edgeEntries are right.
func edgeEntries() []impl.Entry {
	out := []impl.Entry{someEntry(), {Metric: 1}}
	for length := range int64(33) {
		for _, a := range []int64{0, topAddr, 0x0A010203} {
			e := someEntry()
			e.Net = impl.NetOf(a, length)
			out = append(out, e)
		}
	}
	for _, f := range fieldsOf() {
		for _, n := range f.edge {
			e := someEntry()
			f.put(&e, n)
			out = append(out, e)
		}
	}
	return out
}

func TestEntryRight(t *testing.T) {
	for _, e := range edgeEntries() {
		if !impl.EntryRight(e) {
			t.Errorf("EntryRight(%#v): got false", e)
		}
	}
	for _, e := range wrongEntries() {
		if impl.EntryRight(e) {
			t.Errorf("EntryRight(%#v): got true", e)
		}
	}
}

// holdRight asks the three that refuse what is not right.
func holdRight(t *testing.T, r impl.Rip, want bool) {
	t.Helper()
	if got := impl.RipRight(r); got != want {
		t.Errorf("RipRight of the Cmd %d and %d entries: got %v, want %v", r.Cmd, len(r.Entries), got, want)
	}
	said, signed := "", ""
	if want {
		said, signed = plainRip(r), plainSigned(r, "key", 5)
	}
	if got := impl.RipBytes(r); got != said {
		t.Errorf("RipBytes(%#v): got %x, want %x", r, got, said)
	}
	if got := impl.RipSign(r, "key", 5); got != signed {
		t.Errorf("RipSign(%#v): got %x, want %x", r, got, signed)
	}
}

func TestRipRight(t *testing.T) {
	for many := range impl.MaxEntries + 1 {
		for _, cmd := range edgeCmds {
			r := someRip(many)
			r.Cmd = cmd
			holdRight(t, r, true)
		}
		for _, cmd := range wrongCmds {
			r := someRip(many)
			r.Cmd = cmd
			holdRight(t, r, false)
		}
	}
	holdRight(t, impl.Rip{}, false)
	holdRight(t, impl.Rip{Cmd: impl.CmAsk}, true)
	holdRight(t, impl.Rip{Cmd: impl.CmAsk, Entries: []impl.Entry{}}, true)
	for _, many := range []int{9, 10, 16, 256, impl.MaxList, impl.MaxList + 1} {
		holdRight(t, impl.Rip{Cmd: impl.CmTell, Entries: slices.Repeat([]impl.Entry{someEntry()}, many)}, false)
	}
	for _, e := range edgeEntries() {
		holdRight(t, impl.Rip{Cmd: impl.CmTell, Entries: []impl.Entry{e}}, true)
		holdRight(t, impl.Rip{Cmd: impl.CmAsk, Entries: slices.Repeat([]impl.Entry{e}, impl.MaxEntries)}, true)
	}
	for _, e := range wrongEntries() {
		for many := 1; many <= impl.MaxEntries; many++ {
			r := someRip(many)
			for at := range many {
				bad := impl.Rip{Cmd: r.Cmd, Entries: slices.Clone(r.Entries)}
				bad.Entries[at] = e
				holdRight(t, bad, false)
			}
		}
	}
}

func TestRipBytesOneByOne(t *testing.T) {
	r := impl.Rip{Cmd: impl.CmTell, Entries: []impl.Entry{
		someEntry(),
		{Net: impl.Net{Addr: 0, Len: 0}, Next: 0, Metric: 16, Tag: 0},
		{Net: impl.Net{Addr: topAddr, Len: 32}, Next: topAddr, Metric: 1, Tag: 65535},
	}}
	want := "\x02\x02\x00\x00" +
		"\x00\x02\x03\xef\x0a\x01\x00\x00\xff\xff\x00\x00\xc0\xa8\x01\x02\x00\x00\x00\x03" +
		"\x00\x02\x00\x00\x00\x00\x00\x00\x00\x00\x00\x00\x00\x00\x00\x00\x00\x00\x00\x10" +
		"\x00\x02\xff\xff\xff\xff\xff\xff\xff\xff\xff\xff\xff\xff\xff\xff\x00\x00\x00\x01"
	if got := impl.RipBytes(r); got != want {
		t.Errorf("RipBytes: got %x, want %x", got, want)
	}
	if got, want := impl.RipBytes(impl.Rip{Cmd: impl.CmAsk}), "\x01\x02\x00\x00"; got != want {
		t.Errorf("RipBytes of no entries: got %x, want %x", got, want)
	}
	signed := want + "\xff\xff\x00\x03\x00\x0f\x42\x40"
	signed += hmac256("key", signed)[:macSize]
	if got := impl.RipSign(r, "key", impl.MaxTime); got != signed {
		t.Errorf("RipSign: got %x, want %x", got, signed)
	}
}

func TestP7BytesComeBack(t *testing.T) {
	r := rand.New(rand.NewSource(51))
	for many := range impl.MaxEntries + 1 {
		for range 200 {
			said := anyRip(r, many)
			b := impl.RipBytes(said)
			if b != plainRip(said) || !isRip(b) {
				t.Fatalf("RipBytes(%#v): got %x", said, b)
			}
			holdRipRead(t, "its bytes", b, said)
		}
	}
	for _, e := range edgeEntries() {
		said := impl.Rip{Cmd: impl.CmTell, Entries: []impl.Entry{e}}
		holdRipRead(t, "an edge", plainRip(said), said)
	}
}

func TestRipReadSizes(t *testing.T) {
	r := rand.New(rand.NewSource(52))
	whole := plainRip(someRip(impl.MaxEntries))
	for size := range len(whole) {
		many, rest := (size-ripHeadSize)/entrySize, (size-ripHeadSize)%entrySize
		if size >= ripHeadSize && rest == 0 {
			cut := someRip(many)
			holdRipRead(t, "entries cut off", whole[:size], cut)
			continue
		}
		holdNoRip(t, "bytes missing at the end", whole[:size])
		holdNoRip(t, "any text", anyText(r, size))
	}
	for many := range impl.MaxEntries + 1 {
		b := plainRip(someRip(many))
		for size := 1; size < entrySize; size++ {
			holdNoRip(t, "noughts too many", b+strings.Repeat("\x00", size))
			holdNoRip(t, "bytes too many", b+plainRip(someRip(1))[ripHeadSize:][:size])
		}
		holdNoRip(t, "noughts too many", b+strings.Repeat("\x00", entrySize))
		holdNoRip(t, "twice", b+b)
	}
	entry := whole[len(whole)-entrySize:]
	for many := 1; len(whole)+many*entrySize <= impl.MaxBytes; many++ {
		holdNoRip(t, "entries too many", whole+strings.Repeat(entry, many))
	}
	for _, size := range []int{impl.MaxBytes - 1, impl.MaxBytes} {
		for _, text := range []string{strings.Repeat("\x00", size), (whole + strings.Repeat(entry, impl.MaxList))[:size], anyText(r, size)} {
			holdNoRip(t, "a text as long as may be", text)
		}
	}
	for _, size := range []int{impl.MaxBytes + 1, impl.MaxBytes + 4, 100000} {
		for _, text := range []string{strings.Repeat("\x00", size), whole + strings.Repeat("\x00", size-len(whole)), anyText(r, size)} {
			holdRipFault(t, "a text too long", impl.RipRead(text), impl.ErrSize)
		}
	}
}

// TestP7TurnedBytes turns each byte of a Rip's in all ways: it is another right one's then, and comes back as that, or none's.
func TestP7TurnedBytes(t *testing.T) {
	for _, said := range []impl.Rip{{Cmd: impl.CmAsk}, someRip(1), someRip(2), someRip(impl.MaxEntries)} {
		b := plainRip(said)
		for at := range len(b) {
			for turn := 1; turn < 256; turn++ {
				bad := turned(b, at, turn)
				if !isRip(bad) {
					holdNoRip(t, "a byte turned", bad)
					continue
				}
				got := impl.RipRead(bad)
				if got.Code != impl.OK || sameRip(got.Rip, said) || plainRip(got.Rip) != bad || !impl.RipRight(got.Rip) {
					t.Errorf("the byte %d turned by %d: got %#v", at, turn, got)
				}
			}
		}
	}
}

// TestRipReadNeedsTheMarks turns what stands fast in each Rip.
func TestRipReadNeedsTheMarks(t *testing.T) {
	b := plainRip(someRip(3))
	places := []int{1, 2, 3}
	for i := range 3 {
		places = append(places, ripHeadSize+i*entrySize, ripHeadSize+i*entrySize+1)
	}
	for _, at := range places {
		for turn := 1; turn < 256; turn++ {
			holdNoRip(t, "a mark turned", turned(b, at, turn))
		}
	}
	for at := ripHeadSize; at < len(b); at += entrySize {
		holdNoRip(t, "the mark of a signed one", putWord(b, at, 65535))
	}
	for _, cmd := range []byte{0, 3, 4, 128, 255} {
		holdNoRip(t, "another Cmd", string([]byte{cmd})+b[1:])
	}
}

func TestRipReadMasks(t *testing.T) {
	read := func(addr uint32, mask uint32) {
		t.Helper()
		b := []byte(plainRip(someRip(2)))
		binary.BigEndian.PutUint32(b[8:], addr)
		binary.BigEndian.PutUint32(b[12:], mask)
		length := int64(bits.LeadingZeros32(^mask))
		if bits.OnesCount32(mask) != int(length) || addr&^mask != 0 {
			holdNoRip(t, "a mask that no length has, or bits behind it", string(b))
			return
		}
		want := someRip(2)
		want.Entries[0].Net = impl.Net{Addr: int64(addr), Len: length}
		holdRipRead(t, "a mask", string(b), want)
	}
	for length := range 33 {
		mask := uint32(uint64(0xFFFFFFFF00000000) >> length)
		read(0, mask)
		read(mask, mask)
		read(math.MaxUint32, mask)
		read(0, ^mask)
		for bit := range 32 {
			read(0, mask^1<<bit)
			read(mask, mask^1<<bit)
			read(1<<bit, mask)
		}
	}
}

func TestRipReadMetrics(t *testing.T) {
	for _, metric := range []uint32{0, 1, 15, 16, 17, 255, 256, 257, 1 << 16, 1<<16 + 1, 1<<24 + 1, math.MaxUint32} {
		b := []byte(plainRip(someRip(1)))
		binary.BigEndian.PutUint32(b[20:], metric)
		if metric < 1 || metric > 16 {
			holdNoRip(t, "a Metric", string(b))
			continue
		}
		want := someRip(1)
		want.Entries[0].Metric = int64(metric)
		holdRipRead(t, "a Metric", string(b), want)
	}
}

// TestRipReadTakesNoneThatIsSigned has them with a mac and without, of each seq.
func TestRipReadTakesNoneThatIsSigned(t *testing.T) {
	for many := range impl.MaxEntries + 1 {
		for _, seq := range append([]int64{0}, edgeSeqs...) {
			holdNoRip(t, "a signed one", plainSigned(someRip(many), "key", seq))
			holdNoRip(t, "a signed one without its mac", plainAhead(someRip(many), seq))
		}
	}
}

func TestP7SignedComesBack(t *testing.T) {
	r := rand.New(rand.NewSource(53))
	for many := range impl.MaxEntries + 1 {
		for _, key := range append([]string{anyText(r, 1), anyText(r, 16), anyText(r, mostKey)}, rightKeys...) {
			for _, seq := range append([]int64{1 + r.Int63n(impl.MaxTime)}, edgeSeqs...) {
				said := anyRip(r, many)
				text := impl.RipSign(said, key, seq)
				if want := plainSigned(said, key, seq); text != want || len(text) != leastSigned+many*entrySize {
					t.Fatalf("RipSign(%#v, %q, %d): got %x, want %x", said, key, seq, text, want)
				}
				for _, last := range []int64{0, seq / 2, seq - 1} {
					holdOpen(t, "a last below", text, key, last, said, seq)
				}
				for _, last := range []int64{seq, seq + 1, seq + 2, impl.MaxTime} {
					if last <= impl.MaxTime {
						holdShut(t, "a last not below", text, key, last, impl.ErrRange)
					}
				}
			}
		}
	}
	for _, e := range edgeEntries() {
		said := impl.Rip{Cmd: impl.CmTell, Entries: []impl.Entry{e}}
		holdOpen(t, "an edge", impl.RipSign(said, "key", 1), "key", 0, said, 1)
	}
}

// TestP7NeverTwice opens a row of texts with what the last one told as last.
func TestP7NeverTwice(t *testing.T) {
	last := int64(0)
	for _, seq := range []int64{1, 2, 3, 10, 256, 65536, impl.MaxTime - 1, impl.MaxTime} {
		said := someRip(2)
		text := impl.RipSign(said, "key", seq)
		got := impl.RipOpen(text, "key", last)
		if got.Code != impl.OK || got.Seq != seq {
			t.Fatalf("opened the first time: got %#v, want the seq %d", got, seq)
		}
		last = got.Seq
		holdShut(t, "opened a second time", text, "key", last, impl.ErrRange)
		holdShut(t, "another one of the same seq", impl.RipSign(someRip(3), "key", seq), "key", last, impl.ErrRange)
		if seq > 1 {
			holdShut(t, "an older one", impl.RipSign(said, "key", seq-1), "key", last, impl.ErrRange)
		}
	}
}

func TestRipSignFaults(t *testing.T) {
	for many := range impl.MaxEntries + 1 {
		for _, key := range rightKeys {
			for _, seq := range wrongSeqs {
				if got := impl.RipSign(someRip(many), key, seq); got != "" {
					t.Errorf("RipSign by %q and %d: got %x", key, seq, got)
				}
			}
		}
		for _, key := range append([]string{strings.Repeat("a", impl.MaxBytes+1)}, wrongKeys...) {
			for _, seq := range append([]int64{0, impl.MaxTime + 1}, edgeSeqs...) {
				if got := impl.RipSign(someRip(many), key, seq); got != "" {
					t.Errorf("RipSign by a key of %d bytes and %d: got %x", len(key), seq, got)
				}
			}
		}
	}
}

// TestP7AnotherKey opens by a key that another one's noughts make alike, and by others.
func TestP7AnotherKey(t *testing.T) {
	said := someRip(2)
	for _, key := range rightKeys {
		text := impl.RipSign(said, key, 7)
		for _, other := range append([]string{"kex", "Key", "ke", "keyy", "\x00key", "k\x00e"}, rightKeys...) {
			for noughts := 0; len(other)+noughts <= mostKey; noughts++ {
				by := other + strings.Repeat("\x00", noughts)
				if strings.TrimRight(by, "\x00") == strings.TrimRight(key, "\x00") {
					holdOpen(t, "a key that makes the same mac", text, by, 6, said, 7)
					holdShut(t, "a key that makes the same mac, again", text, by, 7, impl.ErrRange)
				} else {
					holdShut(t, "another key", text, by, 6, impl.ErrSum)
					holdShut(t, "another key, and again", text, by, 7, impl.ErrSum)
				}
			}
		}
		for at := range len(key) {
			holdShut(t, "a byte of the key turned", text, turned(key, at, 32), 6, impl.ErrSum)
		}
	}
}

// TestP7SignedTurned turns each byte: without the key no other text is taken; with it, one that no right one has is told apart.
func TestP7SignedTurned(t *testing.T) {
	for _, said := range []impl.Rip{{Cmd: impl.CmAsk}, someRip(1), someRip(impl.MaxEntries)} {
		text := impl.RipSign(said, "key", 1000)
		ahead := text[:len(text)-macSize]
		for at := range len(text) {
			for bit := range 8 {
				for _, last := range []int64{0, 1000, impl.MaxTime} {
					holdShut(t, "a byte turned", turned(text, at, 1<<bit), "key", last, impl.ErrSum)
				}
			}
			holdShut(t, "a byte turned", turned(text, at, 255), "key", 0, impl.ErrSum)
		}
		for at := range len(ahead) {
			for turn := 1; turn < 256; turn++ {
				bad := withMac(turned(ahead, at, turn), "key")
				code := plainOpenCode(bad, "key", 0)
				if code != impl.OK {
					holdShut(t, "a byte turned, and a mac that fits", bad, "key", 0, impl.ErrSyntax)
					holdShut(t, "a byte turned, a mac that fits, and a late last", bad, "key", impl.MaxTime, impl.ErrSyntax)
					continue
				}
				got := impl.RipOpen(bad, "key", 0)
				if got.Code != impl.OK || plainSigned(got.Rip, "key", got.Seq) != bad || sameRip(got.Rip, said) && got.Seq == 1000 {
					t.Errorf("the byte %d turned by %d, and a mac that fits: got %#v", at, turn, got)
				}
			}
		}
	}
}

// TestRipOpenNeedsARightOne has macs that fit over what nobody right has signed.
func TestRipOpenNeedsARightOne(t *testing.T) {
	hold := func(what string, ahead string) {
		t.Helper()
		for _, last := range []int64{0, 5, impl.MaxTime} {
			holdShut(t, what, withMac(ahead, "key"), "key", last, impl.ErrSyntax)
		}
	}
	for _, seq := range []int64{0, impl.MaxTime + 1, impl.MaxTime + 2, 1 << 31, math.MaxUint32} {
		for many := range impl.MaxEntries + 1 {
			hold("a seq that may not be", plainAhead(someRip(many), seq))
		}
	}
	for _, cmd := range []int64{0, 3, 255} {
		hold("another Cmd", plainAhead(impl.Rip{Cmd: cmd, Entries: someRip(1).Entries}, 5))
		hold("another Cmd, no entries", plainAhead(impl.Rip{Cmd: cmd}, 5))
	}
	for _, metric := range []int64{0, 17, 256, 65537} {
		bad := someRip(3)
		bad.Entries[1].Metric = metric
		hold("a Metric that may not be", plainAhead(bad, 5))
	}
	bad := someRip(3)
	bad.Entries[2].Net = impl.Net{Addr: 0x0A000001, Len: 8}
	hold("a Net that is not right", plainAhead(bad, 5))
	bad.Entries = slices.Repeat([]impl.Entry{someEntry()}, impl.MaxEntries+1)
	hold("entries too many", plainAhead(bad, 5))
	for many := range impl.MaxEntries + 1 {
		whole := plainAhead(someRip(many), 5)
		said, sign := whole[:len(whole)-8], whole[len(whole)-8:]
		hold("the mark twice", whole+sign)
		hold("bytes behind the seq", whole+"\x00")
		hold("an entry behind the seq", whole+plainRip(someRip(1))[ripHeadSize:])
		hold("the mark ahead", said[:ripHeadSize]+sign+said[ripHeadSize:]+"\x00")
		hold("another kind", said+"\xff\xff\x00\x02"+sign[4:])
		hold("another mark", said+"\xff\xfe\x00\x03"+sign[4:])
		hold("half an entry", said+"\x00\x02\x00\x00"+sign)
		if many > 0 {
			hold("no mark", said)
			hold("a byte of the seq missing", whole[:len(whole)-1])
			hold("no seq", whole[:len(whole)-4])
			hold("the mark and bytes cut", whole[:len(whole)-7])
		}
	}
	hold("noughts", strings.Repeat("\x00", leastSigned-macSize))
}

func TestRipOpenSizes(t *testing.T) {
	r := rand.New(rand.NewSource(54))
	for size := range leastSigned {
		for _, text := range []string{anyText(r, size), strings.Repeat("\x00", size), impl.RipSign(someRip(1), "key", 5)[:size]} {
			holdShut(t, "too few bytes", text, "key", 0, impl.ErrShort)
		}
		if size >= macSize {
			holdShut(t, "too few bytes, and a mac that fits", withMac(plainAhead(someRip(1), 5)[:size-macSize], "key"), "key", 0, impl.ErrShort)
		}
	}
	least := impl.RipSign(impl.Rip{Cmd: impl.CmAsk}, "key", 1)
	if len(least) != leastSigned {
		t.Errorf("RipSign of no entries: got %d bytes, want %d", len(least), leastSigned)
	}
	holdOpen(t, "28 bytes", least, "key", 0, impl.Rip{Cmd: impl.CmAsk}, 1)
	holdShut(t, "27 bytes", least[:leastSigned-1], "key", 0, impl.ErrShort)
	holdShut(t, "27 bytes", least[1:], "key", 0, impl.ErrShort)
	whole := impl.RipSign(someRip(impl.MaxEntries), "key", 5)
	for size := leastSigned; size < len(whole); size++ {
		holdShut(t, "bytes missing at the end", whole[:size], "key", 0, impl.ErrSum)
		holdShut(t, "any text", anyText(r, size), "key", 0, impl.ErrSum)
	}
	for size := 1; size <= entrySize; size++ {
		holdShut(t, "bytes too many", whole+strings.Repeat("\x00", size), "key", 0, impl.ErrSum)
	}
	for _, size := range []int{impl.MaxBytes - 1, impl.MaxBytes} {
		holdShut(t, "a text as long as may be", anyText(r, size), "key", 0, impl.ErrSum)
		holdShut(t, "a text as long as may be, and a mac that fits", withMac(anyText(r, size-macSize), "key"), "key", 0, impl.ErrSyntax)
		entries := plainRip(impl.Rip{Cmd: impl.CmTell, Entries: slices.Repeat([]impl.Entry{someEntry()}, impl.MaxList)})
		holdShut(t, "entries as many as may be, and a mac that fits", withMac(entries[:size-macSize], "key"), "key", 0, impl.ErrSyntax)
	}
	for _, size := range []int{impl.MaxBytes + 1, 100000} {
		holdShut(t, "a text too long", anyText(r, size), "key", 0, impl.ErrSize)
		holdShut(t, "a text too long, and a mac that fits", withMac(anyText(r, size-macSize), "key"), "key", 0, impl.ErrSize)
	}
}

// TestRipOpenOrder has two faults or more at once: the one that is named first is told.
func TestRipOpenOrder(t *testing.T) {
	long, short := strings.Repeat("x", impl.MaxBytes+1), "x"
	said := impl.RipSign(someRip(1), "key", 5)
	other := turned(said, len(said)-1, 1)
	texts := []string{"", short, said, other, strings.Repeat("x", impl.MaxBytes)}
	for _, key := range append([]string{long}, wrongKeys...) {
		holdShut(t, "a long text, a wrong key", long, key, 0, impl.ErrSize)
		holdShut(t, "a long text, a wrong key and last", long, key, -1, impl.ErrSize)
	}
	for _, last := range wrongLasts {
		holdShut(t, "a long text, a wrong last", long, "key", last, impl.ErrSize)
	}
	for _, text := range texts {
		for _, last := range append([]int64{0, 5, impl.MaxTime}, wrongLasts...) {
			holdShut(t, "a long key", text, long, last, impl.ErrSize)
			for _, key := range wrongKeys {
				holdShut(t, "a wrong key", text, key, last, impl.ErrForm)
			}
		}
		for _, last := range wrongLasts {
			for _, key := range rightKeys {
				holdShut(t, "a wrong last", text, key, last, impl.ErrForm)
			}
		}
	}
	holdShut(t, "short, and a late last", short, "key", impl.MaxTime, impl.ErrShort)
	holdShut(t, "another mac, and a late last", other, "key", impl.MaxTime, impl.ErrSum)
	holdShut(t, "another key, and a late last", said, "kex", impl.MaxTime, impl.ErrSum)
	holdShut(t, "no right one, and another mac", turned(said, 1, 1), "key", 0, impl.ErrSum)
	holdOpen(t, "no fault", said, "key", 0, someRip(1), 5)
	holdOpen(t, "the last just below", said, "key", 4, someRip(1), 5)
	most := impl.RipSign(someRip(1), "key", impl.MaxTime)
	holdOpen(t, "the last just below the end of time", most, "key", impl.MaxTime-1, someRip(1), impl.MaxTime)
	holdShut(t, "the last at the end of time", most, "key", impl.MaxTime, impl.ErrRange)
}

// TestP7EachTextIsOneRipOrNone holds texts near to right ones against a look at their fields.
func TestP7EachTextIsOneRipOrNone(t *testing.T) {
	r := rand.New(rand.NewSource(55))
	opened := 0
	for range 30000 {
		b := []byte(plainAhead(anyRip(r, r.Intn(4)), r.Int63n(4)))
		for range r.Intn(3) {
			i, j := r.Intn(len(b)), r.Intn(len(b))
			switch r.Intn(3) {
			case 0:
				b[i], b[j] = b[j], b[i]
			case 1:
				b[i] = byte(r.Intn(3))
			case 2:
				b = slices.Delete(b, min(i, j), max(i, j))
			}
			if len(b) == 0 {
				b = []byte{2}
			}
		}
		text, last := string(b), r.Int63n(3)
		if said := strings.TrimSuffix(text, "\xff\xff\x00\x03\x00\x00\x00\x01"); isRip(said) {
			if got := impl.RipRead(said); got.Code != impl.OK || plainRip(got.Rip) != said {
				t.Fatalf("RipRead(%x): got %#v", said, got)
			}
		} else {
			holdNoRip(t, "a text near to a right one", said)
		}
		signed := withMac(text, "key")
		if code := plainOpenCode(signed, "key", last); code != impl.OK {
			holdShut(t, "a text near to a right one", signed, "key", last, code)
			continue
		}
		opened++
		got := impl.RipOpen(signed, "key", last)
		if got.Code != impl.OK || got.Seq <= last || plainSigned(got.Rip, "key", got.Seq) != signed {
			t.Fatalf("RipOpen(%x): got %#v", signed, got)
		}
	}
	if opened < 1000 {
		t.Errorf("only %d of the texts were right", opened)
	}
}

// TestRipKeepsNothing asks each call twice, writes into what it told, and looks whether what was handed in is as it was.
func TestRipKeepsNothing(t *testing.T) {
	for many := range impl.MaxEntries + 1 {
		said := someRip(many)
		room := append(slices.Clone(said.Entries), someEntry(), someEntry())
		said.Entries = room[:many]
		before := slices.Clone(room)
		text := impl.RipSign(said, "key", 5)
		for range 2 {
			if impl.RipBytes(said) != plainRip(someRip(many)) || impl.RipSign(said, "key", 5) != text || !impl.RipRight(said) {
				t.Errorf("%d entries: a second answer is another one", many)
			}
			read, open := impl.RipRead(plainRip(said)), impl.RipOpen(text, "key", 4)
			if !sameRip(read.Rip, someRip(many)) || !sameRip(open.Rip, someRip(many)) {
				t.Errorf("%d entries: got %#v and %#v", many, read, open)
			}
			for i := range many {
				read.Rip.Entries[i], open.Rip.Entries[i] = impl.Entry{}, impl.Entry{}
			}
		}
		if !reflect.DeepEqual(room, before) {
			t.Errorf("%d entries: what was handed in was written into", many)
		}
	}
}
