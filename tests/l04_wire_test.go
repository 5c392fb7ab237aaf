package tests

import (
	"encoding/binary"
	"math"
	"math/rand"
	"slices"
	"strings"
	"testing"

	"loop.example/g00634/impl"
)

const (
	headSize  = 20
	dgramSize = 28
	mostDgram = dgramSize + impl.MaxData
	frameSize = 18
	mostFrame = 1000
)

var (
	edgeWords  = []int64{0, 1, 255, 256, 520, 65534, 65535}
	wrongWords = []int64{-1, -65535, 65536, 65537, 1 << 32, math.MaxInt64, math.MinInt64}
	edgeTtls   = []int64{0, 1, 64, 254, 255}
	wrongTtls  = []int64{-1, -256, 256, 257, 512, 1 << 32, math.MaxInt64, math.MinInt64}
	dataSizes  = []int{0, 1, 2, 3, 7, 8, 255, 256, 298, 299, 300}
	edgeVlans  = []int64{1, 2, 255, 256, 258, 2048, 4093, 4094}
	wrongVlans = []int64{0, -1, -4094, 4095, 4096, 4097, 65535, 65536, 65537, 1<<32 + 1, math.MaxInt64, math.MinInt64}
)

// someDgram is right, and no two of its fields are alike.
func someDgram(data string) impl.Dgram {
	return impl.Dgram{Src: 0x0A000102, Dst: 0xE0000009, SrcPort: 520, DstPort: 1337, Ttl: 7, Data: data}
}

// plainSum works with rests of 65535, where carries that come round vanish by themselves.
func plainSum(text string) int64 {
	if len(text)%2 == 1 {
		text += "\x00"
	}
	rest, nothing := int64(0), true
	for i := 0; i < len(text); i += 2 {
		word := int64(binary.BigEndian.Uint16([]byte(text[i : i+2])))
		rest = (rest + word) % 65535
		nothing = nothing && word == 0
	}
	if nothing {
		return 65535
	}
	return (65535 - rest) % 65535
}

// putWord lays a word over two bytes of a text.
func putWord(text string, at int, word int64) string {
	b := []byte(text)
	binary.BigEndian.PutUint16(b[at:], uint16(word))
	return string(b)
}

// wordAt is the word that stands there.
func wordAt(text string, at int) int64 {
	return int64(binary.BigEndian.Uint16([]byte(text[at : at+2])))
}

// underSum is what the sum of it is taken of: b is a datagram's bytes.
func underSum(b string) string {
	return b[12:20] + "\x00\x11" + b[24:26] + b[20:]
}

// plainDgram are a right one's bytes, laid down one by one.
func plainDgram(d impl.Dgram) string {
	b := []byte{69, 0}
	b = binary.BigEndian.AppendUint16(b, uint16(dgramSize+len(d.Data)))
	b = append(b, 0, 0, 0, 0, byte(d.Ttl), 17, 0, 0)
	b = binary.BigEndian.AppendUint32(b, uint32(d.Src))
	b = binary.BigEndian.AppendUint32(b, uint32(d.Dst))
	b = binary.BigEndian.AppendUint16(b, uint16(d.SrcPort))
	b = binary.BigEndian.AppendUint16(b, uint16(d.DstPort))
	b = binary.BigEndian.AppendUint16(b, uint16(8+len(d.Data)))
	return withSums(string(b) + "\x00\x00" + d.Data)
}

// withSums lays the two sums that a text of 28 bytes or more asks for over those that it has.
func withSums(text string) string {
	text = putWord(text, 10, 0)
	text = putWord(text, 10, plainSum(text[:headSize]))
	text = putWord(text, 26, 0)
	sum := plainSum(underSum(text))
	if sum == 0 {
		sum = 65535
	}
	return putWord(text, 26, sum)
}

// plainCode is what reading a text as a datagram has to tell, asked byte by byte.
func plainCode(text string) int64 {
	switch {
	case len(text) > impl.MaxBytes:
		return impl.ErrSize
	case len(text) < dgramSize:
		return impl.ErrShort
	case len(text) > mostDgram || text[:2] != "\x45\x00" || wordAt(text, 2) != int64(len(text)):
		return impl.ErrSyntax
	case text[4:8] != "\x00\x00\x00\x00" || text[9] != 17 || wordAt(text, 24) != int64(len(text)-headSize):
		return impl.ErrSyntax
	case withSums(text) != text:
		return impl.ErrSum
	}
	return impl.OK
}

// holdDgramRead asks that a text which is no datagram is refused, and with nothing beside the code.
func holdDgramRead(t *testing.T, what string, text string, code int64) {
	t.Helper()
	if plain := plainCode(text); plain != code {
		t.Errorf("%s: the test asks for %d, but %d is right", what, code, plain)
	}
	if got, want := impl.DgramRead(text), (impl.DgramOut{Code: code}); got != want {
		t.Errorf("%s: DgramRead of %d bytes: got %#v, want %#v", what, len(text), got, want)
	}
}

// holdFrameRead does likewise for frames.
func holdFrameRead(t *testing.T, what string, text string, code int64) {
	t.Helper()
	if got, want := impl.FrameRead(text), (impl.FrameOut{Code: code}); got != want {
		t.Errorf("%s: FrameRead of %d bytes: got %#v, want %#v", what, len(text), got, want)
	}
}

func TestSum16(t *testing.T) {
	for _, c := range []struct {
		text string
		want int64
	}{
		{"", 65535}, {"\x00", 65535}, {"\x00\x00\x00", 65535}, {"\x01", 65535 - 256}, {"\x00\x01", 65534}, {"\x01\x02\x03", 65535 - 0x0402},
		{"\xff\xff", 0}, {"\xff\xff\xff\xff", 0}, {"\xff\xff\x00\x01", 65534}, {"\xff", 255}, {"\x80\x00\x80\x00", 65534}, {"\xff\xfe\x00\x01", 0},
		{"\x00\x01\xf2\x03\xf4\xf5\xf6\xf7", 0x220d},
		{"\x45\x00\x00\x73\x00\x00\x40\x00\x40\x11\x00\x00\xc0\xa8\x00\x01\xc0\xa8\x00\xc7", 0xb861},
		{"\x45\x00\x00\x73\x00\x00\x40\x00\x40\x11\xb8\x61\xc0\xa8\x00\x01\xc0\xa8\x00\xc7", 0},
	} {
		if got := impl.Sum16(c.text); got != c.want || plainSum(c.text) != c.want {
			t.Errorf("Sum16(%q): got %d, want %d", c.text, got, c.want)
		}
	}
	r := rand.New(rand.NewSource(31))
	for size := range 700 {
		for _, text := range []string{anyText(r, size), strings.Repeat("\xff", size), strings.Repeat("\x00", size)} {
			if got, want := impl.Sum16(text), plainSum(text); got != want {
				t.Errorf("Sum16 of %d bytes: got %d, want %d", size, got, want)
			}
		}
	}
}

// TestSum16FoldsAgain takes sums whose carries, once added, carry again.
func TestSum16FoldsAgain(t *testing.T) {
	for many := int64(1); many < impl.MaxBytes/2; many += 37 {
		for more := range int64(4) {
			// So many words of 65535 are one carry fewer, and 65536 less many below them, which this word fills up to 65535 and more.
			word := many - 1 + more
			text := strings.Repeat("\xff\xff", int(many)) + string(binary.BigEndian.AppendUint16(nil, uint16(word)))
			if got, want := impl.Sum16(text), plainSum(text); got != want {
				t.Errorf("Sum16 of %d words 65535 and a word %d: got %d, want %d", many, word, got, want)
			}
		}
	}
	if got := impl.Sum16("\xff\xff\xff\xff\x00\x01"); got != 65534 {
		t.Errorf("a sum that is folded twice: got %d, want 65534", got)
	}
}

func TestSum16Limits(t *testing.T) {
	r := rand.New(rand.NewSource(32))
	for _, size := range []int{impl.MaxBytes - 1, impl.MaxBytes} {
		for _, text := range []string{anyText(r, size), strings.Repeat("\xff", size), strings.Repeat("\xfe", size), strings.Repeat("\x00", size)} {
			if got, want := impl.Sum16(text), plainSum(text); got != want {
				t.Errorf("Sum16 of %d bytes: got %d, want %d", size, got, want)
			}
		}
	}
	for _, size := range []int{impl.MaxBytes + 1, impl.MaxBytes + 2, 100000} {
		for _, b := range []string{"\x00", "\x01", "\xff"} {
			if got := impl.Sum16(strings.Repeat(b, size)); got != 0 {
				t.Errorf("Sum16 of %d bytes: got %d, want 0", size, got)
			}
		}
	}
}

func TestDgramRight(t *testing.T) {
	hold := func(d impl.Dgram, want bool) {
		t.Helper()
		if got := impl.DgramRight(d); got != want {
			t.Errorf("DgramRight(%#v): got %v, want %v", d, got, want)
		}
		if got := impl.DgramBytes(d); !want && got != "" || want && got != plainDgram(d) {
			t.Errorf("DgramBytes(%#v): got %q", d, got)
		}
	}
	hold(impl.Dgram{}, true)
	hold(someDgram("ab"), true)
	set := func(values []int64, want bool, put func(*impl.Dgram, int64)) {
		t.Helper()
		for _, n := range values {
			for _, d := range []impl.Dgram{{}, someDgram("abc")} {
				put(&d, n)
				hold(d, want)
			}
		}
	}
	src := func(d *impl.Dgram, n int64) { d.Src = n }
	dst := func(d *impl.Dgram, n int64) { d.Dst = n }
	srcPort := func(d *impl.Dgram, n int64) { d.SrcPort = n }
	dstPort := func(d *impl.Dgram, n int64) { d.DstPort = n }
	ttl := func(d *impl.Dgram, n int64) { d.Ttl = n }
	set(edgeAddrs, true, src)
	set(edgeAddrs, true, dst)
	set(wrongAddrs, false, src)
	set(wrongAddrs, false, dst)
	set(edgeWords, true, srcPort)
	set(edgeWords, true, dstPort)
	set(wrongWords, false, srcPort)
	set(wrongWords, false, dstPort)
	set(edgeTtls, true, ttl)
	set(wrongTtls, false, ttl)
	for _, size := range dataSizes {
		hold(someDgram(strings.Repeat("x", size)), true)
	}
	for _, size := range []int{301, 302, 1000, impl.MaxBytes, impl.MaxBytes + 1, 70000} {
		hold(someDgram(strings.Repeat("x", size)), false)
	}
}

func TestDgramBytesOneByOne(t *testing.T) {
	d := impl.Dgram{Src: 0x0A000001, Dst: 0xE0000009, SrcPort: 520, DstPort: 521, Ttl: 1, Data: "abc"}
	want := "\x45\x00\x00\x1f\x00\x00\x00\x00\x01\x11\xcf\xc4\x0a\x00\x00\x01\xe0\x00\x00\x09" + "\x02\x08\x02\x09\x00\x0b\x4d\x5a" + "abc"
	if got := impl.DgramBytes(d); got != want {
		t.Errorf("DgramBytes(%#v): got %x, want %x", d, got, want)
	}
	if got, want := impl.DgramBytes(impl.Dgram{}), "\x45\x00\x00\x1c\x00\x00\x00\x00\x00\x11\xba\xd2"+strings.Repeat("\x00", 12)+"\x00\x08\xff\xde"; got != want {
		t.Errorf("DgramBytes of the zero one: got %x, want %x", got, want)
	}
}

// dgramsOf are right ones: each field at its edges, and some of any kind.
func dgramsOf(r *rand.Rand) []impl.Dgram {
	var out []impl.Dgram
	for _, size := range dataSizes {
		for _, data := range []string{anyText(r, size), strings.Repeat("\x00", size), strings.Repeat("\xff", size)} {
			for _, a := range []int64{0, topAddr, r.Int63n(topAddr + 1)} {
				for _, n := range []int64{0, 65535, r.Int63n(65536)} {
					for _, ttl := range []int64{0, 255, r.Int63n(256)} {
						out = append(out, impl.Dgram{Src: a, Dst: r.Int63n(topAddr + 1), SrcPort: n, DstPort: r.Int63n(65536), Ttl: ttl, Data: data})
						out = append(out, impl.Dgram{Src: r.Int63n(topAddr + 1), Dst: a, SrcPort: r.Int63n(65536), DstPort: n, Ttl: ttl, Data: data})
					}
				}
			}
		}
	}
	return out
}

func TestP6DgramsComeBack(t *testing.T) {
	for _, d := range dgramsOf(rand.New(rand.NewSource(33))) {
		b := impl.DgramBytes(d)
		if want := plainDgram(d); b != want {
			t.Fatalf("DgramBytes(%#v): got %x, want %x", d, b, want)
		}
		if got, want := impl.DgramRead(b), (impl.DgramOut{Dgram: d}); got != want {
			t.Fatalf("DgramRead: got %#v, want %#v", got, want)
		}
		if sum := impl.Sum16(b[:headSize]); sum != 0 {
			t.Errorf("the head of %#v sums to %d with its own sum in it", d, sum)
		}
		if sum := impl.Sum16(underSum(b)); sum != 0 {
			t.Errorf("what the sum of it is of %#v sums to %d with that in it", d, sum)
		}
	}
}

// TestP6SumsOfNothing looks for the ports with which each sum would be 0: the one of the head stays so, the other is told as 65535.
func TestP6SumsOfNothing(t *testing.T) {
	for _, data := range []string{"", "a", "ab", strings.Repeat("xyz", 100)} {
		d := someDgram(data)
		d.SrcPort = 0
		d.SrcPort = plainSum(underSum(putWord(plainDgram(d), 26, 0)))
		b := impl.DgramBytes(d)
		if wordAt(b, 26) != 65535 || plainSum(underSum(putWord(b, 26, 0))) != 0 {
			t.Errorf("the sum of it is %d, want 65535 in the place of 0", wordAt(b, 26))
		}
		if got, want := impl.DgramRead(b), (impl.DgramOut{Dgram: d}); got != want {
			t.Errorf("DgramRead: got %#v, want %#v", got, want)
		}
		holdDgramRead(t, "a sum of it of 0", putWord(b, 26, 0), impl.ErrSum)

		d = someDgram(data)
		d.Dst &= topAddr << 16
		d.Dst += wordAt(plainDgram(d), 10)
		b = impl.DgramBytes(d)
		if wordAt(b, 10) != 0 || impl.Sum16(b[:headSize]) != 0 {
			t.Errorf("the head's sum is %d, want 0", wordAt(b, 10))
		}
		if got, want := impl.DgramRead(b), (impl.DgramOut{Dgram: d}); got != want {
			t.Errorf("DgramRead: got %#v, want %#v", got, want)
		}
		holdDgramRead(t, "a head's sum of 65535 in the place of 0", putWord(b, 10, 65535), impl.ErrSum)
	}
	holdDgramRead(t, "no sum of it", putWord(impl.DgramBytes(someDgram("abc")), 26, 0), impl.ErrSum)
}

func TestDgramReadSizes(t *testing.T) {
	r := rand.New(rand.NewSource(34))
	whole := impl.DgramBytes(someDgram(anyText(r, impl.MaxData)))
	for size := range dgramSize {
		holdDgramRead(t, "a head cut", whole[:size], impl.ErrShort)
		holdDgramRead(t, "any text", anyText(r, size), impl.ErrShort)
		holdDgramRead(t, "noughts", strings.Repeat("\x00", size), impl.ErrShort)
	}
	for size := dgramSize; size < mostDgram; size++ {
		holdDgramRead(t, "a datagram cut", whole[:size], impl.ErrSyntax)
	}
	for _, size := range []int{dgramSize, dgramSize + 1, mostDgram - 1, mostDgram} {
		d := someDgram(anyText(r, size-dgramSize))
		b := plainDgram(d)
		if got, want := impl.DgramRead(b), (impl.DgramOut{Dgram: d}); len(b) != size || got != want {
			t.Errorf("DgramRead of %d bytes: got %#v, want %#v", len(b), got, want)
		}
		holdDgramRead(t, "any text", anyText(r, size), impl.ErrSyntax)
		holdDgramRead(t, "noughts", strings.Repeat("\x00", size), impl.ErrSyntax)
		holdDgramRead(t, "a byte more", b+"\x00", impl.ErrSyntax)
	}
	for _, size := range []int{mostDgram + 1, mostDgram + 2, 1000, impl.MaxBytes - 1, impl.MaxBytes} {
		long := plainDgram(someDgram(anyText(r, size-dgramSize)))
		holdDgramRead(t, "too much data", long, impl.ErrSyntax)
		holdDgramRead(t, "too much data and wrong sums", putWord(putWord(long, 10, 0), 26, 0), impl.ErrSyntax)
		holdDgramRead(t, "noughts", strings.Repeat("\x00", size), impl.ErrSyntax)
	}
	for _, size := range []int{impl.MaxBytes + 1, impl.MaxBytes + 2, 65535, 100000} {
		holdDgramRead(t, "a text too long", plainDgram(someDgram(anyText(r, size-dgramSize))), impl.ErrSize)
		holdDgramRead(t, "a text too long", strings.Repeat("\x00", size), impl.ErrSize)
	}
}

// TestP6TurnedBytes turns each byte of a datagram in each of its bits: what another datagram has there too is a fault of the sums alone.
func TestP6TurnedBytes(t *testing.T) {
	r := rand.New(rand.NewSource(35))
	fixed := []int{0, 1, 2, 3, 4, 5, 6, 7, 9, 24, 25}
	for _, size := range []int{0, 1, 2, 9, 299, 300} {
		b := impl.DgramBytes(someDgram(anyText(r, size)))
		for at := range len(b) {
			code := int64(impl.ErrSum)
			if slices.Contains(fixed, at) {
				code = impl.ErrSyntax
			}
			for turn := 1; turn < 256; turn++ {
				if at >= dgramSize && turn&(turn-1) != 0 {
					continue
				}
				bad := []byte(b)
				bad[at] ^= byte(turn)
				holdDgramRead(t, "a byte turned", string(bad), code)
			}
		}
	}
}

func TestP6SumsTurned(t *testing.T) {
	r := rand.New(rand.NewSource(36))
	for _, size := range dataSizes {
		b := impl.DgramBytes(someDgram(anyText(r, size)))
		for range 20 {
			one, other := 1+r.Int63n(65535), 1+r.Int63n(65535)
			head := putWord(b, 10, wordAt(b, 10)^one)
			body := putWord(b, 26, wordAt(b, 26)^other)
			both := putWord(head, 26, wordAt(b, 26)^other)
			holdDgramRead(t, "the head's sum turned", head, impl.ErrSum)
			holdDgramRead(t, "the sum of it turned", body, impl.ErrSum)
			holdDgramRead(t, "both sums turned", both, impl.ErrSum)
			for _, at := range []int{0, 1, 3, 4, 5, 6, 7, 9, 25} {
				for _, text := range []string{head, body, both} {
					bad := []byte(text)
					bad[at] ^= byte(1 + r.Intn(255))
					holdDgramRead(t, "a wrong sum, and no datagram without it", string(bad), impl.ErrSyntax)
				}
			}
		}
	}
}

// TestDgramReadNeedsTheMarks turns what stands fast in each datagram, and gives the right sums for it.
func TestDgramReadNeedsTheMarks(t *testing.T) {
	for _, data := range []string{"", "a", "abcd", strings.Repeat("z", impl.MaxData)} {
		b := plainDgram(someDgram(data))
		for _, at := range []int{0, 1, 4, 5, 6, 7, 9} {
			for turn := 1; turn < 256; turn++ {
				bad := []byte(b)
				bad[at] ^= byte(turn)
				holdDgramRead(t, "a mark turned, its sums right", withSums(string(bad)), impl.ErrSyntax)
			}
		}
		for _, at := range []int{2, 24} {
			for word := range int64(65536) {
				if word != wordAt(b, at) && (word < 400 || word%257 == 0 || word > 65500) {
					bad := putWord(b, at, word)
					holdDgramRead(t, "a length that does not fit", bad, impl.ErrSyntax)
					holdDgramRead(t, "a length that does not fit, its sums right", withSums(bad), impl.ErrSyntax)
				}
			}
		}
	}
}

// TestP6EachTextIsOneDgramOrNone holds texts near to right ones against a look at their bytes.
func TestP6EachTextIsOneDgramOrNone(t *testing.T) {
	r := rand.New(rand.NewSource(37))
	for range 20000 {
		b := []byte(plainDgram(impl.Dgram{Src: r.Int63n(4), Dst: r.Int63n(4), SrcPort: r.Int63n(3), DstPort: r.Int63n(3), Ttl: r.Int63n(3), Data: anyText(r, r.Intn(4))}))
		for range r.Intn(4) {
			i, j := r.Intn(len(b)), r.Intn(len(b))
			switch r.Intn(3) {
			case 0:
				b[i], b[j] = b[j], b[i]
			case 1:
				b[i] = byte(r.Intn(256))
			case 2:
				b[i], b[j] = b[i]+1, b[j]-1
			}
		}
		text := string(b)
		if r.Intn(2) == 0 {
			text = withSums(text)
		}
		got := impl.DgramRead(text)
		if got.Code != plainCode(text) || got.Code != impl.OK && got.Dgram != (impl.Dgram{}) {
			t.Fatalf("DgramRead(%x): got %#v, want the code %d", text, got, plainCode(text))
		}
		if got.Code == impl.OK && (impl.DgramBytes(got.Dgram) != text || !impl.DgramRight(got.Dgram)) {
			t.Fatalf("DgramRead(%x): got %#v, whose bytes are others", text, got)
		}
	}
}

// plainFrame are a right one's bytes, laid down one by one.
func plainFrame(f impl.Frame) string {
	b := append(make([]byte, 12), 0x81, 0x00)
	b = binary.BigEndian.AppendUint16(b, uint16(f.Vlan))
	return string(append(b, 0x08, 0x00)) + f.Data
}

func TestP6FramesComeBack(t *testing.T) {
	r := rand.New(rand.NewSource(38))
	hold := func(f impl.Frame) {
		t.Helper()
		b := impl.FrameBytes(f)
		if b != plainFrame(f) || !impl.FrameRight(f) {
			t.Errorf("FrameBytes of the Vlan %d and %d bytes: got %x", f.Vlan, len(f.Data), b)
		}
		if got, want := impl.FrameRead(b), (impl.FrameOut{Frame: f}); got != want {
			t.Errorf("FrameRead: got %#v, want %#v", got, want)
		}
	}
	for vlan := int64(1); vlan <= 4094; vlan++ {
		hold(impl.Frame{Vlan: vlan, Data: "hi"})
	}
	for _, vlan := range edgeVlans {
		for _, size := range []int{0, 1, 2, 28, 328, 999, 1000} {
			for _, data := range []string{anyText(r, size), strings.Repeat("\x00", size), strings.Repeat("\xff", size)} {
				hold(impl.Frame{Vlan: vlan, Data: data})
			}
		}
	}
	hold(impl.Frame{Vlan: 10, Data: impl.DgramBytes(someDgram("abc"))})
}

func TestFrameRight(t *testing.T) {
	hold := func(f impl.Frame) {
		t.Helper()
		if impl.FrameRight(f) || impl.FrameBytes(f) != "" {
			t.Errorf("the Vlan %d and %d bytes: got %v and %q, want none", f.Vlan, len(f.Data), impl.FrameRight(f), impl.FrameBytes(f))
		}
	}
	hold(impl.Frame{})
	for _, vlan := range wrongVlans {
		for _, size := range []int{0, 1, 1000, 1001} {
			hold(impl.Frame{Vlan: vlan, Data: strings.Repeat("x", size)})
		}
	}
	for _, vlan := range edgeVlans {
		for _, size := range []int{1001, 1002, impl.MaxBytes, impl.MaxBytes + 1, 70000} {
			hold(impl.Frame{Vlan: vlan, Data: strings.Repeat("x", size)})
		}
	}
}

func TestFrameReadSizes(t *testing.T) {
	r := rand.New(rand.NewSource(39))
	for size := range frameSize {
		holdFrameRead(t, "a frame cut", plainFrame(impl.Frame{Vlan: 10})[:size], impl.ErrShort)
		holdFrameRead(t, "any text", anyText(r, size), impl.ErrShort)
	}
	for _, size := range []int{frameSize, frameSize + 1, frameSize + mostFrame - 1, frameSize + mostFrame} {
		f := impl.Frame{Vlan: 4094, Data: anyText(r, size-frameSize)}
		if got, want := impl.FrameRead(plainFrame(f)), (impl.FrameOut{Frame: f}); got != want {
			t.Errorf("FrameRead of %d bytes: got %#v, want %#v", size, got, want)
		}
		holdFrameRead(t, "noughts", strings.Repeat("\x00", size), impl.ErrSyntax)
	}
	for _, size := range []int{frameSize + mostFrame + 1, frameSize + mostFrame + 2, impl.MaxBytes - 1, impl.MaxBytes} {
		holdFrameRead(t, "too much data", plainFrame(impl.Frame{Vlan: 10, Data: anyText(r, size-frameSize)}), impl.ErrSyntax)
	}
	for _, size := range []int{impl.MaxBytes + 1, impl.MaxBytes + 2, 100000} {
		holdFrameRead(t, "a text too long", plainFrame(impl.Frame{Vlan: 10, Data: anyText(r, size-frameSize)}), impl.ErrSize)
		holdFrameRead(t, "a text too long", strings.Repeat("\x00", size), impl.ErrSize)
	}
}

// TestP6FrameTurnedBytes turns each of the first eighteen bytes: only another Vlan makes another frame.
func TestP6FrameTurnedBytes(t *testing.T) {
	for _, f := range []impl.Frame{{Vlan: 1}, {Vlan: 258, Data: "hi"}, {Vlan: 4094, Data: strings.Repeat("z", mostFrame)}} {
		b := impl.FrameBytes(f)
		for at := range frameSize {
			for turn := 1; turn < 256; turn++ {
				bad := []byte(b)
				bad[at] ^= byte(turn)
				vlan := wordAt(string(bad), 14)
				if vlan == f.Vlan || vlan < 1 || vlan > 4094 {
					holdFrameRead(t, "a byte turned", string(bad), impl.ErrSyntax)
				} else if got, want := impl.FrameRead(string(bad)), (impl.FrameOut{Frame: impl.Frame{Vlan: vlan, Data: f.Data}}); got != want {
					t.Errorf("another Vlan: got %#v, want %#v", got, want)
				}
			}
		}
		for vlan := range int64(65536) {
			if vlan < 1 || vlan > 4094 {
				holdFrameRead(t, "no Vlan", putWord(b, 14, vlan), impl.ErrSyntax)
			}
		}
	}
}

func TestWireAnswersAreNewMemory(t *testing.T) {
	for _, size := range []int{1, 2, 31, 300} {
		data := anyText(rand.New(rand.NewSource(40)), size)
		b := impl.DgramBytes(someDgram(data))
		f := impl.FrameBytes(impl.Frame{Vlan: 9, Data: data})
		if shares(b, data) || shares(f, data) {
			t.Errorf("bytes share memory with Data of %d bytes", size)
		}
		if got := impl.DgramRead(b); got.Dgram.Data != data || shares(got.Dgram.Data, b) {
			t.Errorf("DgramRead's Data of %d bytes shares memory with the text", size)
		}
		if got := impl.FrameRead(f); got.Frame.Data != data || shares(got.Frame.Data, f) {
			t.Errorf("FrameRead's Data of %d bytes shares memory with the text", size)
		}
	}
}
