package tests

import (
	"math"
	"math/rand"
	"net/netip"
	"strconv"
	"strings"
	"testing"

	"loop.example/g00634/impl"
)

const topAddr = math.MaxUint32

var (
	edgeAddrs  = []int64{0, 1, 255, 256, 65535, 65536, 1<<24 - 1, 1 << 24, 1<<31 - 1, 1 << 31, topAddr - 1, topAddr}
	wrongAddrs = []int64{-1, -255, topAddr + 1, topAddr + 2, 1 << 33, -(1 << 32), math.MaxInt64, math.MinInt64}
	wrongLens  = []int64{-1, -32, 33, 34, 64, 1 << 32, 1<<32 + 8, math.MaxInt64, math.MinInt64}
)

// wrongTexts are no address's text, whatever comes behind them.
var wrongTexts = []string{
	"", ".", "...", "....", "1", "1.2", "1.2.3", "1.2.3.", ".1.2.3", "1..2.3", "1.2..3", "1.2.3.4.", ".1.2.3.4", "1.2.3.4.5", "1.2.3.4.5.6",
	"+1.2.3.4", "1.-2.3.4", "-0.0.0.0", "1.2.3.+4", "1.2.3.-4",
	" 1.2.3.4", "1.2.3.4 ", "1. 2.3.4", "1.2.3.4\n", "\t1.2.3.4", "1 .2.3.4",
	"01.2.3.4", "1.02.3.4", "1.2.3.04", "00.0.0.0", "0.0.0.00", "1.2.003.4", "000.0.0.0",
	"256.0.0.0", "0.256.0.0", "0.0.256.0", "0.0.0.256", "1.2.3.999", "1.2.3.1000", "300.2.3.4", "1.2.3.18446744073709551617", "4294967297.0.0.0",
	"1,2,3,4", "1.2.3.x", "a.b.c.d", "0x1.2.3.4", "1.2.3.1e1", "1_0.2.3.4", "1.2.3.4\x00", "\x001.2.3.4", "/.2.3.4", ":.2.3.4", "1.2.3./", "1.2.3.:",
	"1.2.3.\u0664", "\u0661.2.3.4", "1.2.3.\uff14", "1\u30022.3.4", "é.2.3.4", "1.2.3.4é",
	"1.2.3.\xff", "\xff1.2.3.4", "1.2.3.4\xff", "1\x80.2.3.4", "\xc0\xb1.2.3.4", "1.2.3.\xed\xa0\x80", "\ufffd.2.3.4", "1.2.3.4\xb0",
	"1/2.3.4", "::1", "::ffff:1.2.3.4", "1.2.3.4%a",
}

// plainAddr is an address's text, put together another way than the program does.
func plainAddr(a int64) string {
	return netip.AddrFrom4([4]byte{byte(a >> 24), byte(a >> 16), byte(a >> 8), byte(a)}).String()
}

// addrsOf are the edges and some more.
func addrsOf(r *rand.Rand) []int64 {
	addrs := append([]int64{167837953, 0x01020304, 0xFFFEFDFC}, edgeAddrs...)
	for range 200 {
		addrs = append(addrs, r.Int63n(topAddr+1))
	}
	return addrs
}

// firstBits tells bit by bit whether two addresses begin alike.
func firstBits(a int64, b int64, length int64) bool {
	for i := range length {
		if a>>(31-i)&1 != b>>(31-i)&1 {
			return false
		}
	}
	return true
}

// wrongNets have each one fault or more.
func wrongNets() []impl.Net {
	nets := []impl.Net{
		{Addr: 1, Len: 0}, {Addr: 1, Len: 8}, {Addr: 1, Len: 31}, {Addr: topAddr, Len: 31}, {Addr: topAddr, Len: 0},
		{Addr: 1 << 31, Len: 0}, {Addr: 1 << 30, Len: 1}, {Addr: 0x0A000001, Len: 8}, {Addr: 0x0A800000, Len: 8},
	}
	for _, a := range wrongAddrs {
		for _, length := range []int64{-1, 0, 1, 8, 32, 33} {
			nets = append(nets, impl.Net{Addr: a, Len: length})
		}
	}
	for _, length := range wrongLens {
		for _, a := range []int64{0, 1, 1 << 31, topAddr} {
			nets = append(nets, impl.Net{Addr: a, Len: length})
		}
	}
	return nets
}

func TestAddrTexts(t *testing.T) {
	for _, c := range []struct {
		a    int64
		want string
	}{
		{0, "0.0.0.0"}, {1, "0.0.0.1"}, {255, "0.0.0.255"}, {256, "0.0.1.0"}, {0x0A010101, "10.1.1.1"},
		{0x01020304, "1.2.3.4"}, {1 << 31, "128.0.0.0"}, {topAddr, "255.255.255.255"}, {0xC80A6400, "200.10.100.0"},
	} {
		if got := impl.AddrText(c.a); got != c.want {
			t.Errorf("AddrText(%d): got %q, want %q", c.a, got, c.want)
		}
	}
	for _, a := range wrongAddrs {
		if got := impl.AddrText(a); got != "" {
			t.Errorf("AddrText(%d): got %q, want nothing", a, got)
		}
	}
}

func TestP4AddrsComeBack(t *testing.T) {
	for _, a := range addrsOf(rand.New(rand.NewSource(21))) {
		text := impl.AddrText(a)
		if want := plainAddr(a); text != want {
			t.Errorf("AddrText(%d): got %q, want %q", a, text, want)
		}
		if got, want := impl.AddrRead(text), (impl.NumOut{N: a}); got != want {
			t.Errorf("AddrRead(%q): got %+v, want %+v", text, got, want)
		}
	}
	for part := range int64(256) {
		for at := range 4 {
			a := part << (8 * at)
			if got, want := impl.AddrRead(plainAddr(a)), (impl.NumOut{N: a}); got != want || impl.AddrText(a) != plainAddr(a) {
				t.Errorf("the address %d does not come back: got %+v of %q", a, got, impl.AddrText(a))
			}
		}
	}
}

func TestAddrReadFaults(t *testing.T) {
	refused := impl.NumOut{Code: impl.ErrSyntax}
	for _, text := range append([]string{"1.2.3.4/8", "0.0.0.0/0"}, wrongTexts...) {
		if got := impl.AddrRead(text); got != refused {
			t.Errorf("AddrRead(%q): got %+v, want %+v", text, got, refused)
		}
	}
	for c := range 256 {
		if c >= '0' && c <= '9' {
			continue
		}
		b := string([]byte{byte(c)})
		for _, text := range []string{b + "1.2.3.4", "1" + b + "2.3.4.5", "1.2.3.4" + b, "1.2." + b + ".4", "1.2.3." + b} {
			if got := impl.AddrRead(text); got != refused {
				t.Errorf("AddrRead(%q): got %+v, want %+v", text, got, refused)
			}
		}
	}
}

// longTexts are of that many bytes, and no text of an address or a net.
func longTexts(size int) []string {
	return []string{
		strings.Repeat("1", size), strings.Repeat("0", size), strings.Repeat(".", size), strings.Repeat("/", size), strings.Repeat("\xff", size),
		strings.Repeat("0", size-7) + "1.2.3.4", "1.2.3.4" + strings.Repeat(" ", size-7), "1.2.3." + strings.Repeat("9", size-6),
		"10.0.0.0/8" + strings.Repeat("0", size-10), "10.0.0.0/" + strings.Repeat("0", size-10) + "8", strings.Repeat("é", size/2) + strings.Repeat("1", size%2),
	}
}

func TestAddrTextsTooLong(t *testing.T) {
	for size, code := range map[int]int64{impl.MaxBytes - 1: impl.ErrSyntax, impl.MaxBytes: impl.ErrSyntax, impl.MaxBytes + 1: impl.ErrSize, 1000000: impl.ErrSize} {
		for _, text := range longTexts(size) {
			if got, want := impl.AddrRead(text), (impl.NumOut{Code: code}); got != want {
				t.Errorf("AddrRead of %d bytes %.12q: got %+v, want %+v", size, text, got, want)
			}
			if got, want := impl.NetRead(text), (impl.NetOut{Code: code}); got != want {
				t.Errorf("NetRead of %d bytes %.12q: got %+v, want %+v", size, text, got, want)
			}
		}
	}
}

// Texts near to right ones, held against the library's reading of them.
func TestP4TextsNearToRightOnes(t *testing.T) {
	r := rand.New(rand.NewSource(22))
	const signs = "0123456789../ -+x\xff"
	for range 40000 {
		b := []byte(plainAddr(r.Int63n(topAddr + 1)))
		if r.Intn(2) == 0 {
			length := r.Int63n(34)
			behind := max(32-length, 0)
			b = []byte(plainAddr(r.Int63n(topAddr+1)>>behind<<behind) + "/" + strconv.FormatInt(length, 10))
		}
		for range r.Intn(3) {
			at := r.Intn(len(b))
			switch r.Intn(3) {
			case 0:
				b[at] = signs[r.Intn(len(signs))]
			case 1:
				b = append(b[:at:at], b[at+1:]...)
			case 2:
				b = append(b[:at:at], append([]byte{signs[r.Intn(len(signs))]}, b[at:]...)...)
			}
		}
		holdAgainstLibrary(t, string(b))
	}
}

func holdAgainstLibrary(t *testing.T, text string) {
	t.Helper()
	wantNum, wantNet := impl.NumOut{Code: impl.ErrSyntax}, impl.NetOut{Code: impl.ErrSyntax}
	if a, err := netip.ParseAddr(text); err == nil && a.Is4() {
		wantNum = impl.NumOut{N: numOf(a)}
	}
	if p, err := netip.ParsePrefix(text); err == nil && p.Addr().Is4() && p == p.Masked() {
		wantNet = impl.NetOut{Net: impl.Net{Addr: numOf(p.Addr()), Len: int64(p.Bits())}}
	}
	if got := impl.AddrRead(text); got != wantNum {
		t.Fatalf("AddrRead(%q): got %+v, want %+v", text, got, wantNum)
	}
	if got := impl.NetRead(text); got != wantNet {
		t.Fatalf("NetRead(%q): got %+v, want %+v", text, got, wantNet)
	}
}

func numOf(a netip.Addr) int64 {
	b := a.As4()
	return int64(b[0])<<24 | int64(b[1])<<16 | int64(b[2])<<8 | int64(b[3])
}

func TestP4MasksAndLengths(t *testing.T) {
	for length, want := range map[int64]int64{0: 0, 1: 0x80000000, 8: 0xFF000000, 16: 0xFFFF0000, 24: 0xFFFFFF00, 31: 0xFFFFFFFE, 32: topAddr} {
		if got := impl.MaskOf(length); got != want {
			t.Errorf("MaskOf(%d): got %x, want %x", length, got, want)
		}
	}
	for length := range int64(33) {
		mask := impl.MaskOf(length)
		for i := range int64(32) {
			if bit := mask >> (31 - i) & 1; bit == 1 != (i < length) {
				t.Errorf("MaskOf(%d): the bit %d is %d", length, i, bit)
			}
		}
		if mask < 0 || mask > topAddr {
			t.Errorf("MaskOf(%d) is no address: %d", length, mask)
		}
		if got := impl.LenOf(mask); got != length {
			t.Errorf("LenOf(%x): got %d, want %d", mask, got, length)
		}
	}
	for _, length := range wrongLens {
		if got := impl.MaskOf(length); got != 0 {
			t.Errorf("MaskOf(%d): got %x, want 0", length, got)
		}
	}
}

func TestP4NoMaskHasNoLength(t *testing.T) {
	none := append([]int64{1, 2, 5, 255, 256, 1 << 30, 1<<31 - 1, 1<<31 + 1, 0x00FFFFFF, 0xFF00FF00, 0x7F000000, 0xFFFFFFFD, 0xFFFFFF01}, wrongAddrs...)
	for length := range int64(33) {
		mask := int64(topAddr) &^ (1<<(32-length) - 1)
		none = append(none, mask-1<<32, mask+1<<32)
		for bit := range 32 {
			turned := mask ^ 1<<bit
			// the two that turn a mask into its neighbour
			if int64(bit) != 31-length && int64(bit) != 32-length {
				none = append(none, turned)
			}
		}
	}
	for _, mask := range none {
		if got := impl.LenOf(mask); got != -1 {
			t.Errorf("LenOf(%x): got %d, want -1", mask, got)
		}
	}
}

func TestNetOf(t *testing.T) {
	for _, c := range []struct {
		a, length int64
		want      impl.Net
	}{
		{0x0A010101, 16, impl.Net{Addr: 0x0A010000, Len: 16}}, {topAddr, 0, impl.Net{}}, {topAddr, 1, impl.Net{Addr: 1 << 31, Len: 1}},
		{topAddr, 31, impl.Net{Addr: topAddr - 1, Len: 31}}, {topAddr, 32, impl.Net{Addr: topAddr, Len: 32}}, {0, 32, impl.Net{Len: 32}}, {255, 24, impl.Net{Len: 24}},
		{256, 24, impl.Net{Addr: 256, Len: 24}},
	} {
		if got := impl.NetOf(c.a, c.length); got != c.want {
			t.Errorf("NetOf(%d, %d): got %+v, want %+v", c.a, c.length, got, c.want)
		}
	}
	for _, length := range []int64{-1, 0, 1, 8, 31, 32, 33} {
		for _, a := range wrongAddrs {
			if got := impl.NetOf(a, length); got != (impl.Net{}) {
				t.Errorf("NetOf(%d, %d): got %+v, want the zero one", a, length, got)
			}
		}
	}
	for _, length := range wrongLens {
		for _, a := range edgeAddrs {
			if got := impl.NetOf(a, length); got != (impl.Net{}) {
				t.Errorf("NetOf(%d, %d): got %+v, want the zero one", a, length, got)
			}
		}
	}
}

func TestP4NetsComeBack(t *testing.T) {
	for _, a := range addrsOf(rand.New(rand.NewSource(23))) {
		for length := range int64(33) {
			n := impl.NetOf(a, length)
			text := impl.NetText(n)
			if want := plainAddr(n.Addr) + "/" + strconv.FormatInt(length, 10); text != want {
				t.Errorf("NetText(%+v): got %q, want %q", n, text, want)
			}
			if got, want := impl.NetRead(text), (impl.NetOut{Net: n}); got != want {
				t.Errorf("NetRead(%q): got %+v, want %+v", text, got, want)
			}
		}
	}
	for text, want := range map[string]impl.Net{
		"0.0.0.0/0": {}, "0.0.0.0/32": {Len: 32}, "10.1.0.0/16": {Addr: 0x0A010000, Len: 16}, "128.0.0.0/1": {Addr: 1 << 31, Len: 1},
		"255.255.255.255/32": {Addr: topAddr, Len: 32}, "255.255.255.254/31": {Addr: topAddr - 1, Len: 31},
	} {
		if got := impl.NetRead(text); got != (impl.NetOut{Net: want}) || impl.NetText(want) != text {
			t.Errorf("NetRead(%q): got %+v, want %+v", text, got, want)
		}
	}
}

func TestNetReadFaults(t *testing.T) {
	texts := []string{
		"1.2.3.4", "10.0.0.0", "0.0.0.0", "/", "//", "/8", "10.0.0.0/", "10.0.0.0//8", "10.0.0.0/8/", "/10.0.0.0/8", "10.0.0.0/8/8", "10.0.0.0/8/0", "0.0.0.0/0/0", "10/0.0.0/8", "10.0.0/8", "10.0.0.0.0/8",
		"10.0.0.0/33", "0.0.0.0/33", "0.0.0.0/34", "0.0.0.0/99", "0.0.0.0/320", "0.0.0.0/4294967296", "0.0.0.0/18446744073709551616", "0.0.0.0/-1", "0.0.0.0/+0", "10.0.0.0/+8", "0.0.0.0/-0",
		"10.0.0.0/08", "0.0.0.0/00", "10.0.0.0/008", "10.0.0.0/ 8", "10.0.0.0 /8", " 10.0.0.0/8", "10.0.0.0/8 ", "10.0.0.0/8\n", "10.0.0.0/8.", "10.0.0.0/x", "10.0.0.0/8x", "10.0.0.0/0x8", "10.0.0.0/\u0668", "10.0.0.0/8é", "10.0.0.0/\xff", "10.0.0.0\xff/8", "10.0.0.0\uff0f8", "10.0.0.0/255.0.0.0", "10.0.0.0\\8",
		"10.0.0.1/8", "10.1.0.1/16", "0.0.0.1/0", "128.0.0.0/0", "64.0.0.0/1", "255.255.255.255/31", "255.255.255.255/0", "1.2.3.4/24",
	}
	for _, text := range wrongTexts {
		texts = append(texts, text, text+"/32", text+"/0")
	}
	for _, text := range texts {
		if got, want := impl.NetRead(text), (impl.NetOut{Code: impl.ErrSyntax}); got != want {
			t.Errorf("NetRead(%q): got %+v, want %+v", text, got, want)
		}
	}
}

func TestNetRight(t *testing.T) {
	for _, a := range addrsOf(rand.New(rand.NewSource(24))) {
		for length := range int64(33) {
			n := impl.Net{Addr: a, Len: length}
			want := a%(1<<(32-length)) == 0
			if got := impl.NetRight(n); got != want {
				t.Errorf("NetRight(%+v): got %v, want %v", n, got, want)
			}
			if got := impl.NetText(n) != ""; got != want {
				t.Errorf("NetText(%+v): got %q", n, impl.NetText(n))
			}
		}
	}
	for _, n := range wrongNets() {
		if impl.NetRight(n) {
			t.Errorf("NetRight(%+v): it is not", n)
		}
		if got := impl.NetText(n); got != "" {
			t.Errorf("NetText(%+v): got %q, want nothing", n, got)
		}
	}
}

func TestNetLess(t *testing.T) {
	rising := []impl.Net{{}, {Len: 1}, {Len: 8}, {Len: 31}, {Len: 32}, {Addr: 1, Len: 32}, {Addr: 2, Len: 31}, {Addr: 2, Len: 32}, {Addr: 256, Len: 24},
		{Addr: 0x0A000000, Len: 8}, {Addr: 0x0A000000, Len: 16}, {Addr: 0x0A010000, Len: 16}, {Addr: 0x0A010000, Len: 24}, {Addr: 0x0B000000, Len: 8}, {Addr: 1 << 31, Len: 1}, {Addr: 1 << 31, Len: 32}, {Addr: topAddr, Len: 32}}
	for i, a := range rising {
		for k, b := range rising {
			if got := impl.NetLess(a, b); got != (i < k) {
				t.Errorf("NetLess(%+v, %+v): got %v", a, b, got)
			}
		}
		for _, w := range wrongNets() {
			if impl.NetLess(a, w) || impl.NetLess(w, a) {
				t.Errorf("NetLess of %+v and %+v: one of them is not right", a, w)
			}
		}
	}
	for _, w := range wrongNets() {
		if impl.NetLess(w, impl.Net{Addr: topAddr, Len: 33}) || impl.NetLess(impl.Net{Addr: -1, Len: -1}, w) {
			t.Errorf("NetLess of %+v and another one: neither is right", w)
		}
	}
}

func TestP5NetCoversWhatItIsOf(t *testing.T) {
	addrs := addrsOf(rand.New(rand.NewSource(25)))
	for i, a := range addrs {
		for length := range int64(33) {
			n := impl.NetOf(a, length)
			if n.Len != length || !impl.NetRight(n) || !impl.Covers(n, a) || !impl.Covers(n, n.Addr) {
				t.Errorf("NetOf(%d, %d) is %+v and does not cover it", a, length, n)
			}
			near := append([]int64{n.Addr - 1, n.Addr + 1<<(32-length) - 1, n.Addr + 1<<(32-length), addrs[(i+1)%len(addrs)]}, edgeAddrs...)
			for bit := range 32 {
				near = append(near, a^1<<bit)
			}
			for _, b := range near {
				want := b >= 0 && b <= topAddr && firstBits(a, b, length)
				if got := impl.Covers(n, b); got != want {
					t.Errorf("Covers(%+v, %d): got %v, want %v", n, b, got, want)
				}
			}
		}
	}
}

func TestCoversWrongOnes(t *testing.T) {
	for _, n := range []impl.Net{{}, {Len: 1}, {Len: 32}, {Addr: 0x0A000000, Len: 8}, {Addr: topAddr, Len: 32}} {
		for _, a := range append([]int64{1<<32 + n.Addr, n.Addr - 1<<32}, wrongAddrs...) {
			if impl.Covers(n, a) {
				t.Errorf("Covers(%+v, %d): that is no address", n, a)
			}
		}
	}
	for _, n := range wrongNets() {
		for _, a := range append([]int64{n.Addr}, append(wrongAddrs, edgeAddrs...)...) {
			if impl.Covers(n, a) {
				t.Errorf("Covers(%+v, %d): that Net is not right", n, a)
			}
		}
	}
}

func TestWithin(t *testing.T) {
	r := rand.New(rand.NewSource(26))
	nets := []impl.Net{{}, {Len: 1}, {Addr: 1 << 31, Len: 1}, {Len: 32}, {Addr: topAddr, Len: 32}, {Addr: topAddr - 1, Len: 31}}
	for _, length := range []int64{0, 1, 7, 8, 9, 16, 24, 31, 32} {
		for _, a := range []int64{0x0A000000, 0x0A010203, 0x0A810203, 0x0B000000, r.Int63n(topAddr + 1)} {
			nets = append(nets, impl.NetOf(a, length))
		}
	}
	for _, a := range nets {
		for _, b := range nets {
			want := a.Len <= b.Len && firstBits(a.Addr, b.Addr, a.Len)
			if got := impl.Within(a, b); got != want {
				t.Errorf("Within(%+v, %+v): got %v, want %v", a, b, got, want)
			}
		}
		if !impl.Within(a, a) || !impl.Within(impl.Net{}, a) {
			t.Errorf("%+v is not within itself, or not within all", a)
		}
		for _, w := range wrongNets() {
			if impl.Within(a, w) || impl.Within(w, a) || impl.Within(w, w) {
				t.Errorf("Within of %+v and %+v: one of them is not right", a, w)
			}
		}
	}
}

func TestP5JustOneHalfCovers(t *testing.T) {
	r := rand.New(rand.NewSource(27))
	for _, of := range addrsOf(r) {
		for length := range int64(32) {
			n := impl.NetOf(of, length)
			size := int64(1) << (32 - length)
			want := []impl.Net{{Addr: n.Addr, Len: length + 1}, {Addr: n.Addr + size/2, Len: length + 1}}
			halves := impl.Halves(n)
			if len(halves) != 2 || halves[0] != want[0] || halves[1] != want[1] {
				t.Fatalf("Halves(%+v): got %+v, want %+v", n, halves, want)
			}
			if !impl.Within(n, halves[0]) || !impl.Within(n, halves[1]) || !impl.NetLess(halves[0], halves[1]) {
				t.Errorf("Halves(%+v): got %+v", n, halves)
			}
			for _, a := range []int64{of, n.Addr, n.Addr + size/2 - 1, n.Addr + size/2, n.Addr + size - 1, n.Addr + r.Int63n(size)} {
				if low, high := impl.Covers(halves[0], a), impl.Covers(halves[1], a); !impl.Covers(n, a) || low == high || low != (a < n.Addr+size/2) {
					t.Errorf("%+v covers %d, its halves: %v and %v", n, a, low, high)
				}
			}
			for _, a := range []int64{n.Addr - 1, n.Addr + size} {
				if impl.Covers(halves[0], a) || impl.Covers(halves[1], a) {
					t.Errorf("a half of %+v covers %d", n, a)
				}
			}
		}
	}
}

func TestHalvesOfNone(t *testing.T) {
	none := wrongNets()
	for _, a := range edgeAddrs {
		none = append(none, impl.Net{Addr: a, Len: 32})
	}
	for _, n := range none {
		if got := impl.Halves(n); len(got) != 0 {
			t.Errorf("Halves(%+v): got %+v, want none", n, got)
		}
	}
	n := impl.Net{Addr: topAddr - 1, Len: 31}
	if got := impl.Halves(n); len(got) != 2 || got[0] != (impl.Net{Addr: topAddr - 1, Len: 32}) || got[1] != (impl.Net{Addr: topAddr, Len: 32}) {
		t.Errorf("Halves(%+v): got %+v", n, got)
	}
}

func TestHalvesAreNewMemory(t *testing.T) {
	n := impl.Net{Addr: 0x0A000000, Len: 8}
	first, second := impl.Halves(n), impl.Halves(n)
	first[0].Len, first[1].Addr = 99, -1
	if third := impl.Halves(n); second[0] != third[0] || second[1] != third[1] || third[0].Len != 9 || third[1].Addr != 0x0A800000 {
		t.Errorf("Halves of one Net share memory: %+v and %+v", second, third)
	}
}
