package tests

import (
	"encoding/binary"
	"hash/crc32"
	"math"
	"math/rand"
	"strings"
	"testing"
	"unsafe"

	"loop.example/g00634/impl"
)

// ten is nine bytes that say more follows, and b behind them.
func ten(b byte) string {
	return strings.Repeat("\x80", 9) + string([]byte{b})
}

// edgeNums are the numbers at which a byte more is needed, and their neighbours, of either sign.
func edgeNums() []int64 {
	nums := []int64{0, math.MaxInt64, math.MinInt64, math.MaxInt64 - 1, math.MinInt64 + 1}
	for bit := range 63 {
		for near := int64(-2); near <= 2; near++ {
			nums = append(nums, int64(1)<<bit+near, -(int64(1)<<bit)+near)
		}
	}
	return nums
}

// anyText is a text of that many bytes, of all values.
func anyText(r *rand.Rand, size int) string {
	b := make([]byte, size)
	for i := range b {
		b[i] = byte(r.Intn(256))
	}
	return string(b)
}

// shares tells whether two texts have a byte of memory in common.
func shares(a string, b string) bool {
	if a == "" || b == "" {
		return false
	}
	x, y := uintptr(unsafe.Pointer(unsafe.StringData(a))), uintptr(unsafe.Pointer(unsafe.StringData(b)))
	return x < y+uintptr(len(b)) && y < x+uintptr(len(a))
}

func TestPutNumBytes(t *testing.T) {
	for _, c := range []struct {
		n    int64
		want string
	}{
		{0, "\x00"}, {-1, "\x01"}, {1, "\x02"}, {-2, "\x03"},
		{63, "\x7e"}, {-64, "\x7f"}, {64, "\x80\x01"}, {-65, "\x81\x01"},
		{8191, "\xfe\x7f"}, {-8192, "\xff\x7f"}, {8192, "\x80\x80\x01"},
		{math.MaxInt64, "\xfe\xff\xff\xff\xff\xff\xff\xff\xff\x01"},
		{math.MinInt64, "\xff\xff\xff\xff\xff\xff\xff\xff\xff\x01"},
	} {
		if got := impl.PutNum(c.n); got != c.want {
			t.Errorf("PutNum(%d): got %q, want %q", c.n, got, c.want)
		}
	}
	for _, n := range edgeNums() {
		if got, want := impl.PutNum(n), string(binary.AppendVarint(nil, n)); got != want {
			t.Errorf("PutNum(%d): got %q, want %q", n, got, want)
		}
	}
}

func TestP1NumbersComeBack(t *testing.T) {
	r := rand.New(rand.NewSource(1))
	nums := edgeNums()
	for range 2000 {
		nums = append(nums, int64(r.Uint64())>>r.Intn(64))
	}
	for _, n := range nums {
		b := impl.PutNum(n)
		for _, ahead := range []string{"", "\x80", "abc"} {
			for _, behind := range []string{"", "\x00", "\xff"} {
				want := impl.NumOut{N: n, At: int64(len(ahead) + len(b))}
				if got := impl.GetNum(ahead+b+behind, int64(len(ahead))); got != want {
					t.Fatalf("GetNum of %q, %q, %q: got %+v, want %+v", ahead, b, behind, got, want)
				}
			}
		}
	}
}

func TestP1NumbersOneByOne(t *testing.T) {
	all := ""
	for _, n := range edgeNums() {
		all += impl.PutNum(n)
	}
	at := int64(0)
	for i, n := range edgeNums() {
		got := impl.GetNum(all, at)
		if got.Code != impl.OK || got.N != n {
			t.Fatalf("number %d: got %+v, want %d", i, got, n)
		}
		at = got.At
	}
	if at != int64(len(all)) {
		t.Errorf("the last place is %d, want %d", at, len(all))
	}
}

func TestGetNumFaults(t *testing.T) {
	full := strings.Repeat("\x00", impl.MaxBytes)
	for _, c := range []struct {
		text string
		at   int64
		want impl.NumOut
	}{
		{full + "\x00", 0, impl.NumOut{Code: impl.ErrSize}},
		{full + "\x00", -1, impl.NumOut{Code: impl.ErrSize}},
		{full + "\x00", impl.MaxBytes + 5, impl.NumOut{Code: impl.ErrSize}},
		{full, impl.MaxBytes - 1, impl.NumOut{At: impl.MaxBytes}},
		{full, impl.MaxBytes, impl.NumOut{Code: impl.ErrShort}},
		{"\x02", -1, impl.NumOut{Code: impl.ErrForm}},
		{"", -1, impl.NumOut{Code: impl.ErrForm}},
		{"\x02", math.MinInt64, impl.NumOut{Code: impl.ErrForm}},
		{"", 0, impl.NumOut{Code: impl.ErrShort}},
		{"\x02", 1, impl.NumOut{Code: impl.ErrShort}},
		{"\x02", 2, impl.NumOut{Code: impl.ErrShort}},
		{"\x02", math.MaxInt64, impl.NumOut{Code: impl.ErrShort}},
		{"\x80", 0, impl.NumOut{Code: impl.ErrShort}},
		{"\x02\xff\xff", 1, impl.NumOut{Code: impl.ErrShort}},
		{ten(0)[:9], 0, impl.NumOut{Code: impl.ErrShort}},
		{ten(1), 0, impl.NumOut{N: 1 << 62, At: 10}},
		{ten(0), 0, impl.NumOut{Code: impl.ErrSyntax}},
		{ten(2), 0, impl.NumOut{Code: impl.ErrSyntax}},
		{ten(127), 0, impl.NumOut{Code: impl.ErrSyntax}},
		{ten(128), 0, impl.NumOut{Code: impl.ErrSyntax}},
		{ten(129) + "\x00", 0, impl.NumOut{Code: impl.ErrSyntax}},
		{ten(255) + "\x01", 0, impl.NumOut{Code: impl.ErrSyntax}},
		{"a" + ten(2), 1, impl.NumOut{Code: impl.ErrSyntax}},
		{"\x80\x00", 0, impl.NumOut{Code: impl.ErrSyntax}},
		{"\xff\x00", 0, impl.NumOut{Code: impl.ErrSyntax}},
		{"\x80\x80\x00", 0, impl.NumOut{Code: impl.ErrSyntax}},
		{"\x80\x80\x01", 0, impl.NumOut{N: 8192, At: 3}},
		{"\x00\x00", 0, impl.NumOut{At: 1}},
	} {
		if got := impl.GetNum(c.text, c.at); got != c.want {
			t.Errorf("GetNum of %d bytes %.12q at %d: got %+v, want %+v", len(c.text), c.text, c.at, got, c.want)
		}
	}
}

// What GetNum takes is what PutNum writes, and nothing else.
func TestGetNumTakesOneWritingOnly(t *testing.T) {
	r := rand.New(rand.NewSource(2))
	marks := []byte{0, 1, 2, 127, 128, 128, 128, 129, 200, 255, 255, 255}
	told := map[int64]int{}
	for range 50000 {
		b := make([]byte, r.Intn(13))
		for i := range b {
			b[i] = marks[r.Intn(len(marks))]
		}
		text := string(b)
		got := impl.GetNum(text, 0)
		told[got.Code]++
		switch got.Code {
		case impl.OK:
			if text[:got.At] != impl.PutNum(got.N) {
				t.Fatalf("%q is read as %d, which is written %q", text, got.N, impl.PutNum(got.N))
			}
		case impl.ErrShort:
			if len(text) >= 10 || strings.IndexFunc(latin(text), func(c rune) bool { return c < 128 }) >= 0 {
				t.Fatalf("%q is not short", text)
			}
		case impl.ErrSyntax:
			if n, size := binary.Varint(b); size > 0 && impl.PutNum(n) == text[:size] {
				t.Fatalf("%q is %d, but was refused", text, n)
			}
		default:
			t.Fatalf("%q: code %d", text, got.Code)
		}
		if got.Code != impl.OK && (got.N != 0 || got.At != 0) {
			t.Fatalf("%q: beside a code stands %+v", text, got)
		}
	}
	if told[impl.OK] == 0 || told[impl.ErrShort] == 0 || told[impl.ErrSyntax] == 0 {
		t.Errorf("not all answers came up: %v", told)
	}
}

// latin makes a rune of each byte, so that bytes may be looked at as runes.
func latin(text string) string {
	out := make([]rune, len(text))
	for i := range len(text) {
		out[i] = rune(text[i])
	}
	return string(out)
}

func TestP1TextsComeBack(t *testing.T) {
	r := rand.New(rand.NewSource(3))
	for _, size := range []int{0, 1, 2, 63, 64, 65, 127, 128, 500, 7000, impl.MaxBytes - 3, impl.MaxBytes - 2, impl.MaxBytes} {
		text := anyText(r, size)
		b := impl.PutText(text)
		if want := impl.PutNum(int64(size)) + text; b != want {
			t.Errorf("PutText of %d bytes is not its length and it", size)
		}
		if len(b) > impl.MaxBytes {
			if got, want := impl.GetText(b, 0), (impl.TextOut{Code: impl.ErrSize}); got != want {
				t.Errorf("a text of %d bytes in %d: code %d", size, len(b), got.Code)
			}
			continue
		}
		if got, want := impl.GetText(b, 0), (impl.TextOut{Text: text, At: int64(len(b))}); got != want {
			t.Errorf("a text of %d bytes does not come back: code %d, at %d", size, got.Code, got.At)
		}
		if len(b)+4 <= impl.MaxBytes {
			if got, want := impl.GetText("ab"+b+"\xffc", 2), (impl.TextOut{Text: text, At: int64(len(b) + 2)}); got != want {
				t.Errorf("a text of %d bytes amid others does not come back: code %d, at %d", size, got.Code, got.At)
			}
		}
	}
	if got := impl.PutText(strings.Repeat("a", impl.MaxBytes+1)); got != "" {
		t.Errorf("PutText of one byte too many: %d bytes", len(got))
	}
}

func TestGetTextFaults(t *testing.T) {
	long := impl.PutNum(impl.MaxBytes)
	for _, c := range []struct {
		text string
		at   int64
		want impl.TextOut
	}{
		{strings.Repeat("\x00", impl.MaxBytes+1), -1, impl.TextOut{Code: impl.ErrSize}},
		{"\x00", -1, impl.TextOut{Code: impl.ErrForm}},
		{"\x00", math.MinInt64, impl.TextOut{Code: impl.ErrForm}},
		{"", 0, impl.TextOut{Code: impl.ErrShort}},
		{"\x00", 1, impl.TextOut{Code: impl.ErrShort}},
		{"\x00", math.MaxInt64, impl.TextOut{Code: impl.ErrShort}},
		{"\x00", 0, impl.TextOut{At: 1}},
		{"\x80", 0, impl.TextOut{Code: impl.ErrShort}},
		{"\x80\x00", 0, impl.TextOut{Code: impl.ErrSyntax}},
		{ten(2), 0, impl.TextOut{Code: impl.ErrSyntax}},
		{"\x01a", 0, impl.TextOut{Code: impl.ErrSyntax}},
		{"\x01", 0, impl.TextOut{Code: impl.ErrSyntax}},
		{impl.PutNum(impl.MaxBytes+1) + "a", 0, impl.TextOut{Code: impl.ErrSyntax}},
		{impl.PutNum(math.MaxInt64), 0, impl.TextOut{Code: impl.ErrSyntax}},
		{impl.PutNum(math.MinInt64), 0, impl.TextOut{Code: impl.ErrSyntax}},
		{long, 0, impl.TextOut{Code: impl.ErrShort}},
		{long + strings.Repeat("a", impl.MaxBytes-len(long)), 0, impl.TextOut{Code: impl.ErrShort}},
		{"\x04a", 0, impl.TextOut{Code: impl.ErrShort}},
		{"\x04ab", 0, impl.TextOut{Text: "ab", At: 3}},
		{"\x04abc", 0, impl.TextOut{Text: "ab", At: 3}},
		{"x\x02ab", 1, impl.TextOut{Text: "a", At: 3}},
	} {
		if got := impl.GetText(c.text, c.at); got != c.want {
			t.Errorf("GetText of %d bytes %.12q at %d: got %+v, want %+v", len(c.text), c.text, c.at, got, c.want)
		}
	}
}

func TestNameRight(t *testing.T) {
	long := "a" + strings.Repeat("9", 19)
	for _, name := range []string{"a", "z", "az", "a0", "a9", "a_", "a__", "z_09az", long, "abcdefghij_123456789"} {
		if !impl.NameRight(name) {
			t.Errorf("%q is a name", name)
		}
	}
	for _, name := range []string{"", "_", "0", "9", "_a", "0a", "A", "aA", "Aa", "a ", " a", "a-", "a\n", "a\x00", "aé", "é", "a\xff", "`", "{", "a`", "a{", "a/", "a:", "a^", long + "9", strings.Repeat("a", 21), strings.Repeat("a", impl.MaxBytes+1)} {
		if impl.NameRight(name) {
			t.Errorf("%.30q is no name", name)
		}
	}
	for c := range 256 {
		b := string([]byte{byte(c)})
		first := c >= 'a' && c <= 'z'
		if impl.NameRight(b) != first {
			t.Errorf("a name of the byte %d: want %v", c, first)
		}
		if later := first || c >= '0' && c <= '9' || c == '_'; impl.NameRight("a"+b+"b") != later {
			t.Errorf("a name with the byte %d inside: want %v", c, later)
		}
	}
}

func TestCrc(t *testing.T) {
	if got := impl.Crc("123456789"); got != 0xCBF43926 {
		t.Errorf("Crc of 123456789: got %x", got)
	}
	r := rand.New(rand.NewSource(4))
	for _, size := range []int{0, 1, 2, 3, 4, 5, 8, 9, 255, 1000, impl.MaxBytes - 1, impl.MaxBytes} {
		text := anyText(r, size)
		if got, want := impl.Crc(text), int64(crc32.ChecksumIEEE([]byte(text))); got != want {
			t.Errorf("Crc of %d bytes: got %x, want %x", size, got, want)
		}
	}
	if got := impl.Crc(strings.Repeat("a", impl.MaxBytes+1)); got != 0 {
		t.Errorf("Crc of one byte too many: got %x", got)
	}
}

func TestP2CrcGoesOn(t *testing.T) {
	r := rand.New(rand.NewSource(5))
	for _, sizes := range [][2]int{{0, 0}, {0, 5}, {5, 0}, {1, 1}, {9, 300}, {300, 9}, {4000, 4000}, {impl.MaxBytes, impl.MaxBytes}} {
		a, b := anyText(r, sizes[0]), anyText(r, sizes[1])
		want := int64(crc32.ChecksumIEEE([]byte(a + b)))
		if got := impl.CrcMore(impl.Crc(a), b); got != want {
			t.Errorf("CrcMore of %v bytes: got %x, want %x", sizes, got, want)
		}
		if len(a+b) <= impl.MaxBytes && impl.Crc(a+b) != want {
			t.Errorf("Crc of %v bytes together is another one", sizes)
		}
	}
}

func TestCrcMoreEdges(t *testing.T) {
	for _, crc := range []int64{0, 1, 1 << 31, math.MaxUint32 - 1, math.MaxUint32} {
		if got := impl.CrcMore(crc, ""); got != crc {
			t.Errorf("CrcMore(%x, nothing): got %x", crc, got)
		}
		if got, want := impl.CrcMore(crc, "abc"), int64(crc32.Update(uint32(crc), crc32.IEEETable, []byte("abc"))); got != want {
			t.Errorf("CrcMore(%x, abc): got %x, want %x", crc, got, want)
		}
		if got := impl.CrcMore(crc, strings.Repeat("a", impl.MaxBytes+1)); got != 0 {
			t.Errorf("CrcMore(%x, one byte too many): got %x", crc, got)
		}
	}
	for _, crc := range []int64{-1, math.MinInt64, math.MaxUint32 + 1, math.MaxInt64, 1 << 32, -(1 << 32)} {
		for _, text := range []string{"", "abc"} {
			if got := impl.CrcMore(crc, text); got != 0 {
				t.Errorf("CrcMore(%d, %q): got %x, want 0", crc, text, got)
			}
		}
	}
}

func TestP2SealComesBack(t *testing.T) {
	if got := impl.Seal("123456789"); got != "123456789\x26\x39\xf4\xcb" {
		t.Errorf("Seal of 123456789: got %q", got)
	}
	r := rand.New(rand.NewSource(6))
	for _, size := range []int{0, 1, 3, 4, 5, 100, impl.MaxBytes - 5, impl.MaxBytes - 4} {
		text := anyText(r, size)
		sealed := impl.Seal(text)
		if want := text + string(binary.LittleEndian.AppendUint32(nil, crc32.ChecksumIEEE([]byte(text)))); sealed != want {
			t.Errorf("Seal of %d bytes is another one", size)
		}
		if got, want := impl.Unseal(sealed), (impl.TextOut{Text: text}); got != want {
			t.Errorf("a sealed text of %d bytes does not come back: code %d", size, got.Code)
		}
	}
	for _, size := range []int{impl.MaxBytes - 3, impl.MaxBytes, impl.MaxBytes + 1} {
		if got := impl.Seal(strings.Repeat("a", size)); got != "" {
			t.Errorf("Seal of %d bytes: got %d bytes, want none", size, len(got))
		}
	}
}

func TestP2TurnedByteIsRefused(t *testing.T) {
	r := rand.New(rand.NewSource(7))
	refused := impl.TextOut{Code: impl.ErrSum}
	for _, size := range []int{0, 1, 7, 40} {
		sealed := impl.Seal(anyText(r, size))
		for at := range sealed {
			for turn := 1; turn < 256; turn++ {
				b := []byte(sealed)
				b[at] ^= byte(turn)
				if got := impl.Unseal(string(b)); got != refused {
					t.Fatalf("byte %d of %d turned by %d: got %+v", at, len(sealed), turn, got)
				}
			}
		}
	}
	sealed := impl.Seal(anyText(r, impl.MaxBytes-4))
	for range 50 {
		b := []byte(sealed)
		at := r.Intn(len(b))
		b[at] ^= byte(1 + r.Intn(255))
		if got := impl.Unseal(string(b)); got != refused {
			t.Fatalf("byte %d of the greatest seal turned: code %d", at, got.Code)
		}
	}
}

func TestUnsealFaults(t *testing.T) {
	for _, c := range []struct {
		text string
		want impl.TextOut
	}{
		{"", impl.TextOut{Code: impl.ErrShort}},
		{"\x00", impl.TextOut{Code: impl.ErrShort}},
		{"\x00\x00\x00", impl.TextOut{Code: impl.ErrShort}},
		{"\x00\x00\x00\x00", impl.TextOut{}},
		{"\x00\x00\x00\x01", impl.TextOut{Code: impl.ErrSum}},
		{"\x00\x00\x00\x00\x00", impl.TextOut{Code: impl.ErrSum}},
		{"123456789\xcb\xf4\x39\x26", impl.TextOut{Code: impl.ErrSum}},
		{strings.Repeat("a", impl.MaxBytes), impl.TextOut{Code: impl.ErrSum}},
		{strings.Repeat("a", impl.MaxBytes+1), impl.TextOut{Code: impl.ErrSize}},
	} {
		if got := impl.Unseal(c.text); got != c.want {
			t.Errorf("Unseal of %d bytes %.12q: got %+v, want %+v", len(c.text), c.text, got, c.want)
		}
	}
	long := strings.Repeat("a", impl.MaxBytes-3)
	sealed := long + string(binary.LittleEndian.AppendUint32(nil, crc32.ChecksumIEEE([]byte(long))))
	if got, want := impl.Unseal(sealed), (impl.TextOut{Code: impl.ErrSize}); got != want {
		t.Errorf("a seal of one byte too many: code %d", got.Code)
	}
}

func TestAnswersAreNewMemory(t *testing.T) {
	r := rand.New(rand.NewSource(8))
	text := anyText(r, 100)
	put, sealed := impl.PutText(text), impl.Seal(text)
	for _, c := range []struct {
		what     string
		got, arg string
	}{
		{"PutText", put, text},
		{"GetText", impl.GetText(put, 0).Text, put},
		{"Seal", sealed, text},
		{"Unseal", impl.Unseal(sealed).Text, sealed},
	} {
		if c.got == "" || shares(c.got, c.arg) {
			t.Errorf("%s: the answer is no new memory", c.what)
		}
	}
}
