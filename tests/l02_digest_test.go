package tests

import (
	"crypto/hmac"
	"crypto/sha256"
	"encoding/hex"
	"math"
	"math/rand"
	"strings"
	"testing"

	"loop.example/g00634/impl"
)

// sum256 and hmac256 are the library's, to hold the program's own against.
func sum256(text string) string {
	sum := sha256.Sum256([]byte(text))
	return string(sum[:])
}

func hmac256(key string, text string) string {
	h := hmac.New(sha256.New, []byte(key))
	h.Write([]byte(text))
	return string(h.Sum(nil))
}

// unhex reads digits of a known answer.
func unhex(t *testing.T, digits string) string {
	t.Helper()
	b, err := hex.DecodeString(digits)
	if err != nil {
		t.Fatal(err)
	}
	return string(b)
}

// macOfDigests puts a mac together of nothing but Digest, as the document says
// it; its text has at most MaxBytes less 64 bytes, so that Digest takes both.
func macOfDigests(key string, text string) string {
	if len(key) > 64 {
		key = impl.Digest(key)
	}
	inner, outer := make([]byte, 64), make([]byte, 64)
	copy(inner, key)
	copy(outer, key)
	for i := range 64 {
		inner[i] ^= 54
		outer[i] ^= 92
	}
	return impl.Digest(string(outer) + impl.Digest(string(inner)+text))
}

var (
	digestSizes = []int{0, 1, 3, 54, 55, 56, 57, 63, 64, 65, 118, 119, 120, 121, 127, 128, 129, 183, 184, 1000, impl.MaxBytes - 64, impl.MaxBytes - 63, impl.MaxBytes - 1, impl.MaxBytes}
	keySizes    = []int{0, 1, 20, 31, 32, 33, 62, 63, 64, 65, 66, 128, 131, impl.MaxBytes - 1, impl.MaxBytes}
)

func TestP3KnownDigests(t *testing.T) {
	for _, c := range []struct{ text, want string }{
		{"", "e3b0c44298fc1c149afbf4c8996fb92427ae41e4649b934ca495991b7852b855"},
		{"abc", "ba7816bf8f01cfea414140de5dae2223b00361a396177a9cb410ff61f20015ad"},
		{"abcdbcdecdefdefgefghfghighijhijkijkljklmklmnlmnomnopnopq", "248d6a61d20638b8e5c026930c3e6039a33ce45964ff2167f6ecedd419db06c1"},
		{"abcdefghbcdefghicdefghijdefghijkefghijklfghijklmghijklmnhijklmnoijklmnopjklmnopqklmnopqrlmnopqrsmnopqrstnopqrstu", "cf5b16a778af8380036ce59e7b0492370b249b11e8f07a51afac45037afee9d1"},
		{"\xbd", "68325720aabd7c82f30f554b313d0570c95accbb7dc4b5aae11204c08ffe732b"},
		{"\xc9\x8c\x8e\x55", "7abc22c0ae5af26ce93dbb94433a0e0b2e119d014f8e7f65bd56c61ccccd9504"},
	} {
		if got := impl.Digest(c.text); got != unhex(t, c.want) {
			t.Errorf("Digest(%q): got %x, want %s", c.text, got, c.want)
		}
	}
}

func TestP3DigestsOfAllSizes(t *testing.T) {
	r := rand.New(rand.NewSource(11))
	sizes := digestSizes
	for size := range 260 {
		sizes = append(sizes, size)
	}
	for _, size := range sizes {
		for _, text := range []string{anyText(r, size), strings.Repeat("\x00", size), strings.Repeat("\xff", size)} {
			if got, want := impl.Digest(text), sum256(text); got != want {
				t.Errorf("Digest of %d bytes: got %x, want %x", size, got, want)
			}
		}
	}
}

func TestDigestOfTooMuch(t *testing.T) {
	for _, size := range []int{impl.MaxBytes + 1, impl.MaxBytes + 64, 1000000} {
		if got := impl.Digest(strings.Repeat("a", size)); got != "" {
			t.Errorf("Digest of %d bytes: got %x, want nothing", size, got)
		}
	}
}

func TestP3KnownMacs(t *testing.T) {
	long := strings.Repeat("\xaa", 131)
	counted := ""
	for i := range 25 {
		counted += string([]byte{byte(i + 1)})
	}
	for i, c := range []struct{ key, text, want string }{
		{strings.Repeat("\x0b", 20), "Hi There", "b0344c61d8db38535ca8afceaf0bf12b881dc200c9833da726e9376c2e32cff7"},
		{"Jefe", "what do ya want for nothing?", "5bdcc146bf60754e6a042426089575c75a003f089d2739839dec58b964ec3843"},
		{strings.Repeat("\xaa", 20), strings.Repeat("\xdd", 50), "773ea91e36800e46854db8ebd09181a72959098b3ef8c122d9635514ced565fe"},
		{counted, strings.Repeat("\xcd", 50), "82558a389a443c0ea4cc819899f2083a85f0faa3e578f8077a2e3ff46729665b"},
		{strings.Repeat("\x0c", 20), "Test With Truncation", "a3b6167473100ee06e0c796c2955552b"},
		{long, "Test Using Larger Than Block-Size Key - Hash Key First", "60e431591ee0b67f0d8a26aacbf5b77f8e0bc6213728c5140546040f0ee37f54"},
		{long, "This is a test using a larger than block-size key and a larger than block-size data. The key needs to be hashed before being used by the HMAC algorithm.", "9b09ffa71b942fcb27635fbcd5b0e944bfdc63644f0713938a7f51535c3a35e2"},
	} {
		want := unhex(t, c.want)
		if got := impl.Mac(c.key, c.text); len(got) != 32 || got[:len(want)] != want {
			t.Errorf("case %d: got %x, want %s", i+1, got, c.want)
		}
	}
}

func TestP3MacIsMadeOfDigests(t *testing.T) {
	r := rand.New(rand.NewSource(12))
	for _, keySize := range keySizes {
		for _, size := range digestSizes {
			key, text := anyText(r, keySize), anyText(r, size)
			got := impl.Mac(key, text)
			if want := hmac256(key, text); got != want {
				t.Errorf("Mac of %d and %d bytes: got %x, want %x", keySize, size, got, want)
			}
			if size > impl.MaxBytes-64 {
				continue
			}
			if want := macOfDigests(key, text); got != want {
				t.Errorf("Mac of %d and %d bytes: got %x, digests make %x", keySize, size, got, want)
			}
		}
	}
}

// A key is filled up with bytes 0: of at most 64 bytes it is the same key as
// with such bytes behind it, of more it is the same as its digest.
func TestP3KeysThatAreAlike(t *testing.T) {
	r := rand.New(rand.NewSource(13))
	short, long := anyText(r, 30), anyText(r, 65)
	want := impl.Mac(short, "text")
	for _, size := range []int{31, 63, 64} {
		if got := impl.Mac(short+strings.Repeat("\x00", size-30), "text"); got != want {
			t.Errorf("a key filled up to %d bytes has another mac", size)
		}
	}
	if got := impl.Mac(short+strings.Repeat("\x00", 35), "text"); got == want {
		t.Error("a key of 65 bytes is not its digest")
	}
	if impl.Mac(long, "text") != impl.Mac(impl.Digest(long), "text") {
		t.Error("a key of 65 bytes and its digest have two macs")
	}
	if impl.Mac(long[:64], "text") == impl.Mac(impl.Digest(long[:64]), "text") {
		t.Error("a key of 64 bytes is taken by its digest")
	}
}

func TestMacOfTooMuch(t *testing.T) {
	over := strings.Repeat("a", impl.MaxBytes+1)
	for _, c := range []struct{ key, text string }{
		{over, ""}, {over, "text"}, {"", over}, {"key", over}, {over, over},
		{over[1:], over}, {over, over[1:]},
	} {
		if got := impl.Mac(c.key, c.text); got != "" {
			t.Errorf("Mac of %d and %d bytes: got %x, want nothing", len(c.key), len(c.text), got)
		}
	}
}

func TestP3StretchIsMacOnMac(t *testing.T) {
	r := rand.New(rand.NewSource(14))
	for _, size := range keySizes {
		pass := anyText(r, size)
		want := "salt"
		for rounds := int64(1); rounds <= 100; rounds++ {
			want = hmac256(pass, want)
			if size > 200 && rounds > 3 && rounds < 100 {
				continue
			}
			if got := impl.Stretch(pass, rounds); got != want {
				t.Errorf("Stretch of %d bytes in %d rounds: got %x, want %x", size, rounds, got, want)
			}
		}
	}
	if impl.Stretch("p", 1) != impl.Mac("p", "salt") || impl.Stretch("p", 2) != impl.Mac("p", impl.Mac("p", "salt")) {
		t.Error("Stretch is not Mac on Mac")
	}
}

func TestStretchFaults(t *testing.T) {
	over := strings.Repeat("a", impl.MaxBytes+1)
	for _, rounds := range []int64{0, -1, -100, 101, 102, 1 << 32, 1<<32 + 1, math.MaxInt64, math.MinInt64} {
		for _, pass := range []string{"", "p", over[1:], over} {
			if got := impl.Stretch(pass, rounds); got != "" {
				t.Errorf("Stretch of %d bytes in %d rounds: got %x, want nothing", len(pass), rounds, got)
			}
		}
	}
	for _, rounds := range []int64{1, 2, 100} {
		if got := impl.Stretch(over, rounds); got != "" {
			t.Errorf("Stretch of %d bytes in %d rounds: got %x, want nothing", len(over), rounds, got)
		}
	}
}

func TestDigestAnswersAreNewMemory(t *testing.T) {
	r := rand.New(rand.NewSource(15))
	key, text := anyText(r, 64), anyText(r, 32)
	for what, got := range map[string]string{"Digest": impl.Digest(text), "Mac": impl.Mac(key, text), "Stretch": impl.Stretch(text, 1)} {
		if len(got) != 32 || shares(got, text) || shares(got, key) {
			t.Errorf("%s: the answer is no new memory of 32 bytes", what)
		}
	}
}
