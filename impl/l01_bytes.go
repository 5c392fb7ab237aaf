package impl

import (
	"errors"
	"strconv"
)

// Constants, see chapter 1.
const (
	OK        = 0
	ErrForm   = 1
	ErrSize   = 2
	ErrSyntax = 3
	ErrShort  = 4
	ErrSum    = 5
	ErrNone   = 6
	ErrThere  = 7
	ErrRange  = 8
	ErrFull   = 9
	ErrState  = 10
	ErrAddr   = 11
	MaxBytes  = 8000
	MaxList   = 400
	MaxTime   = 1000000
)

// NumOut is a thing of chapter 2.
type NumOut struct {
	N    int64
	At   int64
	Code int64
}

// TextOut is a thing of chapter 2.
type TextOut struct {
	Text string
	At   int64
	Code int64
}

// Limits and marks of this layer alone.
const (
	maxName   = 20
	sealBytes = 4
	moreBit   = 128
	tenthAt   = 63
	crcPoly   = 0xEDB88320
	crcMost   = 0xFFFFFFFF
)

// byteFault is what is wrong with bytes: the code that a call tells of them.
type byteFault struct {
	code int64
}

// Error makes it an error; no answer shows this text.
func (f byteFault) Error() string {
	return "bytes: code " + strconv.FormatInt(f.code, 10)
}

// codeOf is OK of no error.
func codeOf(err error) int64 {
	var fault byteFault
	if errors.As(err, &fault) {
		return fault.code
	}
	return OK
}

// joined copies even if one part is empty: an answer may not share memory with
// an argument, as a slice of it, or a sum with an empty text, would.
func joined(a string, b string) string {
	out := make([]byte, len(a)+len(b))
	copy(out, a)
	copy(out[len(a):], b)
	return string(out)
}

// folded puts the sign into the lowest bit, so that small numbers of either
// sign need few bytes; turning all bits is -2n-1 without leaving 64 bits.
func folded(n int64) uint64 {
	u := uint64(n) << 1
	if n < 0 {
		return ^u
	}
	return u
}

// unfolded takes back what folded did.
func unfolded(u uint64) int64 {
	n := int64(u >> 1)
	if u&1 == 1 {
		return ^n
	}
	return n
}

// readNum takes a place that is not below 0. The tenth byte is the last one
// whatever it is: no number has an eleventh.
func readNum(text string, at int64) (int64, int64, error) {
	var u, b uint64
	shift := uint(0)
	code := int64(ErrShort)

more:
	if at >= int64(len(text)) {
		goto wrong
	}
	b = uint64(text[at])
	at++
	if b < moreBit || shift == tenthAt {
		goto last
	}
	u |= (b - moreBit) << shift
	shift += 7
	goto more

last:
	if shift > 0 && b == 0 || shift == tenthAt && b > 1 {
		code = ErrSyntax
		goto wrong
	}
	return unfolded(u | b<<shift), at, nil

wrong:
	return 0, 0, byteFault{code}
}

// numAt looks for the faults of text and place ahead of reading.
func numAt(text string, at int64) (int64, int64, error) {
	if len(text) > MaxBytes {
		return 0, 0, byteFault{ErrSize}
	}
	if at < 0 {
		return 0, 0, byteFault{ErrForm}
	}
	return readNum(text, at)
}

// textAt holds the length against what is left of the text, not a sum of both
// against its end.
func textAt(text string, at int64) (string, int64, error) {
	size, from, err := numAt(text, at)
	if err != nil {
		return "", 0, err
	}
	if size < 0 || size > MaxBytes {
		return "", 0, byteFault{ErrSyntax}
	}
	if size > int64(len(text))-from {
		return "", 0, byteFault{ErrShort}
	}
	return joined(text[from:from+size], ""), from + size, nil
}

// PutNum: see chapter 2.
func PutNum(n int64) string {
	var out []byte
	u := folded(n)
	for u >= moreBit {
		out = append(out, byte(u%moreBit+moreBit))
		u /= moreBit
	}
	return string(append(out, byte(u)))
}

// GetNum: see chapter 2.
func GetNum(text string, at int64) NumOut {
	n, behind, err := numAt(text, at)
	return NumOut{N: n, At: behind, Code: codeOf(err)}
}

// PutText: see chapter 2.
func PutText(t string) string {
	if len(t) > MaxBytes {
		return ""
	}
	return joined(PutNum(int64(len(t))), t)
}

// GetText: see chapter 2.
func GetText(text string, at int64) TextOut {
	t, behind, err := textAt(text, at)
	return TextOut{Text: t, At: behind, Code: codeOf(err)}
}

// NameRight: see chapter 2.
func NameRight(t string) bool {
	if len(t) < 1 || len(t) > maxName {
		return false
	}
	for i := range len(t) {
		c := t[i]
		letter := c >= 'a' && c <= 'z'
		other := c >= '0' && c <= '9' || c == '_'
		if !letter && (i == 0 || !other) {
			return false
		}
	}
	return true
}

// crcShift takes a byte's eight bits in at once: the ones still to come lie
// above the lowest bit and wait there for their turn.
func crcShift(register uint32, b byte) uint32 {
	register ^= uint32(b)
	for range 8 {
		low := register & 1
		register >>= 1
		if low == 1 {
			register ^= crcPoly
		}
	}
	return register
}

// Crc: see chapter 2.
func Crc(text string) int64 {
	return CrcMore(0, text)
}

// CrcMore: see chapter 2. The CRC of the empty text is 0, so Crc begins there.
func CrcMore(crc int64, text string) int64 {
	if len(text) > MaxBytes || crc < 0 || crc > crcMost {
		return 0
	}
	register := ^uint32(crc)
	for i := range len(text) {
		register = crcShift(register, text[i])
	}
	return int64(^register)
}

// crcBytes are the bytes that a seal has behind the text.
func crcBytes(text string) string {
	crc := Crc(text)
	return string([]byte{byte(crc), byte(crc >> 8), byte(crc >> 16), byte(crc >> 24)})
}

// Seal: see chapter 2.
func Seal(text string) string {
	if len(text) > MaxBytes-sealBytes {
		return ""
	}
	return joined(text, crcBytes(text))
}

// Unseal: see chapter 2.
func Unseal(text string) TextOut {
	if len(text) > MaxBytes {
		return TextOut{Code: ErrSize}
	}
	if len(text) < sealBytes {
		return TextOut{Code: ErrShort}
	}
	body := text[:len(text)-sealBytes]
	if Seal(body) != text {
		return TextOut{Code: ErrSum}
	}
	return TextOut{Text: joined(body, "")}
}
