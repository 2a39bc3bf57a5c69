package impl

import (
	"errors"
	"strconv"
)

// Constants, see chapter 1.
const (
	OK        = 0
	ErrForm   = 1
	ErrSize   = 2
	ErrSyntax = 3
	ErrShort  = 4
	ErrSum    = 5
	ErrNone   = 6
	ErrThere  = 7
	ErrRange  = 8
	ErrFull   = 9
	ErrState  = 10
	ErrDenied = 11
	ErrSchema = 12
	MaxBytes  = 8000
	MaxList   = 400
	MaxTime   = 1000000
)

const (
	maxNumBytes  = 10
	maxNameBytes = 20
	sumBytes     = 4
	crcPoly      = 0xEDB88320
)

// NumOut is a decoded integer and the offset behind it.
type NumOut struct {
	N    int64
	At   int64
	Code int64
}

// TextOut is a decoded string and the offset behind it.
type TextOut struct {
	Text string
	At   int64
	Code int64
}

// malformed carries the code that a decoding function returns for an encoding.
type malformed struct {
	code int64
}

func (m malformed) Error() string {
	return "malformed encoding, code " + strconv.FormatInt(m.code, 10)
}

func malformedCode(err error) int64 {
	var bad malformed
	if errors.As(err, &bad) {
		return bad.code
	}
	return OK
}

// concat copies even a single part: a result must not share memory with an argument.
func concat(parts ...string) string {
	size := 0
	for _, part := range parts {
		size += len(part)
	}
	out := make([]byte, size)
	at := 0
	for _, part := range parts {
		at += copy(out[at:], part)
	}
	return string(out)
}

// PutNum: see chapter 2.
func PutNum(n int64) string {
	u := uint64(n) << 1
	if n < 0 {
		u = ^u // -2n - 1, which as a signed product would overflow for the least n
	}
	var out [maxNumBytes]byte
	last := 0
	for u >= 128 {
		out[last] = byte(u&127) + 128
		u >>= 7
		last++
	}
	out[last] = byte(u)
	return string(out[:last+1])
}

// scanNum expects an offset that is not negative. It ends after ten bytes,
// because a tenth byte that announces another one is greater than 1.
func scanNum(text string, at int64) (uint64, int64, error) {
	var u uint64
	var b byte
	var code int64
	end := at
more:
	if end >= int64(len(text)) {
		code = ErrShort
		goto wrong
	}
	b = text[end]
	end++
	if end-at == maxNumBytes && b > 1 {
		code = ErrSyntax
		goto wrong
	}
	u |= uint64(b&127) << (7 * (end - at - 1))
	if b < 128 {
		goto last
	}
	goto more
last:
	if b == 0 && end-at > 1 {
		code = ErrSyntax
		goto wrong
	}
	return u, end, nil
wrong:
	return 0, 0, malformed{code: code}
}

// GetNum: see chapter 2.
func GetNum(text string, at int64) NumOut {
	if len(text) > MaxBytes {
		return NumOut{Code: ErrSize}
	}
	if at < 0 {
		return NumOut{Code: ErrForm}
	}
	u, end, err := scanNum(text, at)
	if err != nil {
		return NumOut{Code: malformedCode(err)}
	}
	n := int64(u >> 1)
	if u&1 == 1 {
		n = ^n
	}
	return NumOut{N: n, At: end}
}

// PutText: see chapter 2.
func PutText(t string) string {
	if len(t) > MaxBytes {
		return ""
	}
	return concat(PutNum(int64(len(t))), t)
}

// GetText: see chapter 2.
func GetText(text string, at int64) TextOut {
	size := GetNum(text, at)
	if size.Code != OK {
		return TextOut{Code: size.Code}
	}
	if size.N < 0 || size.N > MaxBytes {
		return TextOut{Code: ErrSyntax}
	}
	end := size.At + size.N
	if end > int64(len(text)) {
		return TextOut{Code: ErrShort}
	}
	return TextOut{Text: concat(text[size.At:end]), At: end}
}

func isLetter(b byte) bool {
	return b >= 'a' && b <= 'z'
}

func isNameByte(b byte) bool {
	return isLetter(b) || b >= '0' && b <= '9' || b == '_'
}

// NameRight: see chapter 2.
func NameRight(t string) bool {
	if len(t) < 1 || len(t) > maxNameBytes || !isLetter(t[0]) {
		return false
	}
	for i := range len(t) {
		if !isNameByte(t[i]) {
			return false
		}
	}
	return true
}

// Crc: see chapter 2.
func Crc(text string) int64 {
	return CrcMore(0, text) // 0 is the CRC of the empty string
}

// CrcMore: see chapter 2.
func CrcMore(crc int64, text string) int64 {
	if len(text) > MaxBytes || crc < 0 || crc > 1<<32-1 {
		return 0
	}
	register := ^uint32(crc)
	for i := range len(text) {
		register = crcStep(register, text[i])
	}
	return int64(^register)
}

func crcStep(register uint32, b byte) uint32 {
	for i := range 8 {
		bit := uint32(b>>i) & 1
		mixed := bit ^ register&1
		register >>= 1
		if mixed == 1 {
			register ^= crcPoly
		}
	}
	return register
}

func sumText(crc int64) string {
	return string([]byte{byte(crc), byte(crc >> 8), byte(crc >> 16), byte(crc >> 24)})
}

// Seal: see chapter 2.
func Seal(text string) string {
	if len(text) > MaxBytes-sumBytes {
		return ""
	}
	return concat(text, sumText(Crc(text)))
}

// Unseal: see chapter 2.
func Unseal(text string) TextOut {
	if len(text) > MaxBytes {
		return TextOut{Code: ErrSize}
	}
	if len(text) < sumBytes {
		return TextOut{Code: ErrShort}
	}
	body := text[:len(text)-sumBytes]
	if text[len(body):] != sumText(Crc(body)) {
		return TextOut{Code: ErrSum}
	}
	return TextOut{Text: concat(body)}
}
