package impl

import (
	"errors"
	"strconv"
)

// Constants, see chapter 1.
const (
	OK        = 0
	ErrForm   = 1
	ErrSize   = 2
	ErrSyntax = 3
	ErrShort  = 4
	ErrSum    = 5
	ErrNone   = 6
	ErrThere  = 7
	ErrRange  = 8
	ErrFull   = 9
	ErrState  = 10
	ErrClosed = 11
	MaxBytes  = 20000
	MaxList   = 400
	MaxTime   = 1000000000
)

const (
	maxName       = 20
	maxNumBytes   = 10
	lastShift     = 63 // a tenth group holds only bit 63 of the number
	sealBytes     = 4
	maxCrc        = 1<<32 - 1
	crcPolynomial = 0xEDB88320
)

// NumOut is a thing of chapter 2.
type NumOut struct {
	N    int64
	At   int64
	Code int64
}

// TextOut is a thing of chapter 2.
type TextOut struct {
	Text string
	At   int64
	Code int64
}

// malformed is the error of an encoding that cannot be decoded.
type malformed struct {
	code int64
}

func (m malformed) Error() string {
	return "malformed encoding: code " + strconv.FormatInt(m.code, 10)
}

// reader takes one value after another from an encoding, and only zero values from the first malformed one on.
type reader struct {
	text   string
	at     int64
	failed bool
}

func (in *reader) num() int64 {
	if in.failed {
		return 0
	}
	got := GetNum(in.text, in.at)
	in.at, in.failed = got.At, got.Code != OK
	return got.N
}

func (in *reader) word() string {
	if in.failed {
		return ""
	}
	got := GetText(in.text, in.at)
	in.at, in.failed = got.At, got.Code != OK
	return got.Text
}

// PutNum returns the zigzag varint encoding of n.
func PutNum(n int64) string {
	var buf [maxNumBytes]byte
	u := zigzag(n)
	size := 0
	for u >= 128 {
		buf[size] = byte(u&127) | 128
		u >>= 7
		size++
	}
	buf[size] = byte(u)
	return string(buf[:size+1])
}

// GetNum decodes the integer at offset at.
func GetNum(text string, at int64) NumOut {
	if len(text) > MaxBytes {
		return NumOut{Code: ErrSize}
	}
	if at < 0 {
		return NumOut{Code: ErrForm}
	}
	u, end, err := readGroups(text, at)
	var bad malformed
	if errors.As(err, &bad) {
		return NumOut{Code: bad.code}
	}
	return NumOut{N: unzigzag(u), At: end}
}

// PutText returns t behind its length.
func PutText(t string) string {
	if len(t) > MaxBytes {
		return ""
	}
	return joined(PutNum(int64(len(t))), t)
}

// GetText decodes the length-prefixed string at offset at.
func GetText(text string, at int64) TextOut {
	size := GetNum(text, at)
	if size.Code != OK {
		return TextOut{Code: size.Code}
	}
	if size.N < 0 || size.N > MaxBytes {
		return TextOut{Code: ErrSyntax}
	}
	end := size.At + size.N
	if end > int64(len(text)) {
		return TextOut{Code: ErrShort}
	}
	return TextOut{Text: joined(text[size.At:end]), At: end}
}

// NameRight reports whether t is a name, see chapter 1.
func NameRight(t string) bool {
	if len(t) < 1 || len(t) > maxName || !isLetter(t[0]) {
		return false
	}
	for i := 1; i < len(t); i++ {
		if !isLetter(t[i]) && !isDigit(t[i]) && t[i] != '_' {
			return false
		}
	}
	return true
}

// Crc returns the CRC-32 of a string.
func Crc(text string) int64 {
	return CrcMore(0, text)
}

// CrcMore returns the CRC-32 of a string with the CRC crc followed by text.
func CrcMore(crc int64, text string) int64 {
	if len(text) > MaxBytes || crc < 0 || crc > maxCrc {
		return 0
	}
	// The complement of a CRC is the register that it was taken from.
	register := ^uint32(crc)
	for i := 0; i < len(text); i++ {
		register = crcByte(register, text[i])
	}
	return int64(^register)
}

// Seal returns text followed by its CRC.
func Seal(text string) string {
	if len(text) > MaxBytes-sealBytes {
		return ""
	}
	return joined(text, crcText(text))
}

// Unseal checks and removes the CRC behind a sealed string.
func Unseal(text string) TextOut {
	if len(text) > MaxBytes {
		return TextOut{Code: ErrSize}
	}
	if len(text) < sealBytes {
		return TextOut{Code: ErrShort}
	}
	end := len(text) - sealBytes
	if text[end:] != crcText(text[:end]) {
		return TextOut{Code: ErrSum}
	}
	return TextOut{Text: joined(text[:end])}
}

// zigzag puts the sign into the lowest bit, so that integers near 0 have short encodings.
func zigzag(n int64) uint64 {
	return uint64(n)<<1 ^ uint64(n>>63)
}

func unzigzag(u uint64) int64 {
	return int64(u>>1) ^ -int64(u&1)
}

// readGroups returns the number in the groups of seven bits from at on, which is not negative, and the offset behind them.
func readGroups(text string, at int64) (uint64, int64, error) {
	var u uint64
	var b byte
	var shift uint
	var code int64
more:
	if at >= int64(len(text)) {
		code = ErrShort
		goto wrong
	}
	b = text[at]
	at++
	if shift == lastShift && b > 1 {
		code = ErrSyntax
		goto wrong
	}
	u |= uint64(b&127) << shift
	if b < 128 {
		goto last
	}
	shift += 7
	goto more
last:
	if b == 0 && shift > 0 {
		code = ErrSyntax
		goto wrong
	}
	return u, at, nil
wrong:
	return 0, 0, malformed{code}
}

// joined returns the concatenation of parts in new memory, also for a single part.
func joined(parts ...string) string {
	size := 0
	for _, part := range parts {
		size += len(part)
	}
	buf := make([]byte, size)
	at := 0
	for _, part := range parts {
		at += copy(buf[at:], part)
	}
	return string(buf)
}

func isLetter(b byte) bool {
	return b >= 'a' && b <= 'z'
}

func isDigit(b byte) bool {
	return b >= '0' && b <= '9'
}

// crcByte works bit by bit, because a table of 256 words is longer than the language rules permit.
func crcByte(register uint32, b byte) uint32 {
	register ^= uint32(b)
	for range 8 {
		low := register & 1
		register >>= 1
		if low == 1 {
			register ^= crcPolynomial
		}
	}
	return register
}

// crcText returns the CRC of text in four little-endian bytes.
func crcText(text string) string {
	crc := Crc(text)
	return string([]byte{byte(crc), byte(crc >> 8), byte(crc >> 16), byte(crc >> 24)})
}
