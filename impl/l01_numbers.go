package impl

import (
	"cmp"
	"strconv"
)

const MaxHex = 4000

const maxDigits = 12

const hexDigits = "0123456789abcdef"

func Be16(data []byte, at int) (int, bool) { return bigEndian(data, at, 2) }

func Be32(data []byte, at int) (int, bool) { return bigEndian(data, at, 4) }

// Put16 and Put32 take bytes by conversion instead of %, whose remainder is
// negative for a negative n: the low bits of two's complement never are.
func Put16(n int) []byte {
	return []byte{byte(n >> 8), byte(n)}
}

func Put32(n int) []byte {
	return []byte{byte(n >> 24), byte(n >> 16), byte(n >> 8), byte(n)}
}

func Clip(n int, lo int, hi int) int { return clipped(n, lo, hi) }

func NumText(n int) string { return strconv.Itoa(n) }

func NumRead(s string) (int, bool) {
	if !within(len(s), 1, maxDigits) || len(s) > 1 && s[0] == '0' {
		return 0, false
	}
	n := 0
	for _, r := range s {
		if !within(r, '0', '9') {
			return 0, false
		}
		n = 10*n + int(r-'0')
	}
	return n, true
}

func HexText(data []byte) string {
	if len(data) > MaxHex {
		return ""
	}
	text := make([]byte, 0, 2*len(data))
	for _, b := range data {
		text = append(text, hexDigits[b>>4], hexDigits[b&15])
	}
	return string(text)
}

func HexRead(s string) ([]byte, bool) {
	if len(s)%2 != 0 || len(s) > 2*MaxHex {
		return nil, false
	}
	data := make([]byte, len(s)/2)
	// A digit has one byte, so i also counts the digits: the first longer
	// character ends the loop.
	for i, r := range s {
		digit, ok := hexDigit(r)
		if !ok {
			return nil, false
		}
		data[i/2] = data[i/2]<<4 | digit
	}
	return data, true
}

// clipped checks lo first, because that decides when lo is greater than hi.
func clipped[T cmp.Ordered](n T, lo T, hi T) T {
	if n < lo {
		return lo
	}
	if n > hi {
		return hi
	}
	return n
}

// within is false for every n when lo is greater than hi: clipping then always
// changes n.
func within[T cmp.Ordered](n T, lo T, hi T) bool {
	return clipped(n, lo, hi) == n
}

// bigEndian compares at with the last possible offset, because at + size could
// overflow.
func bigEndian(data []byte, at int, size int) (int, bool) {
	if !within(at, 0, len(data)-size) {
		return 0, false
	}
	n := 0
	for _, b := range data[at : at+size] {
		n = n<<8 | int(b)
	}
	return n, true
}

func hexDigit(r rune) (byte, bool) {
	switch {
	case within(r, '0', '9'):
		return byte(r - '0'), true
	case within(r, 'a', 'f'):
		return byte(r - 'a' + 10), true
	}
	return 0, false
}
