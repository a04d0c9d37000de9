package tests

import (
	"bytes"
	"math"
	"math/big"
	"math/rand"
	"strings"
	"testing"

	"loop.example/g00655/impl"
)

// sampleNumbers holds the numbers around each power of two, both signs, where
// a remainder or a shift goes wrong first, and some from all over the range.
func sampleNumbers() []int {
	list := []int{math.MinInt, math.MinInt + 1, math.MaxInt - 1, math.MaxInt}
	for shift := 0; shift < 63; shift++ {
		for near := -2; near <= 2; near++ {
			list = append(list, 1<<shift+near, -(1<<shift)+near)
		}
	}
	source := rand.New(rand.NewSource(1))
	for range 2000 {
		list = append(list, int(source.Uint64()))
	}
	return list
}

// remainder is the mathematical one, worked out without the program's shifts.
func remainder(n int, modulus int64) int {
	return int(new(big.Int).Mod(big.NewInt(int64(n)), big.NewInt(modulus)).Int64())
}

func sampleBytes(size int) []byte {
	data := make([]byte, size)
	for i := range data {
		data[i] = byte(7*i + i/256)
	}
	return data
}

// P2: at most MaxHex bytes are recovered from their HexText.
func TestHexTextIsRecovered(t *testing.T) {
	for _, size := range []int{0, 1, 2, 3, 255, 256, 1500, impl.MaxHex - 1, impl.MaxHex} {
		data := sampleBytes(size)
		text := impl.HexText(data)
		if len(text) != 2*size {
			t.Fatalf("%d bytes: %d digits", size, len(text))
		}
		back, ok := impl.HexRead(text)
		if !ok || !bytes.Equal(back, data) {
			t.Fatalf("%d bytes are not recovered: %v", size, ok)
		}
	}
	for b := range 256 {
		back, ok := impl.HexRead(impl.HexText([]byte{byte(b)}))
		if !ok || len(back) != 1 || int(back[0]) != b {
			t.Fatal(b, back, ok)
		}
	}
}

// P2: Be32 of Put32 returns the number modulo 4294967296, and Be16 its halves.
func TestPut32IsRecovered(t *testing.T) {
	for _, n := range sampleNumbers() {
		want := remainder(n, 4294967296)
		data := impl.Put32(n)
		if len(data) != 4 {
			t.Fatal(n, data)
		}
		if got, ok := impl.Be32(data, 0); !ok || got != want {
			t.Fatalf("Be32 of Put32(%d): %d %v, not %d", n, got, ok, want)
		}
		if got, ok := impl.Be16(data, 0); !ok || got != want/65536 {
			t.Fatalf("upper half of Put32(%d): %d %v", n, got, ok)
		}
		if got, ok := impl.Be16(data, 2); !ok || got != want%65536 {
			t.Fatalf("lower half of Put32(%d): %d %v", n, got, ok)
		}
	}
}

func TestPut16IsRecovered(t *testing.T) {
	for _, n := range sampleNumbers() {
		data := impl.Put16(n)
		got, ok := impl.Be16(data, 0)
		if len(data) != 2 || !ok || got != remainder(n, 65536) {
			t.Fatalf("Be16 of Put16(%d): %d %v", n, got, ok)
		}
	}
}

func TestPutBytes(t *testing.T) {
	for _, c := range []struct {
		n      int
		two    string
		longer string
	}{
		{0, "\x00\x00", "\x00\x00\x00\x00"},
		{1, "\x00\x01", "\x00\x00\x00\x01"},
		{258, "\x01\x02", "\x00\x00\x01\x02"},
		{16909060, "\x03\x04", "\x01\x02\x03\x04"},
		{65535, "\xff\xff", "\x00\x00\xff\xff"},
		{65536, "\x00\x00", "\x00\x01\x00\x00"},
		{4294967295, "\xff\xff", "\xff\xff\xff\xff"},
		{4294967296, "\x00\x00", "\x00\x00\x00\x00"},
		{-1, "\xff\xff", "\xff\xff\xff\xff"},
		{-2, "\xff\xfe", "\xff\xff\xff\xfe"},
		{-65535, "\x00\x01", "\xff\xff\x00\x01"},
		{-65536, "\x00\x00", "\xff\xff\x00\x00"},
		{-65537, "\xff\xff", "\xff\xfe\xff\xff"},
		{-4294967296, "\x00\x00", "\x00\x00\x00\x00"},
		{-4294967297, "\xff\xff", "\xff\xff\xff\xff"},
		{math.MaxInt, "\xff\xff", "\xff\xff\xff\xff"},
		{math.MinInt, "\x00\x00", "\x00\x00\x00\x00"},
	} {
		if got := string(impl.Put16(c.n)); got != c.two {
			t.Errorf("Put16(%d): %x", c.n, got)
		}
		if got := string(impl.Put32(c.n)); got != c.longer {
			t.Errorf("Put32(%d): %x", c.n, got)
		}
	}
}

func TestBeOffsets(t *testing.T) {
	data := []byte{1, 2, 3, 128, 255, 254}
	for _, c := range []struct {
		at   int
		want int
		ok   bool
	}{
		{0, 0x0102, true}, {1, 0x0203, true}, {2, 0x0380, true}, {3, 0x80ff, true}, {4, 0xfffe, true},
		{5, 0, false}, {6, 0, false}, {7, 0, false}, {-1, 0, false}, {-2, 0, false}, {-3, 0, false},
		{math.MaxInt, 0, false}, {math.MaxInt - 1, 0, false}, {math.MinInt, 0, false},
	} {
		if got, ok := impl.Be16(data, c.at); got != c.want || ok != c.ok {
			t.Errorf("Be16 at %d: %d %v", c.at, got, ok)
		}
	}
	for _, c := range []struct {
		at   int
		want int
		ok   bool
	}{
		{0, 0x01020380, true}, {1, 0x020380ff, true}, {2, 0x0380fffe, true},
		{3, 0, false}, {4, 0, false}, {5, 0, false}, {6, 0, false}, {7, 0, false},
		{-1, 0, false}, {-4, 0, false}, {-5, 0, false},
		{math.MaxInt, 0, false}, {math.MaxInt - 3, 0, false}, {math.MinInt, 0, false},
	} {
		if got, ok := impl.Be32(data, c.at); got != c.want || ok != c.ok {
			t.Errorf("Be32 at %d: %d %v", c.at, got, ok)
		}
	}
}

func TestBeShortData(t *testing.T) {
	for size := range 5 {
		data := sampleBytes(size)
		for at := -5; at <= 5; at++ {
			if _, ok := impl.Be16(data, at); ok != (at >= 0 && at+2 <= size) {
				t.Errorf("Be16 of %d bytes at %d: %v", size, at, ok)
			}
			if _, ok := impl.Be32(data, at); ok != (at >= 0 && at+4 <= size) {
				t.Errorf("Be32 of %d bytes at %d: %v", size, at, ok)
			}
		}
	}
	if _, ok := impl.Be16(nil, 0); ok {
		t.Error("Be16 of nil")
	}
	if _, ok := impl.Be32(nil, 0); ok {
		t.Error("Be32 of nil")
	}
}

// What lies behind the length of a slice does not belong to it.
func TestBeIgnoresSpareCapacity(t *testing.T) {
	data := []byte{1, 2, 3, 4, 5, 6, 7, 8}[:3]
	if n, ok := impl.Be16(data, 2); ok || n != 0 {
		t.Error(n, ok)
	}
	if n, ok := impl.Be32(data, 0); ok || n != 0 {
		t.Error(n, ok)
	}
}

func TestClip(t *testing.T) {
	for _, c := range []struct{ n, lo, hi, want int }{
		{5, 1, 3, 3}, {-5, 1, 3, 1}, {2, 1, 3, 2}, {1, 1, 3, 1}, {3, 1, 3, 3}, {0, 1, 3, 1}, {4, 1, 3, 3},
		{7, 7, 7, 7}, {6, 7, 7, 7}, {8, 7, 7, 7},
		{-7, -9, -5, -7}, {-4, -9, -5, -5}, {-10, -9, -5, -9},
		// lo greater than hi: lo counts first
		{10, 9, 1, 1}, {9, 9, 1, 1}, {8, 9, 1, 9}, {5, 9, 1, 9}, {1, 9, 1, 9}, {0, 9, 1, 9},
		{math.MinInt, math.MinInt, math.MaxInt, math.MinInt},
		{math.MaxInt, math.MinInt, math.MaxInt, math.MaxInt},
		{0, math.MaxInt, math.MinInt, math.MaxInt},
		{math.MaxInt, math.MaxInt, math.MinInt, math.MinInt},
		{math.MinInt, 0, 1, 0}, {math.MaxInt, 0, 1, 1},
	} {
		if got := impl.Clip(c.n, c.lo, c.hi); got != c.want {
			t.Errorf("Clip(%d, %d, %d): %d", c.n, c.lo, c.hi, got)
		}
	}
}

func TestNumText(t *testing.T) {
	for _, c := range []struct {
		n    int
		want string
	}{
		{0, "0"}, {1, "1"}, {9, "9"}, {10, "10"}, {100, "100"}, {1020, "1020"},
		{-1, "-1"}, {-9, "-9"}, {-10, "-10"}, {-1020, "-1020"},
		{999999999999, "999999999999"}, {1000000000000, "1000000000000"},
		{math.MaxInt, "9223372036854775807"}, {math.MinInt, "-9223372036854775808"},
	} {
		if got := impl.NumText(c.n); got != c.want {
			t.Errorf("NumText(%d): %q", c.n, got)
		}
	}
	for _, n := range sampleNumbers() {
		if got := impl.NumText(n); got != big.NewInt(int64(n)).String() {
			t.Fatalf("NumText(%d): %q", n, got)
		}
	}
}

func TestNumReadAccepts(t *testing.T) {
	for _, c := range []struct {
		s    string
		want int
	}{
		{"0", 0}, {"1", 1}, {"9", 9}, {"10", 10}, {"100", 100}, {"1020", 1020},
		{"99999999999", 99999999999}, {"100000000000", 100000000000},
		{"123456789012", 123456789012}, {"999999999999", 999999999999},
	} {
		if got, ok := impl.NumRead(c.s); !ok || got != c.want {
			t.Errorf("NumRead(%q): %d %v", c.s, got, ok)
		}
	}
}

func TestNumReadRejects(t *testing.T) {
	list := []string{
		"", "00", "01", "000000000001", "0000000000000", "0123456789012",
		"1000000000000", "9999999999999", "9223372036854775808", strings.Repeat("9", 100),
		"-", "-0", "-1", "+", "+1", " ", " 1", "1 ", "1\n", "\n1", "1 2", "1.0", "1,000", "1e3", "1_0", "0x1", "a", "1x",
		"1\x00", "\x00", "\xff", "1\xff", "\u0663", "1\u0663", "\uff11", "1\uff11",
		"\u0131", "1\u0131", // their low byte is a digit
	}
	for _, s := range list {
		if n, ok := impl.NumRead(s); ok || n != 0 {
			t.Errorf("NumRead(%q): %d %v", s, n, ok)
		}
	}
}

func TestNumReadEveryByte(t *testing.T) {
	for b := range 256 {
		digit := b >= '0' && b <= '9'
		for at := range 3 {
			text := []byte("123")
			text[at] = byte(b)
			want := digit && !(at == 0 && b == '0')
			if _, ok := impl.NumRead(string(text)); ok != want {
				t.Errorf("NumRead(%q): %v", text, ok)
			}
		}
	}
}

// NumRead accepts just what NumText writes for 0..999999999999.
func TestNumReadOfNumText(t *testing.T) {
	for _, n := range sampleNumbers() {
		want := n >= 0 && n <= 999999999999
		got, ok := impl.NumRead(impl.NumText(n))
		if ok != want || ok && got != n || !ok && got != 0 {
			t.Fatalf("%d: %d %v", n, got, ok)
		}
	}
}

func TestHexText(t *testing.T) {
	for _, c := range []struct {
		data []byte
		want string
	}{
		{nil, ""}, {[]byte{}, ""}, {[]byte{0}, "00"}, {[]byte{0, 171, 255}, "00abff"},
		{[]byte{0x01, 0x23, 0x45, 0x67, 0x89, 0xab, 0xcd, 0xef}, "0123456789abcdef"},
		{[]byte{0x10, 0x0f, 0xf0}, "100ff0"},
	} {
		if got := impl.HexText(c.data); got != c.want {
			t.Errorf("HexText(%v): %q", c.data, got)
		}
	}
}

func TestHexTextLimit(t *testing.T) {
	if got := impl.HexText(sampleBytes(impl.MaxHex)); len(got) != 2*impl.MaxHex {
		t.Error(len(got))
	}
	if got := impl.HexText(sampleBytes(impl.MaxHex + 1)); got != "" {
		t.Error(len(got))
	}
	if got := impl.HexText(sampleBytes(3 * impl.MaxHex)); got != "" {
		t.Error(len(got))
	}
}

func TestHexReadAccepts(t *testing.T) {
	for _, c := range []struct {
		s    string
		want string
	}{
		{"", ""}, {"00", "\x00"}, {"0aff", "\n\xff"}, {"a0", "\xa0"}, {"0f", "\x0f"},
		{"0123456789abcdef", "\x01\x23\x45\x67\x89\xab\xcd\xef"},
	} {
		if got, ok := impl.HexRead(c.s); !ok || string(got) != c.want {
			t.Errorf("HexRead(%q): %x %v", c.s, got, ok)
		}
	}
}

func TestHexReadLimit(t *testing.T) {
	for _, c := range []struct {
		size int
		ok   bool
	}{
		{2*impl.MaxHex - 2, true}, {2*impl.MaxHex - 1, false}, {2 * impl.MaxHex, true},
		{2*impl.MaxHex + 1, false}, {2*impl.MaxHex + 2, false}, {4 * impl.MaxHex, false},
	} {
		got, ok := impl.HexRead(strings.Repeat("a", c.size))
		if ok != c.ok || ok && len(got) != c.size/2 || !ok && got != nil {
			t.Errorf("%d digits: %d bytes, %v", c.size, len(got), ok)
		}
	}
}

func TestHexReadRejects(t *testing.T) {
	for _, s := range []string{
		"0", "a", "0af", "012", "0aFF", "FF", "A0", "0A", "0x", "0x0a", "gg", "0g", "g0", " 0", "0 ", "0a ff", "0a\n", "-1", "+1",
		"\x00\x00", "\xff\xff", "0\xff", "00\xff\xff", "\u00e9", "00\u00e9", "0\u0661a", "0\uff41", "\uff10a", "0\u0130a",
	} {
		if got, ok := impl.HexRead(s); ok || got != nil {
			t.Errorf("HexRead(%q): %x %v", s, got, ok)
		}
	}
}

func TestHexReadEveryByte(t *testing.T) {
	for b := range 256 {
		want := b >= '0' && b <= '9' || b >= 'a' && b <= 'f'
		for at := range 4 {
			text := []byte("1b2c")
			text[at] = byte(b)
			got, ok := impl.HexRead(string(text))
			if ok != want || ok && impl.HexText(got) != string(text) || !ok && got != nil {
				t.Errorf("HexRead(%q): %x %v", text, got, ok)
			}
		}
	}
}

func TestNumbersResultsAreNew(t *testing.T) {
	makers := []func() []byte{
		func() []byte { return impl.Put16(258) },
		func() []byte { return impl.Put32(16909060) },
		func() []byte { data, _ := impl.HexRead("0102"); return data },
	}
	for i, maker := range makers {
		first := maker()
		want := string(first)
		for j := range first {
			first[j] = 99
		}
		if got := string(maker()); got != want {
			t.Errorf("maker %d: %x after a change of an earlier result", i, got)
		}
	}
}

func TestNumbersLeaveArgumentsAlone(t *testing.T) {
	whole := []byte{1, 2, 3, 4, 5, 6, 7, 8}
	before := bytes.Clone(whole)
	data := whole[:5]
	impl.Be16(data, 1)
	impl.Be32(data, 1)
	impl.HexText(data)
	if !bytes.Equal(whole, before) {
		t.Error(whole)
	}
}
