package tests

import (
	"bytes"
	"fmt"
	"math"
	"math/rand"
	"net/netip"
	"slices"
	"strings"
	"testing"

	"loop.example/g00655/impl"
)

const lastPart = 4294967295

// edgeParts holds the values of A, B, C and D where a byte or a group is 0 or
// the greatest, or where one of them begins.
func edgeParts() []int {
	return []int{0, 1, 255, 256, 65535, 65536, 16777215, 16777216, 2147483647, 2147483648, 4278190080, 4294901760, 4294967040, 4294967294, lastPart}
}

func noParts() []int {
	return []int{-1, -2, -255, -lastPart, -lastPart - 1, lastPart + 1, lastPart + 2, 2 * lastPart, 1 << 40, math.MaxInt - 1, math.MaxInt, math.MinInt, math.MinInt + 1}
}

func noKinds() []int {
	return []int{0, 1, 2, 3, 5, 7, 8, 10, 16, 32, 46, 64, 128, -1, -4, -6, 4 + 1<<32, 6 + 1<<32, math.MaxInt, math.MinInt}
}

// sampleAddrs has for both kinds each part at each edge with the others 0 and
// with the others at their greatest, and random ones.
func sampleAddrs() []impl.Addr {
	var list []impl.Addr
	for _, n := range edgeParts() {
		list = append(list, impl.Addr{Kind: 4, D: n})
		for _, rest := range []int{0, lastPart} {
			list = append(list,
				impl.Addr{Kind: 6, A: n, B: rest, C: rest, D: rest},
				impl.Addr{Kind: 6, A: rest, B: n, C: rest, D: rest},
				impl.Addr{Kind: 6, A: rest, B: rest, C: n, D: rest},
				impl.Addr{Kind: 6, A: rest, B: rest, C: rest, D: n})
		}
	}
	source := rand.New(rand.NewSource(8))
	for range 60 {
		list = append(list, randomAddr(source, 4), randomAddr(source, 6))
	}
	return list
}

func randomAddr(source *rand.Rand, kind int) impl.Addr {
	part := func() int { return int(source.Uint32()) }
	if kind == 4 {
		return impl.Addr{Kind: 4, D: part()}
	}
	return impl.Addr{Kind: 6, A: part(), B: part(), C: part(), D: part()}
}

// badAddrs has addresses with one thing wrong each.
func badAddrs() []impl.Addr {
	var list []impl.Addr
	for _, kind := range noKinds() {
		list = append(list, impl.Addr{Kind: kind}, impl.Addr{Kind: kind, D: 1}, impl.Addr{Kind: kind, A: 1, B: 2, C: 3, D: 4})
	}
	for _, n := range append(noParts(), 1, 255, lastPart) {
		list = append(list, impl.Addr{Kind: 4, A: n}, impl.Addr{Kind: 4, B: n}, impl.Addr{Kind: 4, C: n},
			impl.Addr{Kind: 4, A: n, D: 7}, impl.Addr{Kind: 4, B: n, D: 7}, impl.Addr{Kind: 4, C: n, D: 7})
	}
	for _, n := range noParts() {
		list = append(list, impl.Addr{Kind: 4, D: n}, impl.Addr{Kind: 6, A: n}, impl.Addr{Kind: 6, B: n}, impl.Addr{Kind: 6, C: n}, impl.Addr{Kind: 6, D: n},
			impl.Addr{Kind: 6, A: n, B: n, C: n, D: n}, impl.Addr{Kind: 6, A: 5, B: 6, C: 7, D: n})
	}
	return list
}

func bitCount(kind int) int {
	if kind == 4 {
		return 32
	}
	return 128
}

// netAddr is the address of the library, the tests' other opinion.
func netAddr(a impl.Addr) netip.Addr {
	var whole [16]byte
	for i, part := range []int{a.A, a.B, a.C, a.D} {
		for j := range 4 {
			whole[4*i+j] = byte(part >> (24 - 8*j))
		}
	}
	if a.Kind == 4 {
		return netip.AddrFrom4([4]byte(whole[12:]))
	}
	return netip.AddrFrom16(whole)
}

func fromNet(n netip.Addr) impl.Addr {
	data := n.AsSlice()
	part := func(at int) int {
		return int(data[at])<<24 | int(data[at+1])<<16 | int(data[at+2])<<8 | int(data[at+3])
	}
	if len(data) == 4 {
		return impl.Addr{Kind: 4, D: part(0)}
	}
	return impl.Addr{Kind: 6, A: part(0), B: part(4), C: part(8), D: part(12)}
}

func netPrefix(p impl.Prefix) netip.Prefix {
	return netip.PrefixFrom(netAddr(p.Base), p.Len)
}

// samplePrefixes has any, and prefixes of both kinds of each length.
func samplePrefixes() []impl.Prefix {
	list := []impl.Prefix{{}}
	source := rand.New(rand.NewSource(9))
	for _, kind := range []int{4, 6} {
		for size := 0; size <= bitCount(kind); size++ {
			greatest := impl.Addr{Kind: 4, D: lastPart}
			if kind == 6 {
				greatest = impl.Addr{Kind: 6, A: lastPart, B: lastPart, C: lastPart, D: lastPart}
			}
			for _, a := range []impl.Addr{{Kind: kind}, greatest, randomAddr(source, kind)} {
				list = append(list, netMasked(a, size))
			}
		}
	}
	return list
}

func netMasked(a impl.Addr, size int) impl.Prefix {
	return impl.Prefix{Base: fromNet(netip.PrefixFrom(netAddr(a), size).Masked().Addr()), Len: size}
}

// addressIn is some with the first bits of p instead of its own.
func addressIn(p impl.Prefix, some impl.Addr) impl.Addr {
	data, base := netAddr(some).AsSlice(), netAddr(p.Base).AsSlice()
	for bit := range p.Len {
		mask := byte(128) >> (bit % 8)
		data[bit/8] = data[bit/8]&^mask | base[bit/8]&mask
	}
	n, _ := netip.AddrFromSlice(data)
	return fromNet(n)
}

func lastAddress(p impl.Prefix) impl.Addr {
	if p.Base.Kind == 4 {
		return addressIn(p, impl.Addr{Kind: 4, D: lastPart})
	}
	return addressIn(p, impl.Addr{Kind: 6, A: lastPart, B: lastPart, C: lastPart, D: lastPart})
}

// P4: a valid address is recovered from its text.
func TestAddrIsRecoveredFromText(t *testing.T) {
	for _, a := range sampleAddrs() {
		text := impl.AddrText(a)
		back, ok := impl.AddrRead(text)
		if !ok || back != a {
			t.Fatalf("%v, text %q: %v %v", a, text, back, ok)
		}
		if n, err := netip.ParseAddr(text); err != nil || n != netAddr(a) {
			t.Fatalf("%v, text %q: the library has %v %v", a, text, n, err)
		}
	}
}

// P4: a valid address is recovered from its bytes.
func TestAddrIsRecoveredFromBytes(t *testing.T) {
	for _, a := range sampleAddrs() {
		data := impl.AddrBytes(a)
		if !bytes.Equal(data, netAddr(a).AsSlice()) {
			t.Fatalf("%v: bytes %x", a, data)
		}
		back, ok := impl.AddrOf(data)
		if !ok || back != a {
			t.Fatalf("%v, bytes %x: %v %v", a, data, back, ok)
		}
	}
}

// P4: a prefix is recovered from its text.
func TestPrefixIsRecoveredFromText(t *testing.T) {
	for _, p := range samplePrefixes() {
		text := impl.PrefixText(p)
		back, ok := impl.PrefixRead(text)
		if !ok || back != p {
			t.Fatalf("%v, text %q: %v %v", p, text, back, ok)
		}
		if p == (impl.Prefix{}) {
			continue
		}
		if n, err := netip.ParsePrefix(text); err != nil || n != netPrefix(p) {
			t.Fatalf("%v, text %q: the library has %v %v", p, text, n, err)
		}
	}
}

// P4: if a prefix is PrefixIn another one, each address of the first is in the
// second; and it is not if its first or its last address is outside.
func TestPrefixInMeansEachAddress(t *testing.T) {
	source := rand.New(rand.NewSource(10))
	list := samplePrefixes()[1:]
	for _, p := range list {
		inner := []impl.Addr{p.Base, lastAddress(p)}
		for range 4 {
			inner = append(inner, addressIn(p, randomAddr(source, p.Base.Kind)))
		}
		for _, a := range inner {
			if !impl.PrefixHas(p, a) {
				t.Fatalf("%v is not in %v", a, p)
			}
		}
		others := append(sampleOf(source, list, 60), wider(p)...)
		for _, q := range others {
			want := netPrefix(q).Contains(netAddr(inner[0])) && netPrefix(q).Contains(netAddr(inner[1]))
			if got := impl.PrefixIn(p, q); got != want {
				t.Fatalf("%v in %v: %v", p, q, got)
			}
			for _, a := range inner {
				if want && !impl.PrefixHas(q, a) {
					t.Fatalf("%v is in %v, but %v is not in %v", a, p, a, q)
				}
			}
		}
	}
}

func sampleOf(source *rand.Rand, list []impl.Prefix, count int) []impl.Prefix {
	var chosen []impl.Prefix
	for range count {
		chosen = append(chosen, list[source.Intn(len(list))])
	}
	return chosen
}

// wider has all prefixes of the Base of p, those of other lengths as well.
func wider(p impl.Prefix) []impl.Prefix {
	var list []impl.Prefix
	for size := 0; size <= bitCount(p.Base.Kind); size++ {
		list = append(list, netMasked(p.Base, size))
	}
	return list
}

func TestAddrOk(t *testing.T) {
	for _, a := range sampleAddrs() {
		if !impl.AddrOk(a) {
			t.Errorf("%v is valid", a)
		}
	}
	for _, a := range badAddrs() {
		if impl.AddrOk(a) {
			t.Errorf("%v is not valid", a)
		}
	}
	// Kind alone makes the difference.
	if impl.AddrOk(impl.Addr{Kind: 4, A: 1}) || !impl.AddrOk(impl.Addr{Kind: 6, A: 1}) || impl.AddrOk(impl.Addr{Kind: 5, D: 1}) {
		t.Error("Kind")
	}
}

func TestBadAddrHasNothing(t *testing.T) {
	for _, a := range badAddrs() {
		if data := impl.AddrBytes(a); data != nil {
			t.Errorf("AddrBytes(%v): %x", a, data)
		}
		if text := impl.AddrText(a); text != "" {
			t.Errorf("AddrText(%v): %q", a, text)
		}
		for _, n := range []int{-1, 0, 1, 32, 128} {
			if got := impl.Cut(a, n); got != (impl.Addr{}) {
				t.Errorf("Cut(%v, %d): %v", a, n, got)
			}
		}
		for _, p := range []impl.Prefix{{}, {Base: impl.Addr{Kind: 4}}, {Base: impl.Addr{Kind: 6}}} {
			if impl.PrefixHas(p, a) {
				t.Errorf("%v contains %v", p, a)
			}
		}
	}
}

func TestAddrBytes(t *testing.T) {
	for _, c := range []struct {
		a    impl.Addr
		want string
	}{
		{impl.Addr{Kind: 4}, "\x00\x00\x00\x00"},
		{impl.Addr{Kind: 4, D: 167772161}, "\x0a\x00\x00\x01"},
		{impl.Addr{Kind: 4, D: 16909060}, "\x01\x02\x03\x04"},
		{impl.Addr{Kind: 4, D: lastPart}, "\xff\xff\xff\xff"},
		{impl.Addr{Kind: 6}, strings.Repeat("\x00", 16)},
		{impl.Addr{Kind: 6, A: 0x01020304, B: 0x05060708, C: 0x090a0b0c, D: 0x0d0e0f10}, "\x01\x02\x03\x04\x05\x06\x07\x08\x09\x0a\x0b\x0c\x0d\x0e\x0f\x10"},
		{impl.Addr{Kind: 6, A: lastPart, B: lastPart, C: lastPart, D: lastPart}, strings.Repeat("\xff", 16)},
	} {
		if got := string(impl.AddrBytes(c.a)); got != c.want {
			t.Errorf("AddrBytes(%v): %x", c.a, got)
		}
		if got, ok := impl.AddrOf([]byte(c.want)); !ok || got != c.a {
			t.Errorf("AddrOf(%x): %v %v", c.want, got, ok)
		}
	}
}

func TestAddrOfLengths(t *testing.T) {
	if a, ok := impl.AddrOf(nil); ok || a != (impl.Addr{}) {
		t.Error(a, ok)
	}
	for size := range 70 {
		a, ok := impl.AddrOf(bytes.Repeat([]byte{7}, size))
		want := impl.Addr{}
		switch size {
		case 4:
			want = impl.Addr{Kind: 4, D: 117901063}
		case 16:
			want = impl.Addr{Kind: 6, A: 117901063, B: 117901063, C: 117901063, D: 117901063}
		}
		if a != want || ok != (size == 4 || size == 16) {
			t.Errorf("%d bytes: %v %v", size, a, ok)
		}
	}
	whole := bytes.Repeat([]byte{7}, 16)
	if a, ok := impl.AddrOf(whole[:3]); ok || a != (impl.Addr{}) {
		t.Error("spare capacity is read", a, ok)
	}
	if a, ok := impl.AddrOf(whole[:4]); !ok || a.Kind != 4 {
		t.Error("spare capacity is read", a, ok)
	}
}

// addrTexts has each address with its only text.
func addrTexts() map[string]impl.Addr {
	return map[string]impl.Addr{
		"0.0.0.0":                 {Kind: 4},
		"0.0.0.1":                 {Kind: 4, D: 1},
		"10.0.0.1":                {Kind: 4, D: 167772161},
		"1.2.3.4":                 {Kind: 4, D: 16909060},
		"0.0.0.255":               {Kind: 4, D: 255},
		"0.0.1.0":                 {Kind: 4, D: 256},
		"0.255.0.0":               {Kind: 4, D: 16711680},
		"255.0.0.0":               {Kind: 4, D: 4278190080},
		"100.10.200.99":           {Kind: 4, D: 1678428259},
		"255.255.255.255":         {Kind: 4, D: lastPart},
		"0:0:0:0:0:0:0:0":         {Kind: 6},
		"0:0:0:0:0:0:0:1":         {Kind: 6, D: 1},
		"0:0:0:0:0:0:1:0":         {Kind: 6, D: 65536},
		"0:0:0:0:0:1:0:0":         {Kind: 6, C: 1},
		"0:0:0:0:1:0:0:0":         {Kind: 6, C: 65536},
		"0:0:0:1:0:0:0:0":         {Kind: 6, B: 1},
		"0:0:1:0:0:0:0:0":         {Kind: 6, B: 65536},
		"0:1:0:0:0:0:0:0":         {Kind: 6, A: 1},
		"1:0:0:0:0:0:0:0":         {Kind: 6, A: 65536},
		"2001:db8:0:0:0:0:0:1":    {Kind: 6, A: 536939960, D: 1},
		"0:0:0:0:0:0:a00:1":       {Kind: 6, D: 167772161},
		"0:0:0:0:0:ffff:a00:1":    {Kind: 6, C: 65535, D: 167772161},
		"1:20:300:4000:f:ff:0:10": {Kind: 6, A: 0x00010020, B: 0x03004000, C: 0x000f00ff, D: 0x00000010},
		"abcd:ef01:2345:6789:fedc:ba98:7654:3210": {Kind: 6, A: 0xabcdef01, B: 0x23456789, C: 0xfedcba98, D: 0x76543210},
		"ffff:ffff:ffff:ffff:ffff:ffff:ffff:ffff": {Kind: 6, A: lastPart, B: lastPart, C: lastPart, D: lastPart},
	}
}

func TestAddrText(t *testing.T) {
	for text, a := range addrTexts() {
		if got := impl.AddrText(a); got != text {
			t.Errorf("AddrText(%v): %q, not %q", a, got, text)
		}
		if got, ok := impl.AddrRead(text); !ok || got != a {
			t.Errorf("AddrRead(%q): %v %v", text, got, ok)
		}
	}
}

// Each byte and each group in each position.
func TestAddrTextOfEachValue(t *testing.T) {
	for at := range 4 {
		for n := range 260 {
			parts := []string{"10", "20", "30", "40"}
			parts[at] = fmt.Sprint(n)
			checkRead(t, strings.Join(parts, "."), n <= 255)
		}
	}
	for at := range 8 {
		for n := 0; n <= 65540; n++ {
			parts := []string{"1", "2", "3", "4", "5", "6", "7", "8"}
			parts[at] = fmt.Sprintf("%x", n)
			checkRead(t, strings.Join(parts, ":"), n <= 65535)
		}
	}
}

// checkRead compares with the library: what both read is the same address, and
// its text is the one that was read.
func checkRead(t *testing.T, s string, want bool) {
	t.Helper()
	a, ok := impl.AddrRead(s)
	if ok != want {
		t.Fatalf("AddrRead(%q): %v %v", s, a, ok)
	}
	if !ok {
		if a != (impl.Addr{}) {
			t.Fatalf("AddrRead(%q): %v with false", s, a)
		}
		return
	}
	if n, err := netip.ParseAddr(s); err != nil || fromNet(n) != a || impl.AddrText(a) != s {
		t.Fatalf("AddrRead(%q): %v, text %q", s, a, impl.AddrText(a))
	}
}

func TestAddrReadRejects(t *testing.T) {
	for _, s := range []string{
		"", " ", ".", "..", "...", "....", ":", "::", ":::::::", "::::::::", "any", "0", "10", "167772161",
		// too few or too many parts
		"10.0.0", "10.0.0.1.2", "10.0", "10.0.0.0.0.0.0.0", "1.2.3.4.5.6.7.8.9.10.11.12.13.14.15.16",
		"1:2:3:4:5:6:7", "1:2:3:4:5:6:7:8:9", "1:2", "1:2:3:4", "1:2:3:4:5:6:7:8:9:a:b:c:d:e:f:0",
		// empty parts
		".0.0.1", "10..0.1", "10.0..1", "10.0.0.", "10.0.0.1.", ".10.0.0.1",
		":2:3:4:5:6:7:8", "1:2:3::5:6:7:8", "1:2:3:4:5:6:7:", "1:2:3:4:5:6:7:8:", ":1:2:3:4:5:6:7:8",
		// the abbreviation
		"::1", "1::", "2001:db8::1", "1:2:3:4:5:6::", "::2:3:4:5:6:7:8", "1::8", "1:2:3:4:5:6:7::", "0::0",
		// leading zeros
		"10.0.0.01", "010.0.0.1", "10.00.0.1", "10.0.000.1", "0.0.0.00", "00.0.0.0", "1.2.3.004",
		"2001:0db8:0:0:0:0:0:1", "2001:db8:00:0:0:0:0:1", "2001:db8:0:0:0:0:0:01", "0000:0:0:0:0:0:0:0", "0001:2:3:4:5:6:7:8", "1:2:3:4:5:6:7:0f",
		// too great
		"10.0.0.256", "256.0.0.0", "10.300.0.1", "10.0.999.1", "1000.0.0.1", "4294967296.0.0.0", "10.0.0.18446744073709551617",
		"10000:2:3:4:5:6:7:8", "1:2:3:4:5:6:7:10000", "1:2:3:fffff:5:6:7:8", "1:2:3:4:5:6:7:100000001",
		// capitals and other characters
		"2001:DB8:0:0:0:0:0:1", "2001:dB8:0:0:0:0:0:1", "1:2:3:4:5:6:7:F", "A:2:3:4:5:6:7:8", "1:2:3:4:5:6:7:g",
		"a.0.0.1", "10.0.0.a", "0a.0.0.1", "0xa.0.0.1", "1:2:3:4:5:6:7:0x8", "+10.0.0.1", "-10.0.0.1", "10.0.0.-1", "1:2:3:4:5:6:7:-8", "1:2:3:4:5:6:7:+8", "1:2:3:4:5:6:7:1_0",
		" 10.0.0.1", "10.0.0.1 ", "10.0.0.1\n", "10. 0.0.1", "10,0,0,1", " 1:2:3:4:5:6:7:8", "1:2:3:4:5:6:7:8 ", "1:2:3:4:5:6:7:8\n", "[1:2:3:4:5:6:7:8]", "1:2:3:4:5:6:7:8%a",
		"10.0.0.1\x00", "10.0.0.\xff", "10.0.0.\u0661", "10.0.0.\uff11", "10.0.0.\u0131", "1:2:3:4:5:6:7:\xff", "1:2:3:4:5:6:7:\u0661", "1:2:3:4:5:6:7:\uff41", "1:2:3:4:5:6:7:\u0130",
		// mixed forms
		"0:0:0:0:0:ffff:10.0.0.1", "::ffff:10.0.0.1", "10.0.0.1:80", "10.0.0:1", "10:0:0:1", "1.2.3.4.5.6.7.8", "10.0.0.1/32", "1:2:3:4:5:6:7:8/128",
	} {
		if a, ok := impl.AddrRead(s); ok || a != (impl.Addr{}) {
			t.Errorf("AddrRead(%q): %v %v", s, a, ok)
		}
	}
}

// Texts beside a valid one, with a byte changed, left out or put in.
func TestAddrReadAcceptsOnlyTexts(t *testing.T) {
	for text := range addrTexts() {
		for _, s := range neighbours(text) {
			a, ok := impl.AddrRead(s)
			if ok && (impl.AddrText(a) != s || !impl.AddrOk(a)) || !ok && a != (impl.Addr{}) {
				t.Fatalf("AddrRead(%q): %v %v", s, a, ok)
			}
			if want := onlyText(s); ok != want {
				t.Fatalf("AddrRead(%q): %v", s, ok)
			}
		}
	}
}

func neighbours(text string) []string {
	var list []string
	for at := 0; at <= len(text); at++ {
		if at < len(text) {
			list = append(list, text[:at]+text[at+1:])
		}
		for b := range 256 {
			list = append(list, text[:at]+string([]byte{byte(b)})+text[at:])
			if at < len(text) {
				list = append(list, text[:at]+string([]byte{byte(b)})+text[at+1:])
			}
		}
	}
	return list
}

// onlyText asks the library for an address and writes its text anew.
func onlyText(s string) bool {
	n, err := netip.ParseAddr(s)
	if err != nil || n.Zone() != "" {
		return false
	}
	data := n.AsSlice()
	if len(data) == 4 {
		return s == fmt.Sprintf("%d.%d.%d.%d", data[0], data[1], data[2], data[3])
	}
	var groups []string
	for i := 0; i < 16; i += 2 {
		groups = append(groups, fmt.Sprintf("%x", int(data[i])<<8|int(data[i+1])))
	}
	return s == strings.Join(groups, ":")
}

func TestCut(t *testing.T) {
	for _, a := range sampleAddrs() {
		for n := 0; n <= bitCount(a.Kind); n++ {
			want := netMasked(a, n).Base
			if got := impl.Cut(a, n); got != want {
				t.Fatalf("Cut(%v, %d): %v, not %v", a, n, got, want)
			}
		}
	}
}

func TestCutLengths(t *testing.T) {
	four := impl.Addr{Kind: 4, D: lastPart}
	six := impl.Addr{Kind: 6, A: lastPart, B: lastPart, C: lastPart, D: lastPart}
	for _, c := range []struct {
		a    impl.Addr
		n    int
		want impl.Addr
	}{
		{impl.Addr{Kind: 4, D: 167772161}, 8, impl.Addr{Kind: 4, D: 167772160}},
		{four, 0, impl.Addr{Kind: 4}},
		{four, 1, impl.Addr{Kind: 4, D: 2147483648}},
		{four, 12, impl.Addr{Kind: 4, D: 4293918720}},
		{four, 31, impl.Addr{Kind: 4, D: 4294967294}},
		{four, 32, four},
		{six, 0, impl.Addr{Kind: 6}},
		{six, 1, impl.Addr{Kind: 6, A: 2147483648}},
		{six, 31, impl.Addr{Kind: 6, A: 4294967294}},
		{six, 32, impl.Addr{Kind: 6, A: lastPart}},
		{six, 33, impl.Addr{Kind: 6, A: lastPart, B: 2147483648}},
		{six, 44, impl.Addr{Kind: 6, A: lastPart, B: 4293918720}},
		{six, 64, impl.Addr{Kind: 6, A: lastPart, B: lastPart}},
		{six, 80, impl.Addr{Kind: 6, A: lastPart, B: lastPart, C: 4294901760}},
		{six, 96, impl.Addr{Kind: 6, A: lastPart, B: lastPart, C: lastPart}},
		{six, 97, impl.Addr{Kind: 6, A: lastPart, B: lastPart, C: lastPart, D: 2147483648}},
		{six, 127, impl.Addr{Kind: 6, A: lastPart, B: lastPart, C: lastPart, D: 4294967294}},
		{six, 128, six},
	} {
		if got := impl.Cut(c.a, c.n); got != c.want {
			t.Errorf("Cut(%v, %d): %v, not %v", c.a, c.n, got, c.want)
		}
	}
	for _, n := range badLengths(4) {
		if got := impl.Cut(four, n); got != (impl.Addr{}) {
			t.Errorf("Cut(%v, %d): %v", four, n, got)
		}
	}
	for _, n := range badLengths(6) {
		if got := impl.Cut(six, n); got != (impl.Addr{}) {
			t.Errorf("Cut(%v, %d): %v", six, n, got)
		}
	}
}

func badLengths(kind int) []int {
	list := []int{-1, -2, -8, -32, -96, -128, 129, 130, 136, 160, 256, 1 << 32, math.MaxInt, math.MaxInt - 95, math.MinInt, math.MinInt + 96}
	if kind == 4 {
		return append(list, 33, 34, 40, 64, 96, 127, 128)
	}
	return list
}

// badPrefixes has prefixes with one thing wrong each.
func badPrefixes() []impl.Prefix {
	list := []impl.Prefix{{Len: 1}, {Len: -1}, {Len: 32}, {Len: 128}, {Len: math.MinInt}, {Len: math.MaxInt}}
	for _, a := range badAddrs() {
		list = append(list, impl.Prefix{Base: a, Len: 32}, impl.Prefix{Base: a, Len: 128})
		if a != (impl.Addr{}) {
			list = append(list, impl.Prefix{Base: a})
		}
	}
	for _, kind := range []int{4, 6} {
		for _, n := range badLengths(kind) {
			list = append(list, impl.Prefix{Base: impl.Addr{Kind: kind}, Len: n})
		}
	}
	return append(list,
		impl.Prefix{Base: impl.Addr{Kind: 4, D: 167772161}, Len: 8},
		impl.Prefix{Base: impl.Addr{Kind: 4, D: 1}, Len: 31},
		impl.Prefix{Base: impl.Addr{Kind: 4, D: 2147483648}},
		impl.Prefix{Base: impl.Addr{Kind: 6, D: 1}, Len: 127},
		impl.Prefix{Base: impl.Addr{Kind: 6, A: 2147483648}},
		impl.Prefix{Base: impl.Addr{Kind: 6, B: 2147483648}, Len: 32},
		impl.Prefix{Base: impl.Addr{Kind: 6, C: 2147483648}, Len: 64},
		impl.Prefix{Base: impl.Addr{Kind: 6, D: 2147483648}, Len: 96})
}

func TestPrefixOk(t *testing.T) {
	for _, p := range samplePrefixes() {
		if !impl.PrefixOk(p) {
			t.Errorf("%v is valid", p)
		}
	}
	for _, p := range badPrefixes() {
		if impl.PrefixOk(p) {
			t.Errorf("%v is not valid", p)
		}
	}
}

// One bit in each position, before or after the end of the prefix.
func TestPrefixOkOfEachBit(t *testing.T) {
	for _, kind := range []int{4, 6} {
		for bit := range bitCount(kind) {
			base := flipped(impl.Addr{Kind: kind}, bit)
			for size := 0; size <= bitCount(kind); size++ {
				p := impl.Prefix{Base: base, Len: size}
				want := size > bit
				if got := impl.PrefixOk(p); got != want {
					t.Fatalf("%v: %v", p, got)
				}
				if got := impl.PrefixText(p) != ""; got != want {
					t.Fatalf("text of %v: %q", p, impl.PrefixText(p))
				}
				text := fmt.Sprintf("%s/%d", impl.AddrText(base), size)
				back, ok := impl.PrefixRead(text)
				if ok != want || ok && back != p || !ok && back != (impl.Prefix{}) {
					t.Fatalf("PrefixRead(%q): %v %v", text, back, ok)
				}
			}
		}
	}
}

// flipped is a with one bit changed.
func flipped(a impl.Addr, bit int) impl.Addr {
	data := netAddr(a).AsSlice()
	data[bit/8] ^= byte(128) >> (bit % 8)
	n, _ := netip.AddrFromSlice(data)
	return fromNet(n)
}

func TestBadPrefixHasNothing(t *testing.T) {
	good := []impl.Prefix{{}, {Base: impl.Addr{Kind: 4}}, {Base: impl.Addr{Kind: 6}}, {Base: impl.Addr{Kind: 4, D: 167772160}, Len: 8}}
	for _, p := range badPrefixes() {
		if text := impl.PrefixText(p); text != "" {
			t.Errorf("PrefixText(%v): %q", p, text)
		}
		for _, a := range []impl.Addr{{}, {Kind: 4}, {Kind: 6}, {Kind: 4, D: 167772161}, p.Base} {
			if impl.PrefixHas(p, a) {
				t.Errorf("%v contains %v", p, a)
			}
		}
		for _, q := range append(slices.Clone(good), p) {
			if impl.PrefixIn(p, q) || impl.PrefixIn(q, p) {
				t.Errorf("%v and %v", p, q)
			}
		}
	}
}

func TestPrefixHas(t *testing.T) {
	addrs := sampleAddrs()
	for _, p := range samplePrefixes() {
		for _, a := range addrs {
			want := p == (impl.Prefix{}) || netPrefix(p).Contains(netAddr(a))
			if got := impl.PrefixHas(p, a); got != want {
				t.Fatalf("%v contains %v: %v", p, a, got)
			}
		}
	}
}

// A change of one bit of an address in a prefix takes it out of the prefix if
// the bit is one of the prefix, and only then.
func TestPrefixHasOfEachBit(t *testing.T) {
	source := rand.New(rand.NewSource(11))
	for _, p := range samplePrefixes()[1:] {
		a := addressIn(p, randomAddr(source, p.Base.Kind))
		for bit := range bitCount(p.Base.Kind) {
			if got := impl.PrefixHas(p, flipped(a, bit)); got != (bit >= p.Len) {
				t.Fatalf("%v contains %v: %v", p, flipped(a, bit), got)
			}
		}
	}
}

func TestPrefixesOfBothKinds(t *testing.T) {
	all := impl.Prefix{}
	four := impl.Prefix{Base: impl.Addr{Kind: 4}}
	six := impl.Prefix{Base: impl.Addr{Kind: 6}}
	host := impl.Prefix{Base: impl.Addr{Kind: 4}, Len: 32}
	ending := impl.Prefix{Base: impl.Addr{Kind: 6}, Len: 96}
	for _, c := range []struct {
		p    impl.Prefix
		a    impl.Addr
		want bool
	}{
		{all, impl.Addr{Kind: 4, D: 5}, true}, {all, impl.Addr{Kind: 6, A: 5}, true}, {all, impl.Addr{}, false},
		{four, impl.Addr{Kind: 4, D: lastPart}, true}, {four, impl.Addr{Kind: 6}, false},
		{six, impl.Addr{Kind: 6, A: lastPart}, true}, {six, impl.Addr{Kind: 4}, false},
		{ending, impl.Addr{Kind: 4, D: 5}, false}, {ending, impl.Addr{Kind: 6, D: 5}, true},
		{host, impl.Addr{Kind: 4}, true}, {host, impl.Addr{Kind: 4, D: 1}, false}, {host, impl.Addr{Kind: 6}, false},
	} {
		if got := impl.PrefixHas(c.p, c.a); got != c.want {
			t.Errorf("%v contains %v: %v", c.p, c.a, got)
		}
	}
	for _, c := range []struct {
		p, q impl.Prefix
		want bool
	}{
		{all, all, true}, {all, four, false}, {all, six, false}, {all, host, false}, {all, ending, false},
		{four, all, true}, {six, all, true}, {host, all, true}, {ending, all, true},
		{four, four, true}, {six, six, true}, {four, six, false}, {six, four, false},
		{host, four, true}, {four, host, false}, {host, six, false}, {six, host, false}, {host, host, true},
		{ending, six, true}, {six, ending, false}, {ending, four, false}, {ending, host, false}, {host, ending, false},
	} {
		if got := impl.PrefixIn(c.p, c.q); got != c.want {
			t.Errorf("%v in %v: %v", c.p, c.q, got)
		}
	}
}

func TestPrefixText(t *testing.T) {
	for _, c := range []struct {
		text string
		p    impl.Prefix
	}{
		{"any", impl.Prefix{}},
		{"0.0.0.0/0", impl.Prefix{Base: impl.Addr{Kind: 4}}},
		{"0.0.0.0/32", impl.Prefix{Base: impl.Addr{Kind: 4}, Len: 32}},
		{"10.0.0.0/8", impl.Prefix{Base: impl.Addr{Kind: 4, D: 167772160}, Len: 8}},
		{"10.0.0.0/7", impl.Prefix{Base: impl.Addr{Kind: 4, D: 167772160}, Len: 7}},
		{"255.255.255.255/32", impl.Prefix{Base: impl.Addr{Kind: 4, D: lastPart}, Len: 32}},
		{"255.255.255.254/31", impl.Prefix{Base: impl.Addr{Kind: 4, D: lastPart - 1}, Len: 31}},
		{"0:0:0:0:0:0:0:0/0", impl.Prefix{Base: impl.Addr{Kind: 6}}},
		{"0:0:0:0:0:0:0:0/128", impl.Prefix{Base: impl.Addr{Kind: 6}, Len: 128}},
		{"2001:db8:0:0:0:0:0:0/32", impl.Prefix{Base: impl.Addr{Kind: 6, A: 536939960}, Len: 32}},
		{"2001:db8:0:0:0:0:0:0/29", impl.Prefix{Base: impl.Addr{Kind: 6, A: 536939960}, Len: 29}},
		{"2001:db8:0:0:0:0:0:1/128", impl.Prefix{Base: impl.Addr{Kind: 6, A: 536939960, D: 1}, Len: 128}},
	} {
		if got := impl.PrefixText(c.p); got != c.text {
			t.Errorf("PrefixText(%v): %q, not %q", c.p, got, c.text)
		}
		if got, ok := impl.PrefixRead(c.text); !ok || got != c.p {
			t.Errorf("PrefixRead(%q): %v %v", c.text, got, ok)
		}
	}
}

func TestPrefixReadRejects(t *testing.T) {
	for _, s := range []string{
		"", " ", "/", "//", "0", "8", "/0", "/8", "/32",
		"Any", "ANY", "any ", " any", "an", "anyx", "any/", "any/0", "/any", "any/any", "any\n", "*",
		// no length, or more than one
		"10.0.0.0", "10.0.0.0/", "10.0.0.0//8", "10.0.0.0/8/", "10.0.0.0/8/8", "/10.0.0.0/8", "0:0:0:0:0:0:0:0", "0:0:0:0:0:0:0:0/", "10.0.0.0:8", "10.0.0.0 8",
		// bits after the prefix
		"10.0.0.1/8", "10.0.0.0/6", "0.0.0.1/31", "0.0.0.1/0", "255.255.255.255/31", "128.0.0.0/0",
		"2001:db8:0:0:0:0:0:1/127", "2001:db8:0:0:0:0:0:0/28", "0:0:0:0:0:0:0:1/0", "0:0:8000:0:0:0:0:0/32", "0:0:0:0:8000:0:0:0/64", "0:0:0:0:0:0:8000:0/96", "8000:0:0:0:0:0:0:0/0",
		// lengths that are too great or not written as numbers
		"0.0.0.0/33", "0.0.0.0/64", "0.0.0.0/128", "10.0.0.0/4294967304", "0.0.0.0/999999999999", "0.0.0.0/1000000000000",
		"0:0:0:0:0:0:0:0/129", "0:0:0:0:0:0:0:0/256", "0:0:0:0:0:0:0:0/18446744073709551616",
		"0.0.0.0/-1", "0.0.0.0/-0", "0.0.0.0/+0", "0.0.0.0/00", "10.0.0.0/08", "10.0.0.0/8 ", "10.0.0.0/ 8", "10.0.0.0 /8", " 10.0.0.0/8", "10.0.0.0/8\n", "10.0.0.0/8.0", "10.0.0.0/a", "10.0.0.0/0x8", "10.0.0.0/\u0668", "10.0.0.0/255.0.0.0",
		// bases that are no addresses
		"10/8", "10.0.0/8", "10.0.0.00/8", "010.0.0.0/8", "256.0.0.0/8", "10.0.0.0.0/8", "2001:db8::/32", "::/0", "2001:DB8:0:0:0:0:0:0/32", "2001:0db8:0:0:0:0:0:0/32", "2001:db8:0:0:0:0:0/32", "2001:db8:0:0:0:0:0:0:0/32",
	} {
		if p, ok := impl.PrefixRead(s); ok || p != (impl.Prefix{}) {
			t.Errorf("PrefixRead(%q): %v %v", s, p, ok)
		}
	}
}

// Texts beside a valid one, with a byte changed, left out or put in.
func TestPrefixReadAcceptsOnlyTexts(t *testing.T) {
	for _, text := range []string{"any", "0.0.0.0/0", "10.0.0.0/8", "255.255.255.254/31", "2001:db8:0:0:0:0:0:0/32", "0:0:0:0:0:0:0:0/0", "ffff:0:0:0:0:0:0:8/128"} {
		for _, s := range neighbours(text) {
			p, ok := impl.PrefixRead(s)
			if ok && (impl.PrefixText(p) != s || !impl.PrefixOk(p)) || !ok && p != (impl.Prefix{}) {
				t.Fatalf("PrefixRead(%q): %v %v", s, p, ok)
			}
			before, _, _ := strings.Cut(s, "/")
			n, err := netip.ParsePrefix(s)
			want := s == "any" || err == nil && n == n.Masked() && onlyText(before)
			if ok != want {
				t.Fatalf("PrefixRead(%q): %v", s, ok)
			}
		}
	}
}

func TestAddrResultsAreNew(t *testing.T) {
	for _, a := range []impl.Addr{{Kind: 4, D: 16909060}, {Kind: 6, A: 1, B: 2, C: 3, D: 4}} {
		first := impl.AddrBytes(a)
		want := string(first)
		for i := range first {
			first[i] = 99
		}
		if got := string(impl.AddrBytes(a)); got != want {
			t.Errorf("%v: %x after a change of an earlier result", a, got)
		}
	}
}

func TestAddrOfLeavesArgumentsAlone(t *testing.T) {
	whole := []byte{1, 2, 3, 4, 5, 6, 7, 8, 9, 10, 11, 12, 13, 14, 15, 16, 17, 18, 19, 20}
	before := bytes.Clone(whole)
	for size := range len(whole) {
		impl.AddrOf(whole[:size])
	}
	if !bytes.Equal(whole, before) {
		t.Error(whole)
	}
}
