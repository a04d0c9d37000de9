package tests

import (
	"bytes"
	"encoding/binary"
	"math"
	"math/rand"
	"slices"
	"testing"

	"loop.example/g00655/impl"
)

const tcpStart = 20

const eightStart = 8

// A pair is the two addresses between which an Upper is sent.
type pair struct {
	src impl.Addr
	dst impl.Addr
}

func (p pair) turned() pair { return pair{p.dst, p.src} }

func zeroPair(kind int) pair { return pair{impl.Addr{Kind: kind}, impl.Addr{Kind: kind}} }

func somePair(kind int) pair {
	if kind == 4 {
		return pair{impl.Addr{Kind: 4, D: 0x0a0b0c0d}, impl.Addr{Kind: 4, D: 0xc0a801fe}}
	}
	return pair{
		impl.Addr{Kind: 6, A: 0x20010db8, B: 0x01020304, C: 0xa5a6a7a8, D: 0x0b0c0d0e},
		impl.Addr{Kind: 6, A: 0xfe800000, B: 0xf1f2f3f4, C: 0x11121314, D: 0xdeadbeef},
	}
}

func lastPair(kind int) pair {
	a := impl.Addr{Kind: kind, D: lastPart}
	if kind == 6 {
		a.A, a.B, a.C = lastPart, lastPart, lastPart
	}
	return pair{a, a}
}

func pairsOf(kind int) []pair {
	return []pair{zeroPair(kind), somePair(kind), somePair(kind).turned(), lastPair(kind), {zeroPair(kind).src, lastPair(kind).src}}
}

func bothKinds() []int { return []int{4, 6} }

func allPairs() []pair { return append(pairsOf(4), pairsOf(6)...) }

// badPairs has addresses that are not valid, in either place and in both, and
// valid ones of different Kinds.
func badPairs() []pair {
	var list []pair
	for _, bad := range append(badAddrs(), impl.Addr{}) {
		for _, kind := range bothKinds() {
			good := somePair(kind).src
			list = append(list, pair{bad, good}, pair{good, bad})
		}
		list = append(list, pair{bad, bad})
	}
	for _, four := range pairsOf(4) {
		for _, six := range pairsOf(6) {
			list = append(list, pair{four.src, six.dst}, pair{six.src, four.dst})
		}
	}
	return list
}

// An upperField is one of the numbers of an Upper, with its greatest value and
// the kinds that use it.
type upperField struct {
	name  string
	most  int
	kinds []int
	set   func(u *impl.Upper, n int)
}

func upperFields() []upperField {
	tcp, icmp := []int{impl.UpTcp}, []int{impl.UpIcmp}
	ports := []int{impl.UpTcp, impl.UpUdp}
	return []upperField{
		{"SPort", 65535, ports, func(u *impl.Upper, n int) { u.SPort = n }},
		{"DPort", 65535, ports, func(u *impl.Upper, n int) { u.DPort = n }},
		{"Seq", lastPart, tcp, func(u *impl.Upper, n int) { u.Seq = n }},
		{"Ack", lastPart, tcp, func(u *impl.Upper, n int) { u.Ack = n }},
		{"Bits", 4095, tcp, func(u *impl.Upper, n int) { u.Bits = n }},
		{"Window", 65535, tcp, func(u *impl.Upper, n int) { u.Window = n }},
		{"Urgent", 65535, tcp, func(u *impl.Upper, n int) { u.Urgent = n }},
		{"Type", 255, icmp, func(u *impl.Upper, n int) { u.Type = n }},
		{"Code", 255, icmp, func(u *impl.Upper, n int) { u.Code = n }},
		{"Rest", lastPart, icmp, func(u *impl.Upper, n int) { u.Rest = n }},
	}
}

func fieldsOf(kind int) []upperField {
	return slices.DeleteFunc(upperFields(), func(f upperField) bool { return !slices.Contains(f.kinds, kind) })
}

func upperKinds() []int { return []int{impl.UpOther, impl.UpTcp, impl.UpUdp, impl.UpIcmp} }

func noUpperKinds() []int {
	return []int{-1, 4, 5, 6, 17, 58, -2, -4, 1 << 32, 1<<32 + 1, math.MaxInt, math.MinInt}
}

// optionSizes are the lengths of Options that a kind may have.
func optionSizes(kind int) []int {
	if kind == impl.UpTcp {
		return []int{0, 4, 8, 36, 40}
	}
	return []int{0}
}

// protosOf are the protocol numbers for which data are of that kind.
func protosOf(kind int, addr int) []int {
	switch kind {
	case impl.UpTcp:
		return []int{6}
	case impl.UpUdp:
		return []int{17}
	case impl.UpIcmp:
		return []int{map[int]int{4: 1, 6: 58}[addr]}
	}
	return []int{0, map[int]int{4: 58, 6: 1}[addr], 5, 7, 16, 18, 255}
}

func someUpper(kind int, options int, body int) impl.Upper {
	u := impl.Upper{Kind: kind, Body: sampleBytes(body)}
	switch kind {
	case impl.UpTcp:
		u.SPort, u.DPort = 0x1f90, 0xc351
		u.Seq, u.Ack = 0x89abcdef, 0x7654321f
		u.Bits, u.Window, u.Urgent = 0x5a3, 0xfaf1, 0x0102
		u.Options = sampleBytes(options)
	case impl.UpUdp:
		u.SPort, u.DPort = 0x0035, 0xd903
	case impl.UpIcmp:
		u.Type, u.Code, u.Rest = 3, 0x8d, 0xfedc0a01
	}
	return u
}

func sameUpper(a impl.Upper, b impl.Upper) bool {
	return a.Kind == b.Kind && a.SPort == b.SPort && a.DPort == b.DPort && a.Seq == b.Seq && a.Ack == b.Ack &&
		a.Bits == b.Bits && a.Window == b.Window && a.Urgent == b.Urgent &&
		a.Type == b.Type && a.Code == b.Code && a.Rest == b.Rest && a.NoSum == b.NoSum &&
		bytes.Equal(a.Options, b.Options) && bytes.Equal(a.Body, b.Body)
}

func expectedUpperHead(kind int) int {
	switch kind {
	case impl.UpTcp:
		return tcpStart
	case impl.UpUdp, impl.UpIcmp:
		return eightStart
	}
	return 0
}

func expectedUpperSize(u impl.Upper) int {
	size := expectedUpperHead(u.Kind) + len(u.Body)
	if u.Kind == impl.UpTcp {
		size += len(u.Options)
	}
	return size
}

// expectedUpper is a second encoder, by the chapter's list. It checks nothing,
// so it also makes data that UpperBytes refuses.
func expectedUpper(u impl.Upper, sum int) []byte {
	var data []byte
	words := func(list ...int) {
		for _, n := range list {
			data = binary.BigEndian.AppendUint16(data, uint16(n))
		}
	}
	switch u.Kind {
	case impl.UpTcp:
		words(u.SPort, u.DPort, u.Seq/65536, u.Seq%65536, u.Ack/65536, u.Ack%65536)
		words(4096*(5+len(u.Options)/4)+u.Bits, u.Window, sum, u.Urgent)
		data = append(data, u.Options...)
	case impl.UpUdp:
		words(u.SPort, u.DPort, 8+len(u.Body), sum)
	case impl.UpIcmp:
		words(256*u.Type+u.Code, sum, u.Rest/65536, u.Rest%65536)
	}
	return append(data, u.Body...)
}

func expectedPseudo(p pair, proto int, size int) []byte {
	var data []byte
	for _, a := range []impl.Addr{p.src, p.dst} {
		if a.Kind == 6 {
			for _, part := range []int{a.A, a.B, a.C} {
				data = binary.BigEndian.AppendUint32(data, uint32(part))
			}
		}
		data = binary.BigEndian.AppendUint32(data, uint32(a.D))
	}
	if p.src.Kind == 4 {
		data = append(data, 0, byte(proto))
		return binary.BigEndian.AppendUint16(data, uint16(size))
	}
	data = binary.BigEndian.AppendUint32(data, uint32(size))
	return append(data, 0, 0, 0, byte(proto))
}

// dataSum is the checksum of data of that kind that have 0 in its place: the
// pseudo header has an even length, so one sum over both will do.
func dataSum(kind int, data []byte, p pair) int {
	if kind != impl.UpIcmp || p.src.Kind == 6 {
		proto := map[int]int{impl.UpTcp: 6, impl.UpUdp: 17, impl.UpIcmp: 58}[kind]
		data = joined(expectedPseudo(p, proto, len(data)), data)
	}
	sum := lastWord - expectedSum(data)
	if kind == impl.UpUdp && sum == 0 {
		return lastWord
	}
	return sum
}

func expectedUpperSum(u impl.Upper, p pair) int {
	if u.Kind == impl.UpOther || u.NoSum {
		return 0
	}
	return dataSum(u.Kind, expectedUpper(u, 0), p)
}

// sumPlace is the offset of the checksum.
func sumPlace(kind int) int {
	return map[int]int{impl.UpTcp: 16, impl.UpUdp: 6, impl.UpIcmp: 2}[kind]
}

func withSum(kind int, data []byte, sum int) []byte {
	return withWord(data, sumPlace(kind)/2, sum)
}

// resummedUpper returns the data with the right checksum, so that no other
// error hides behind UpSum.
func resummedUpper(kind int, data []byte, p pair) []byte {
	if kind == impl.UpOther || len(data) < expectedUpperHead(kind) {
		return data
	}
	return withSum(kind, data, dataSum(kind, withSum(kind, data, 0), p))
}

func expectedUpperKind(proto int, addr int) int {
	for _, kind := range []int{impl.UpTcp, impl.UpUdp, impl.UpIcmp} {
		if protosOf(kind, addr)[0] == proto {
			return kind
		}
	}
	return impl.UpOther
}

// expectedUpperCode states the chapter's errors one by one, in its order.
func expectedUpperCode(data []byte, proto int, p pair) int {
	if len(data) > impl.MaxInner {
		return impl.UpLong
	}
	if !impl.AddrOk(p.src) || !impl.AddrOk(p.dst) || p.src.Kind != p.dst.Kind || proto < 0 || proto > 255 {
		return impl.UpAddr
	}
	kind := expectedUpperKind(proto, p.src.Kind)
	if kind == impl.UpOther {
		return impl.UpOK
	}
	if len(data) < expectedUpperHead(kind) {
		return impl.UpShort
	}
	if head := 4 * int(data[min(12, len(data)-1)]/16); kind == impl.UpTcp && (head < 20 || head > len(data)) {
		return impl.UpHead
	}
	if kind == impl.UpUdp && wordAt(data, 2) != len(data) {
		return impl.UpLen
	}
	sum := wordAt(data, sumPlace(kind)/2)
	if kind == impl.UpUdp && p.src.Kind == 4 && sum == 0 {
		return impl.UpOK
	}
	if sum != dataSum(kind, withSum(kind, data, 0), p) {
		return impl.UpSum
	}
	return impl.UpOK
}

// checkUpperCode also holds that an error comes with the zero value, and that
// what was read is valid, of the right kind, and encoded as the data.
func checkUpperCode(t *testing.T, data []byte, proto int, p pair, want int) impl.Upper {
	t.Helper()
	u, code := impl.UpperRead(data, proto, p.src, p.dst)
	head := data[:min(len(data), 32)]
	if code != want {
		t.Fatalf("%d bytes, %x, proto %d, %v: code %d, not %d", len(data), head, proto, p, code, want)
	}
	if code != impl.UpOK {
		if !sameUpper(u, impl.Upper{}) {
			t.Fatalf("%d bytes, %x, proto %d, %v: code %d, %+v", len(data), head, proto, p, code, u)
		}
		return u
	}
	if u.Kind != expectedUpperKind(proto, p.src.Kind) || !impl.UpperOk(u, p.src.Kind) || !bytes.Equal(impl.UpperBytes(u, p.src, p.dst), data) {
		t.Fatalf("%d bytes, %x, proto %d, %v: read as %+v", len(data), head, proto, p, u)
	}
	return u
}

func checkUpperEncoded(t *testing.T, u impl.Upper, p pair) []byte {
	t.Helper()
	if !impl.UpperOk(u, p.src.Kind) {
		t.Fatalf("not valid for %d: %+v", p.src.Kind, u)
	}
	if size, want := impl.UpperSize(u), expectedUpperSize(u); size != want {
		t.Fatalf("%+v: UpperSize %d, not %d", u, size, want)
	}
	want := expectedUpperSum(u, p)
	if sum := impl.UpperSum(u, p.src, p.dst); sum != want {
		t.Fatalf("%+v, %v: UpperSum %d, not %d", u, p, sum, want)
	}
	data := impl.UpperBytes(u, p.src, p.dst)
	if !bytes.Equal(data, expectedUpper(u, want)) {
		t.Fatalf("%+v, %v: %x", u, p, data)
	}
	return data
}

// P8, its first half.
func checkUpperRecovered(t *testing.T, u impl.Upper, p pair) {
	t.Helper()
	data := checkUpperEncoded(t, u, p)
	for _, proto := range protosOf(u.Kind, p.src.Kind) {
		back, code := impl.UpperRead(data, proto, p.src, p.dst)
		if code != impl.UpOK || !sameUpper(back, u) {
			t.Fatalf("%+v, proto %d, %v: code %d, %+v", u, proto, p, code, back)
		}
	}
}

// P8, its second half.
func checkUpperTurned(t *testing.T, u impl.Upper, p pair) {
	t.Helper()
	sum, back := impl.UpperSum(u, p.src, p.dst), impl.UpperSum(u, p.dst, p.src)
	if sum != back || sum == -1 {
		t.Fatalf("%+v, %v: %d, but %d in the other direction", u, p, sum, back)
	}
	data := impl.UpperBytes(u, p.src, p.dst)
	if !bytes.Equal(data, impl.UpperBytes(u, p.dst, p.src)) {
		t.Fatalf("%+v, %v: %x in one direction alone", u, p, data)
	}
	for _, proto := range protosOf(u.Kind, p.src.Kind) {
		if got, code := impl.UpperRead(data, proto, p.dst, p.src); code != impl.UpOK || !sameUpper(got, u) {
			t.Fatalf("%+v, proto %d, %v: code %d, %+v in the other direction", u, proto, p, code, got)
		}
	}
}

func checkUpperBothWays(t *testing.T, u impl.Upper, p pair) {
	t.Helper()
	checkUpperRecovered(t, u, p)
	checkUpperTurned(t, u, p)
}

func checkUpperInvalid(t *testing.T, u impl.Upper, kind int) {
	t.Helper()
	if impl.UpperOk(u, kind) {
		t.Errorf("valid for %d: %+v", kind, u)
	}
	for _, p := range []pair{zeroPair(kind), somePair(kind)} {
		if sum := impl.UpperSum(u, p.src, p.dst); sum != -1 {
			t.Errorf("UpperSum %d: %+v, %v", sum, u, p)
		}
		if data := impl.UpperBytes(u, p.src, p.dst); len(data) != 0 {
			t.Errorf("encoded in %d bytes: %+v, %v", len(data), u, p)
		}
	}
}

// eachUpper calls check with every kind, Options and some Bodies, the longest
// ones among them, between addresses of both Kinds.
func eachUpper(check func(u impl.Upper, p pair)) {
	for _, p := range allPairs() {
		for _, kind := range upperKinds() {
			for _, options := range optionSizes(kind) {
				most := impl.MaxInner - expectedUpperHead(kind) - options
				for _, body := range []int{0, 1, 2, 3, 7, 8, 20, 100, 247, 248, 255, 256, 257, most - 1, most} {
					check(someUpper(kind, options, body), p)
				}
			}
		}
	}
}

func TestUpperIsRecovered(t *testing.T) {
	eachUpper(func(u impl.Upper, p pair) { checkUpperRecovered(t, u, p) })
}

func TestUpperSumIsTheSameInTheOtherDirection(t *testing.T) {
	eachUpper(func(u impl.Upper, p pair) { checkUpperTurned(t, u, p) })
}

// Every choice of 0 and the greatest value for all fields of the kind.
func TestUpperAtItsEdges(t *testing.T) {
	for _, kind := range upperKinds() {
		fields := fieldsOf(kind)
		for choice := range 1 << len(fields) {
			for _, options := range []int{0, 4, 40} {
				u := someUpper(kind, options, choice%3)
				for i, field := range fields {
					field.set(&u, choice>>i%2*field.most)
				}
				for _, p := range allPairs() {
					checkUpperBothWays(t, u, p)
				}
			}
		}
	}
}

// Each field at its edges while the others are neither 0 nor greatest, so that
// bits in a neighbour's place are seen.
func TestUpperWithOneEdge(t *testing.T) {
	for _, kind := range upperKinds() {
		for _, field := range fieldsOf(kind) {
			for _, n := range []int{0, 1, 255 % (field.most + 1), 256 % (field.most + 1), field.most / 2, field.most/2 + 1, field.most - 1, field.most} {
				for _, options := range optionSizes(kind) {
					u := someUpper(kind, options, 5)
					field.set(&u, n)
					checkUpperBothWays(t, u, somePair(4))
					checkUpperBothWays(t, u, somePair(6))
				}
			}
		}
	}
}

func TestUpperOfEveryValueIsRecovered(t *testing.T) {
	for n := range 65536 {
		tcp := impl.Upper{Kind: impl.UpTcp, SPort: n, DPort: lastWord - n, Seq: n<<16 | n>>8, Ack: n, Bits: n % 4096, Window: n, Urgent: n >> 1}
		udp := impl.Upper{Kind: impl.UpUdp, SPort: lastWord - n, DPort: n >> 3}
		icmp := impl.Upper{Kind: impl.UpIcmp, Type: n % 256, Code: n / 256, Rest: n<<16 | n}
		p := somePair(bothKinds()[n%2])
		checkUpperRecovered(t, tcp, p)
		checkUpperRecovered(t, udp, p)
		checkUpperRecovered(t, icmp, p)
	}
}

func TestUpperAddresses(t *testing.T) {
	for _, a := range sampleAddrs() {
		for _, kind := range upperKinds() {
			for _, body := range []int{0, 5, 6} {
				u := someUpper(kind, 0, body)
				other := somePair(a.Kind).dst
				checkUpperBothWays(t, u, pair{a, a})
				checkUpperBothWays(t, u, pair{a, other})
				checkUpperBothWays(t, u, pair{other, a})
			}
		}
	}
}

func randomUpper(source *rand.Rand, kind int, body int) impl.Upper {
	u := impl.Upper{Kind: kind}
	for _, field := range fieldsOf(kind) {
		field.set(&u, source.Intn(field.most+1))
	}
	if kind == impl.UpTcp {
		u.Options = make([]byte, 4*source.Intn(11))
		source.Read(u.Options)
	}
	u.Body = make([]byte, source.Intn(min(body, impl.MaxInner-expectedUpperSize(u))+1))
	source.Read(u.Body)
	return u
}

func TestRandomUpper(t *testing.T) {
	source := rand.New(rand.NewSource(71))
	for range 300 {
		for _, addr := range bothKinds() {
			for _, kind := range upperKinds() {
				p := pair{randomAddr(source, addr), randomAddr(source, addr)}
				checkUpperBothWays(t, randomUpper(source, kind, 30), p)
				checkUpperBothWays(t, randomUpper(source, kind, impl.MaxInner), p)
			}
		}
	}
}

// What was sent between other addresses is refused, except where no address
// takes part in the checksum.
func TestUpperSumBetweenOtherAddresses(t *testing.T) {
	for _, addr := range bothKinds() {
		for _, kind := range upperKinds() {
			u := someUpper(kind, 4, 6)
			p := somePair(addr)
			data := impl.UpperBytes(u, p.src, p.dst)
			for bit := range bitCount(addr) {
				want := impl.UpSum
				if kind == impl.UpOther || kind == impl.UpIcmp && addr == 4 {
					want = impl.UpOK
				}
				proto := protosOf(kind, addr)[0]
				checkUpperCode(t, data, proto, pair{flipped(p.src, bit), p.dst}, want)
				checkUpperCode(t, data, proto, pair{p.src, flipped(p.dst, bit)}, want)
			}
		}
	}
}

func TestUpperBytes(t *testing.T) {
	four := pair{impl.Addr{Kind: 4, D: 0x01020304}, impl.Addr{Kind: 4, D: 0x05060708}}
	six := pair{impl.Addr{Kind: 6, A: 1, D: 2}, impl.Addr{Kind: 6, B: 3, C: 4}}
	tcp := impl.Upper{Kind: impl.UpTcp, SPort: 0x0102, DPort: 0x0304, Seq: 0x05060708, Ack: 0x090a0b0c, Bits: 0xd0e, Window: 0x0f10, Urgent: 0x1112, Options: []byte("opts"), Body: []byte("body!")}
	for _, c := range []struct {
		u    impl.Upper
		p    pair
		sum  int
		data string
	}{
		{impl.Upper{Kind: impl.UpUdp, SPort: 1, DPort: 2}, zeroPair(4), 65499, "\x00\x01\x00\x02\x00\x08\xff\xdb"},
		{impl.Upper{Kind: impl.UpUdp, SPort: 1, DPort: 2}, zeroPair(6), 65499, "\x00\x01\x00\x02\x00\x08\xff\xdb"},
		{impl.Upper{Kind: impl.UpUdp, SPort: 1, DPort: 2, NoSum: true}, zeroPair(4), 0, "\x00\x01\x00\x02\x00\x08\x00\x00"},
		{impl.Upper{Kind: impl.UpUdp, SPort: 1, DPort: 2, NoSum: true, Body: []byte("abc")}, four, 0, "\x00\x01\x00\x02\x00\x0b\x00\x00abc"},
		{impl.Upper{Kind: impl.UpTcp, SPort: 1, DPort: 2}, zeroPair(4), 45026, "\x00\x01\x00\x02\x00\x00\x00\x00\x00\x00\x00\x00\x50\x00\x00\x00\xaf\xe2\x00\x00"},
		{impl.Upper{Kind: impl.UpIcmp, Type: 8}, zeroPair(4), 63487, "\x08\x00\xf7\xff\x00\x00\x00\x00"},
		{impl.Upper{Kind: impl.UpIcmp, Type: 8}, four, 63487, "\x08\x00\xf7\xff\x00\x00\x00\x00"},
		{impl.Upper{Kind: impl.UpIcmp, Type: 8}, zeroPair(6), 63421, "\x08\x00\xf7\xbd\x00\x00\x00\x00"},
		{impl.Upper{Kind: impl.UpIcmp, Type: 8}, six, 63411, "\x08\x00\xf7\xb3\x00\x00\x00\x00"},
		{impl.Upper{Kind: impl.UpIcmp}, four, 65535, "\x00\x00\xff\xff\x00\x00\x00\x00"},
		{impl.Upper{Kind: impl.UpIcmp, Type: 1, Code: 2, Rest: 0x03040506, Body: []byte("\x07")}, four, 61427, "\x01\x02\xef\xf3\x03\x04\x05\x06\x07"},
		{impl.Upper{}, four, 0, ""},
		{impl.Upper{Body: []byte("all")}, six, 0, "all"},
		{tcp, four, 29345, "\x01\x02\x03\x04\x05\x06\x07\x08\x09\x0a\x0b\x0c\x6d\x0e\x0f\x10\x72\xa1\x11\x12optsbody!"},
	} {
		if sum := impl.UpperSum(c.u, c.p.src, c.p.dst); sum != c.sum {
			t.Errorf("%+v, %v: UpperSum %d", c.u, c.p, sum)
		}
		if data := impl.UpperBytes(c.u, c.p.src, c.p.dst); string(data) != c.data {
			t.Errorf("%+v, %v: %x", c.u, c.p, data)
		}
		checkUpperBothWays(t, c.u, c.p)
	}
}

func TestUpperKind(t *testing.T) {
	for _, c := range []struct{ proto, kind, want int }{
		{6, 4, impl.UpTcp}, {6, 6, impl.UpTcp}, {17, 4, impl.UpUdp}, {17, 6, impl.UpUdp},
		{1, 4, impl.UpIcmp}, {1, 6, impl.UpOther}, {58, 6, impl.UpIcmp}, {58, 4, impl.UpOther},
		{0, 4, impl.UpOther}, {0, 6, impl.UpOther}, {255, 4, impl.UpOther}, {255, 6, impl.UpOther},
		{-1, 4, -1}, {-1, 6, -1}, {256, 4, -1}, {256, 6, -1},
		{6 + 256, 4, -1}, {17 + 256, 6, -1}, {6 + 1<<32, 4, -1}, {math.MaxInt, 6, -1}, {math.MinInt, 4, -1},
		{6, 0, -1}, {6, 5, -1}, {17, 3, -1}, {1, 7, -1}, {-1, 5, -1},
	} {
		if got := impl.UpperKind(c.proto, c.kind); got != c.want {
			t.Errorf("%d, %d: %d", c.proto, c.kind, got)
		}
	}
}

func TestUpperKindOfEveryProto(t *testing.T) {
	for proto := -300; proto < 600; proto++ {
		for _, kind := range bothKinds() {
			want := -1
			if proto >= 0 && proto <= 255 {
				want = expectedUpperKind(proto, kind)
			}
			if got := impl.UpperKind(proto, kind); got != want {
				t.Errorf("%d, %d: %d, not %d", proto, kind, got, want)
			}
		}
		for _, kind := range noKinds() {
			if got := impl.UpperKind(proto, kind); got != -1 {
				t.Errorf("%d, %d: %d", proto, kind, got)
			}
		}
	}
}

func TestUpperSize(t *testing.T) {
	for _, c := range []struct {
		u    impl.Upper
		want int
	}{
		{impl.Upper{}, 0},
		{impl.Upper{Kind: impl.UpTcp}, 20},
		{impl.Upper{Kind: impl.UpUdp}, 8},
		{impl.Upper{Kind: impl.UpIcmp}, 8},
		{someUpper(impl.UpOther, 0, 7), 7},
		{someUpper(impl.UpTcp, 40, 7), 67},
		{someUpper(impl.UpUdp, 0, 7), 15},
		{someUpper(impl.UpIcmp, 0, 7), 15},
		// What makes an Upper invalid does not change its size.
		{someUpper(impl.UpTcp, 5, 1), 26},
		{someUpper(impl.UpTcp, 44, 0), 64},
		{someUpper(impl.UpTcp, 0, 70000), 70020},
		{someUpper(impl.UpUdp, 0, 1493), 1501},
		{impl.Upper{Kind: impl.UpUdp, SPort: -1, Options: []byte("opts")}, 8},
		{impl.Upper{Kind: impl.UpIcmp, Options: []byte("opts")}, 8},
		{impl.Upper{Options: []byte("opts"), Body: []byte("b"), Seq: 9}, 1},
	} {
		if got := impl.UpperSize(c.u); got != c.want {
			t.Errorf("%d, not %d: %+v", got, c.want, c.u)
		}
	}
	for _, kind := range noUpperKinds() {
		for _, u := range []impl.Upper{{Kind: kind}, {Kind: kind, Options: []byte("opts"), Body: []byte("body")}} {
			if got := impl.UpperSize(u); got != -1 {
				t.Errorf("%d: %+v", got, u)
			}
		}
	}
}

func TestUpperOfOtherKinds(t *testing.T) {
	for _, kind := range noUpperKinds() {
		for _, addr := range bothKinds() {
			checkUpperInvalid(t, impl.Upper{Kind: kind}, addr)
			checkUpperInvalid(t, impl.Upper{Kind: kind, Body: []byte("body")}, addr)
			for _, other := range upperKinds() {
				u := someUpper(other, 4, 3)
				u.Kind = kind
				checkUpperInvalid(t, u, addr)
			}
		}
	}
}

func TestUpperForOtherAddressKinds(t *testing.T) {
	for _, kind := range upperKinds() {
		for addr := -300; addr < 600; addr++ {
			if got := impl.UpperOk(someUpper(kind, 0, 3), addr); got != (addr == 4 || addr == 6) {
				t.Errorf("kind %d for %d: %v", kind, addr, got)
			}
		}
		for _, addr := range noKinds() {
			if impl.UpperOk(someUpper(kind, 0, 0), addr) || impl.UpperOk(impl.Upper{Kind: kind}, addr) {
				t.Errorf("kind %d is valid for %d", kind, addr)
			}
		}
	}
}

func TestUpperFieldsOutsideTheirRanges(t *testing.T) {
	for _, kind := range upperKinds() {
		for _, field := range fieldsOf(kind) {
			for _, n := range []int{-1, -2, -field.most, -field.most - 1, field.most + 1, field.most + 2, 2*field.most + 1, 1 << 33, 1<<33 + 1, math.MaxInt, math.MinInt} {
				for _, addr := range bothKinds() {
					u := someUpper(kind, 0, 6)
					field.set(&u, n)
					checkUpperInvalid(t, u, addr)
				}
			}
		}
	}
}

// Each field that the kind does not use, with values that another kind allows.
func TestUpperFieldsThatTheKindDoesNotUse(t *testing.T) {
	for _, kind := range upperKinds() {
		for _, addr := range bothKinds() {
			for _, field := range upperFields() {
				if slices.Contains(field.kinds, kind) {
					continue
				}
				for _, n := range []int{1, -1, field.most, field.most + 1, math.MinInt} {
					u := someUpper(kind, 0, 6)
					field.set(&u, n)
					checkUpperInvalid(t, u, addr)
					u = impl.Upper{Kind: kind}
					field.set(&u, n)
					checkUpperInvalid(t, u, addr)
				}
			}
			checkUpperExtras(t, kind, addr)
		}
	}
}

// checkUpperExtras has the fields that are not numbers.
func checkUpperExtras(t *testing.T, kind int, addr int) {
	t.Helper()
	u := someUpper(kind, 0, 6)
	u.Options = []byte{}
	checkUpperRecovered(t, u, somePair(addr))
	for _, size := range []int{1, 4, 40} {
		u.Options = sampleBytes(size)
		if kind != impl.UpTcp {
			checkUpperInvalid(t, u, addr)
		}
	}
	u.Options, u.NoSum = nil, true
	if kind == impl.UpUdp && addr == 4 {
		checkUpperRecovered(t, u, somePair(addr))
	} else {
		checkUpperInvalid(t, u, addr)
	}
}

// The lengths 1, 2, 3, 5 and 44 are among those that are refused.
func TestUpperOptionLengths(t *testing.T) {
	for _, size := range append(numbersTo(100), 240, 256, 1024, 1480, 65536) {
		for _, addr := range bothKinds() {
			u := someUpper(impl.UpTcp, size, 2)
			if size <= 40 && size%4 == 0 {
				checkUpperBothWays(t, u, somePair(addr))
			} else {
				checkUpperInvalid(t, u, addr)
			}
		}
	}
}

func numbersTo(n int) []int {
	list := make([]int, n)
	for i := range list {
		list[i] = i
	}
	return list
}

func TestUpperLongestBody(t *testing.T) {
	for _, kind := range upperKinds() {
		for _, options := range optionSizes(kind) {
			most := impl.MaxInner - expectedUpperHead(kind) - options
			for _, p := range allPairs() {
				u := someUpper(kind, options, most)
				checkUpperBothWays(t, u, p)
				if data := impl.UpperBytes(u, p.src, p.dst); len(data) != impl.MaxInner || impl.UpperSize(u) != impl.MaxInner {
					t.Errorf("kind %d with %d bytes of Options: %d bytes", kind, options, len(data))
				}
			}
			for _, size := range []int{most + 1, most + 2, impl.MaxInner + 1, impl.MaxFrame, impl.MaxData + 1, 65536, 65536 + most, 70000} {
				checkUpperInvalid(t, someUpper(kind, options, size), 4)
				checkUpperInvalid(t, someUpper(kind, options, size), 6)
			}
		}
	}
}

func TestUpperWithSeveralFaults(t *testing.T) {
	for _, addr := range bothKinds() {
		for _, kind := range append(upperKinds(), noUpperKinds()...) {
			checkUpperInvalid(t, impl.Upper{Kind: kind, SPort: -1, DPort: 65536, Seq: -1, Bits: 4096, Type: 256, Rest: -1, NoSum: true, Options: []byte("o"), Body: sampleBytes(impl.MaxInner + 1)}, addr)
		}
	}
}

func TestUpperBetweenBadAddresses(t *testing.T) {
	for _, p := range badPairs() {
		for _, kind := range upperKinds() {
			for _, u := range []impl.Upper{someUpper(kind, 0, 3), {Kind: kind}, {Kind: kind, NoSum: true}, {Kind: kind, Body: sampleBytes(impl.MaxInner + 1)}} {
				if sum := impl.UpperSum(u, p.src, p.dst); sum != -1 {
					t.Errorf("%+v, %v: %d", u, p, sum)
				}
				if data := impl.UpperBytes(u, p.src, p.dst); len(data) != 0 {
					t.Errorf("%+v, %v: %x", u, p, data)
				}
			}
		}
		for _, size := range []int{0, 8, impl.MaxInner, -1} {
			if sum := impl.PseudoSum(p.src, p.dst, 17, size); sum != -1 {
				t.Errorf("%v: %d", p, sum)
			}
		}
	}
}

func TestPseudoSum(t *testing.T) {
	four := pair{impl.Addr{Kind: 4, D: 0x01020304}, impl.Addr{Kind: 4, D: 0x05060708}}
	six := pair{impl.Addr{Kind: 6, A: 0x00010002, B: 0x00030004, C: 0x00050006, D: 0x00070008}, impl.Addr{Kind: 6, A: 0xffff0000, D: 1}}
	for _, c := range []struct {
		p           pair
		proto, size int
		want        int
	}{
		{zeroPair(4), 17, 8, 25},
		{zeroPair(6), 17, 8, 25},
		{zeroPair(4), 0, 0, 0},
		{zeroPair(6), 0, 0, 0},
		{zeroPair(4), 255, 1500, 1755},
		{zeroPair(6), 255, 1500, 1755},
		{four, 0, 0, 4116},
		{four, 6, 20, 4142},
		{six, 58, 100, 195},
		{lastPair(4), 0, 0, 65535},
		{lastPair(6), 0, 0, 65535},
		{lastPair(4), 1, 0, 1},
		{lastPair(6), 0, 1, 1},
		{zeroPair(4), -1, 8, -1}, {zeroPair(4), 256, 8, -1}, {zeroPair(6), -1, 8, -1}, {zeroPair(6), 256, 8, -1},
		{zeroPair(4), 17, -1, -1}, {zeroPair(4), 17, 1501, -1}, {zeroPair(6), 17, -1, -1}, {zeroPair(6), 17, 1501, -1},
		{zeroPair(4), 17 + 256, 8, -1}, {zeroPair(6), 17, 8 + 65536, -1}, {zeroPair(6), 17, 8 + 1<<32, -1},
		{zeroPair(4), math.MaxInt, 8, -1}, {zeroPair(6), math.MinInt, 8, -1}, {zeroPair(4), 17, math.MaxInt, -1}, {zeroPair(6), 17, math.MinInt, -1},
		{pair{zeroPair(4).src, zeroPair(6).src}, 17, 8, -1}, {pair{zeroPair(6).src, zeroPair(4).src}, 17, 8, -1},
		{pair{}, 17, 8, -1}, {zeroPair(5), 17, 8, -1}, {pair{zeroPair(4).src, impl.Addr{Kind: 4, D: lastPart + 1}}, 17, 8, -1},
	} {
		if sum := impl.PseudoSum(c.p.src, c.p.dst, c.proto, c.size); sum != c.want {
			t.Errorf("%v, %d, %d: %d, not %d", c.p, c.proto, c.size, sum, c.want)
		}
	}
}

func TestPseudoSumOfEveryProtoAndSize(t *testing.T) {
	for _, p := range allPairs() {
		for n := -40; n < impl.MaxInner+40; n++ {
			proto, size := n/5, n
			want := -1
			if proto >= 0 && proto <= 255 && size >= 0 && size <= impl.MaxInner {
				want = expectedSum(expectedPseudo(p, proto, size))
			}
			sum, back := impl.PseudoSum(p.src, p.dst, proto, size), impl.PseudoSum(p.dst, p.src, proto, size)
			if sum != want || back != want {
				t.Fatalf("%v, %d, %d: %d and %d, not %d", p, proto, size, sum, back, want)
			}
		}
	}
}

// summedTo returns u with a field that makes the checksum come out as want,
// before the 0 of a datagram is replaced.
func summedTo(u impl.Upper, p pair, want int) impl.Upper {
	fixed := u
	set := func(n int) {
		switch u.Kind {
		case impl.UpTcp:
			fixed.Window = n
		case impl.UpUdp:
			fixed.DPort = n
		case impl.UpIcmp:
			fixed.Rest = n
		}
	}
	set(0)
	set(impl.SumAdd(expectedUpperSum(fixed, p), lastWord-want))
	return fixed
}

// A checksum of 0 is written as 65535 for a datagram and as 0 for the others.
func TestUpperSumThatWouldBeZero(t *testing.T) {
	for _, p := range allPairs() {
		for _, kind := range []int{impl.UpTcp, impl.UpUdp, impl.UpIcmp} {
			for _, body := range []int{0, 1, 2, 5, 1000} {
				u := summedTo(someUpper(kind, 0, body), p, 0)
				want := 0
				if kind == impl.UpUdp {
					want = lastWord
				}
				if sum := impl.UpperSum(u, p.src, p.dst); sum != want {
					t.Fatalf("%+v, %v: %d", u, p, sum)
				}
				checkUpperBothWays(t, u, p)
				data := withSum(kind, impl.UpperBytes(u, p.src, p.dst), lastWord-want)
				code := impl.UpSum
				if kind == impl.UpUdp && p.src.Kind == 4 {
					code = impl.UpOK
				}
				if back := checkUpperCode(t, data, protosOf(kind, p.src.Kind)[0], p, code); back.NoSum != (code == impl.UpOK) {
					t.Fatalf("%+v, %v: %+v", u, p, back)
				}
			}
		}
	}
}

// Checksums beside 0 and 65535 stay what they are.
func TestUpperSumOfEveryResult(t *testing.T) {
	for _, addr := range bothKinds() {
		p := somePair(addr)
		for want := 1; want < lastWord; want++ {
			u := summedTo(impl.Upper{Kind: impl.UpUdp, SPort: 7}, p, want)
			if sum := impl.UpperSum(u, p.src, p.dst); sum != want {
				t.Fatalf("%+v, %v: %d, not %d", u, p, sum, want)
			}
		}
	}
}

// Nothing but zeros has the sum 0, and so the checksum 65535, and only for
// ICMP over IPv4, where no address takes part.
func TestUpperOfZeros(t *testing.T) {
	for _, p := range pairsOf(4) {
		for _, body := range []int{0, 1, 2, 100} {
			data := make([]byte, 8+body)
			checkUpperCode(t, data, 1, p, impl.UpSum)
			checkUpperCode(t, withSum(impl.UpIcmp, data, lastWord), 1, p, impl.UpOK)
		}
	}
}

func TestUpperWithoutSum(t *testing.T) {
	for _, p := range pairsOf(4) {
		for _, body := range []int{0, 1, 2, 100, impl.MaxInner - 8} {
			u := someUpper(impl.UpUdp, 0, body)
			u.NoSum = true
			if sum := impl.UpperSum(u, p.src, p.dst); sum != 0 {
				t.Errorf("%d", sum)
			}
			checkUpperBothWays(t, u, p)
			data := impl.UpperBytes(u, p.src, p.dst)
			if wordAt(data, 3) != 0 {
				t.Errorf("%x", data[:8])
			}
			u.NoSum = false
			sum := impl.UpperSum(u, p.src, p.dst)
			if back := checkUpperCode(t, withSum(impl.UpUdp, data, sum), 17, p, impl.UpOK); back.NoSum {
				t.Errorf("%+v", back)
			}
		}
	}
	for _, p := range pairsOf(6) {
		u := someUpper(impl.UpUdp, 0, 3)
		checkUpperCode(t, expectedUpper(u, 0), 17, p, impl.UpSum)
		u.NoSum = true
		checkUpperInvalid(t, u, 6)
	}
}

// A right sum is no excuse for a wrong length, nor is a missing one.
func TestUpperWithoutSumIsStillChecked(t *testing.T) {
	data := expectedUpper(someUpper(impl.UpUdp, 0, 4), 0)
	for length := range 300 {
		want := impl.UpLen
		if length == len(data) {
			want = impl.UpOK
		}
		checkUpperCode(t, withWord(data, 2, length), 17, somePair(4), want)
	}
	checkUpperCode(t, data[:8], 17, somePair(4), impl.UpLen)
	checkUpperCode(t, data[:7], 17, somePair(4), impl.UpShort)
}

func TestUpperReadOfEveryChecksum(t *testing.T) {
	for _, addr := range bothKinds() {
		p := somePair(addr)
		for _, kind := range []int{impl.UpTcp, impl.UpUdp, impl.UpIcmp} {
			u := someUpper(kind, 0, 3)
			data := impl.UpperBytes(u, p.src, p.dst)
			right := impl.UpperSum(u, p.src, p.dst)
			for sum := range 65536 {
				want := impl.UpSum
				if sum == right || sum == 0 && kind == impl.UpUdp && addr == 4 {
					want = impl.UpOK
				}
				checkUpperCode(t, withSum(kind, data, sum), protosOf(kind, addr)[0], p, want)
			}
		}
	}
}

// Every bit of the data, and so each of the checksum, too.
func TestUpperReadOfOneChangedBit(t *testing.T) {
	for _, p := range allPairs() {
		for _, kind := range upperKinds() {
			for _, options := range optionSizes(kind) {
				data := impl.UpperBytes(someUpper(kind, options, 5), p.src, p.dst)
				proto := protosOf(kind, p.src.Kind)[0]
				for bit := range 8 * len(data) {
					changed := withByte(data, bit/8, data[bit/8]^byte(128>>(bit%8)))
					want := expectedUpperCode(changed, proto, p)
					if kind != impl.UpOther && want == impl.UpOK {
						t.Fatalf("bit %d of %x is not seen", bit, data)
					}
					checkUpperCode(t, changed, proto, p, want)
				}
			}
		}
	}
}

func TestUpperReadOfEverySize(t *testing.T) {
	for _, p := range allPairs() {
		for _, kind := range upperKinds() {
			proto := protosOf(kind, p.src.Kind)[0]
			whole := expectedUpper(someUpper(kind, 0, impl.MaxInner+2), 0)
			for size := range impl.MaxInner + 3 {
				data := whole[:size:size]
				if kind == impl.UpUdp && size >= 8 {
					data = withWord(data, 2, size)
				}
				data = resummedUpper(kind, data, p)
				want := impl.UpOK
				if size > impl.MaxInner {
					want = impl.UpLong
				} else if size < expectedUpperHead(kind) {
					want = impl.UpShort
				}
				checkUpperCode(t, data, proto, p, want)
			}
		}
	}
}

func TestUpperReadLimits(t *testing.T) {
	for _, addr := range bothKinds() {
		p := somePair(addr)
		for _, kind := range upperKinds() {
			proto := protosOf(kind, addr)[0]
			least := impl.UpperBytes(someUpper(kind, 0, 0), p.src, p.dst)
			if len(least) != expectedUpperHead(kind) {
				t.Errorf("kind %d: %d bytes", kind, len(least))
			}
			checkUpperCode(t, least, proto, p, impl.UpOK)
			checkUpperCode(t, make([]byte, impl.MaxInner+1), proto, p, impl.UpLong)
			checkUpperCode(t, make([]byte, 70000), proto, p, impl.UpLong)
			if kind == impl.UpOther {
				checkUpperCode(t, nil, proto, p, impl.UpOK)
				continue
			}
			checkUpperCode(t, nil, proto, p, impl.UpShort)
			checkUpperCode(t, []byte{}, proto, p, impl.UpShort)
			checkUpperCode(t, least[:len(least)-1], proto, p, impl.UpShort)
		}
	}
}

func TestUpperReadOfEveryProto(t *testing.T) {
	for _, p := range []pair{somePair(4), somePair(6)} {
		for proto := -300; proto < 600; proto++ {
			for _, kind := range upperKinds() {
				data := impl.UpperBytes(someUpper(kind, 0, 30), p.src, p.dst)
				checkUpperCode(t, data, proto, p, expectedUpperCode(data, proto, p))
			}
		}
		for _, proto := range []int{-1, 256, 6 + 256, 17 + 256, 6 + 1<<32, math.MaxInt, math.MinInt} {
			checkUpperCode(t, sampleBytes(30), proto, p, impl.UpAddr)
		}
	}
}

func TestUpperReadBetweenBadAddresses(t *testing.T) {
	for _, p := range badPairs() {
		for _, proto := range []int{0, 1, 6, 17, 58, 255, -1, 256} {
			for _, data := range [][]byte{nil, {0, 1, 0, 2, 0, 8, 0, 0}, sampleBytes(40), sampleBytes(impl.MaxInner)} {
				checkUpperCode(t, data, proto, p, impl.UpAddr)
			}
		}
	}
}

// Every header length with data that end before it, at it and behind it; the
// checksum is right throughout.
func TestUpperReadOfEveryHeaderLength(t *testing.T) {
	for _, p := range []pair{somePair(4), somePair(6)} {
		for size := 20; size < 80; size++ {
			for words := range 16 {
				data := expectedUpper(someUpper(impl.UpTcp, 0, size-20), 0)
				data[12] = byte(16*words + 5)
				want := impl.UpOK
				if 4*words < 20 || 4*words > size {
					want = impl.UpHead
				}
				u := checkUpperCode(t, resummedUpper(impl.UpTcp, data, p), 6, p, want)
				if want == impl.UpOK && (len(u.Options) != 4*words-20 || len(u.Body) != size-4*words || u.Bits != 0x5a3) {
					t.Fatalf("%d words in %d bytes: %+v", words, size, u)
				}
			}
		}
	}
}

// Every length in the header of a datagram; the checksum is right throughout.
func TestUpperReadOfEveryDatagramLength(t *testing.T) {
	for _, p := range []pair{somePair(4), somePair(6)} {
		for _, size := range []int{8, 9, 20, 255, 256, 257, impl.MaxInner - 1, impl.MaxInner} {
			data := expectedUpper(someUpper(impl.UpUdp, 0, size-8), 0)
			for _, length := range append(numbersTo(impl.MaxInner+300), 32768+size, 65280, 65535) {
				want := impl.UpLen
				if length == size {
					want = impl.UpOK
				}
				checkUpperCode(t, resummedUpper(impl.UpUdp, withWord(data, 2, length), p), 17, p, want)
			}
		}
	}
}

// The length and the header length count only for the kind that has them.
func TestUpperReadOfBytesLikeAnotherKind(t *testing.T) {
	for _, p := range allPairs() {
		for _, kind := range upperKinds() {
			for _, like := range upperKinds() {
				data := expectedUpper(someUpper(like, 0, 30), 0)
				if kind == impl.UpTcp {
					data[12] = 0x50
				}
				if kind == impl.UpUdp {
					data = withWord(data, 2, len(data))
				}
				data = resummedUpper(kind, data, p)
				for _, proto := range protosOf(kind, p.src.Kind) {
					checkUpperCode(t, data, proto, p, impl.UpOK)
				}
			}
		}
	}
}

// Each error with the later ones beside it: the checksums are wrong throughout.
func TestUpperReadFirstErrorCounts(t *testing.T) {
	four, six := somePair(4), somePair(6)
	mixed := pair{four.src, six.src}
	long := make([]byte, impl.MaxInner+1)
	for i := range long {
		long[i] = 1
	}
	for _, c := range []struct {
		data  []byte
		proto int
		p     pair
		want  int
	}{
		{long, 6, mixed, impl.UpLong},
		{long, 17, pair{}, impl.UpLong},
		{long, -1, four, impl.UpLong},
		{long, 256, mixed, impl.UpLong},
		{long, 6, six, impl.UpLong},
		{long, 17, four, impl.UpLong},
		{long, 1, four, impl.UpLong},
		{long, 0, six, impl.UpLong},
		{long[:impl.MaxInner], 6, mixed, impl.UpAddr},
		{long[:19], 6, mixed, impl.UpAddr},
		{nil, 6, pair{}, impl.UpAddr},
		{nil, -1, four, impl.UpAddr},
		{nil, 256, six, impl.UpAddr},
		{long[:7], 17, pair{four.src, impl.Addr{}}, impl.UpAddr},
		{long[:7], 1, pair{impl.Addr{}, four.src}, impl.UpAddr},
		{long[:20], 6, mixed, impl.UpAddr},
		{long[:20], 17, mixed, impl.UpAddr},
		{long[:20], 58, mixed, impl.UpAddr},
		{long[:20], 0, mixed, impl.UpAddr},
		{long[:19], 6, four, impl.UpShort},
		{long[:13], 6, six, impl.UpShort},
		{long[:8], 6, six, impl.UpShort},
		{long[:12], 6, six, impl.UpShort},
		{long[:7], 17, four, impl.UpShort},
		{long[:5], 17, six, impl.UpShort},
		{long[:7], 1, four, impl.UpShort},
		{long[:7], 58, six, impl.UpShort},
		{long[:20], 6, four, impl.UpHead},
		{withByte(long[:20], 12, 0x60), 6, six, impl.UpHead},
		{withByte(long[:59], 12, 0xff), 6, six, impl.UpHead},
		{withByte(long[:100], 12, 0x4f), 6, four, impl.UpHead},
		{long[:8], 17, four, impl.UpLen},
		{long[:8], 17, six, impl.UpLen},
		{withWord(long[:8], 2, 7), 17, four, impl.UpLen},
		{withWord(long[:8], 2, 9), 17, six, impl.UpLen},
		{withWord(withWord(long[:8], 2, 9), 3, 0), 17, six, impl.UpLen},
		{withWord(withWord(long[:8], 2, 9), 3, 0), 17, four, impl.UpLen},
		{withByte(long[:20], 12, 0x50), 6, four, impl.UpSum},
		{withByte(long[:60], 12, 0xf0), 6, six, impl.UpSum},
		{withWord(long[:8], 2, 8), 17, four, impl.UpSum},
		{withWord(long[:9], 2, 9), 17, six, impl.UpSum},
		{long[:8], 1, four, impl.UpSum},
		{long[:8], 58, six, impl.UpSum},
		{long[:8], 58, four, impl.UpOK},
		{long[:8], 1, six, impl.UpOK},
	} {
		checkUpperCode(t, c.data, c.proto, c.p, c.want)
		if want := expectedUpperCode(c.data, c.proto, c.p); want != c.want {
			t.Errorf("%d bytes, proto %d, %v: %d expected, not %d", len(c.data), c.proto, c.p, want, c.want)
		}
	}
}

// randomRead has data of which much may be right, or no code but the first ones
// would be seen.
func randomRead(source *rand.Rand) ([]byte, int, pair) {
	addr := bothKinds()[source.Intn(2)]
	p := pair{randomAddr(source, addr), randomAddr(source, addr)}
	if source.Intn(8) == 0 {
		p.dst = randomAddr(source, bothKinds()[source.Intn(2)])
	}
	proto := []int{1, 6, 6, 6, 17, 17, 58, 256}[source.Intn(8)]
	data := make([]byte, source.Intn(70))
	source.Read(data)
	if len(data) > 12 && source.Intn(4) != 0 {
		data[4], data[5] = 0, byte(len(data))
		data[12] = byte(0x50 + 16*source.Intn(4))
	}
	if proto < 256 && source.Intn(2) == 0 {
		data = resummedUpper(expectedUpperKind(proto, addr), data, p)
	}
	return data, proto, p
}

func TestUpperReadOfRandomBytes(t *testing.T) {
	source := rand.New(rand.NewSource(72))
	seen := map[int]int{}
	for range 60000 {
		data, proto, p := randomRead(source)
		want := expectedUpperCode(data, proto, p)
		seen[want]++
		checkUpperCode(t, data, proto, p, want)
	}
	for _, code := range []int{impl.UpOK, impl.UpAddr, impl.UpShort, impl.UpHead, impl.UpLen, impl.UpSum} {
		if seen[code] < 1000 {
			t.Errorf("code %d was seen %d times", code, seen[code])
		}
	}
}

// What lies behind the length of a slice is neither read nor changed.
func TestUpperIgnoresSpareCapacity(t *testing.T) {
	p := somePair(4)
	options := []byte{1, 2, 3, 4, 5, 6, 7, 8}
	body := []byte{19, 20, 21, 22}
	for _, kind := range upperKinds() {
		u := someUpper(kind, 0, 0)
		u.Body = body[:2]
		want := u
		want.Body = []byte{19, 20}
		if kind == impl.UpTcp {
			u.Options, want.Options = options[:4], []byte{1, 2, 3, 4}
		}
		data := impl.UpperBytes(u, p.src, p.dst)
		if !bytes.Equal(data, impl.UpperBytes(want, p.src, p.dst)) {
			t.Errorf("%x", data)
		}
		if string(options) != "\x01\x02\x03\x04\x05\x06\x07\x08" || string(body) != "\x13\x14\x15\x16" {
			t.Errorf("%x %x", options, body)
		}
		whole := joined(data, []byte{7, 8, 9})
		before := bytes.Clone(whole)
		proto := protosOf(kind, 4)[0]
		if back := checkUpperCode(t, whole[:len(data)], proto, p, impl.UpOK); !sameUpper(back, want) {
			t.Errorf("%+v", back)
		}
		if kind != impl.UpOther {
			checkUpperCode(t, whole[:expectedUpperHead(kind)-1], proto, p, impl.UpShort)
		}
		if !bytes.Equal(whole, before) {
			t.Errorf("%x", whole)
		}
	}
}

func TestUpperResultsAreNew(t *testing.T) {
	for _, p := range []pair{somePair(4), somePair(6)} {
		for _, kind := range upperKinds() {
			want := someUpper(kind, 8, 5)
			data := impl.UpperBytes(want, p.src, p.dst)
			whole := bytes.Clone(data)
			u, _ := impl.UpperRead(whole, protosOf(kind, p.src.Kind)[0], p.src, p.dst)
			fill(whole, 99)
			if !sameUpper(u, want) {
				t.Error("what was read changes with the data")
			}
			again := impl.UpperBytes(u, p.src, p.dst)
			fill(u.Options[:cap(u.Options)], 98)
			fill(u.Body[:cap(u.Body)], 97)
			if !bytes.Equal(u.Options, bytes.Repeat([]byte{98}, len(u.Options))) {
				t.Error("Options change with the Body")
			}
			if !bytes.Equal(again, data) {
				t.Error("the bytes change with the Upper")
			}
			fill(again[:cap(again)], 96)
			if u.Body[0] != 97 || !bytes.Equal(data, impl.UpperBytes(want, p.src, p.dst)) {
				t.Error("the Upper or another result changes with the bytes")
			}
		}
	}
}
