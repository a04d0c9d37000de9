package tests

import (
	"bytes"
	"encoding/binary"
	"math"
	"math/rand"
	"testing"

	"loop.example/g00655/impl"
)

const sixStart = 40

const lastLabel = 1048575

// A sixField is one of the numbers of a Six, with its least and greatest value.
type sixField struct {
	name  string
	least int
	most  int
	set   func(s *impl.Six, n int)
}

func sixFields() []sixField {
	return []sixField{
		{"Class", 0, 255, func(s *impl.Six, n int) { s.Class = n }},
		{"Label", 0, lastLabel, func(s *impl.Six, n int) { s.Label = n }},
		{"Hops", 0, 255, func(s *impl.Six, n int) { s.Hops = n }},
		{"Proto", 1, 255, func(s *impl.Six, n int) { s.Proto = n }},
	}
}

func extKinds() []int { return []int{0, 43, 60} }

func isExtKind(n int) bool { return n == 0 || n == 43 || n == 60 }

func extBodies() []int { return []int{6, 14, 22, 30, 38, 46, 54, 62} }

func extOfSize(kind int, size int) impl.Ext {
	return impl.Ext{Kind: kind, Body: sampleBytes(size)}
}

// extLists has every choice of Kinds, with Bodies of different lengths.
func extLists() [][]impl.Ext {
	lists := [][]impl.Ext{nil}
	sizes := extBodies()
	for i, first := range extKinds() {
		one := extOfSize(first, sizes[i])
		lists = append(lists, []impl.Ext{one})
		for j, second := range []int{43, 60} {
			two := extOfSize(second, sizes[7-j])
			lists = append(lists, []impl.Ext{one, two})
			for k, third := range []int{43, 60} {
				lists = append(lists, []impl.Ext{one, two, extOfSize(third, sizes[3+k])})
			}
		}
	}
	return lists
}

func expectedExtsSize(exts []impl.Ext) int {
	size := 0
	for _, e := range exts {
		size += 2 + len(e.Body)
	}
	return size
}

// exampleSix is the chapter's example.
func exampleSix() impl.Six {
	return impl.Six{
		Hops: 64, Proto: 59,
		Src:  impl.Addr{Kind: 6},
		Dst:  impl.Addr{Kind: 6, D: 1},
		Exts: []impl.Ext{{Kind: 0, Body: make([]byte, 6)}},
		Body: []byte{5},
	}
}

func someSix(body int, exts ...impl.Ext) impl.Six {
	return impl.Six{
		Class: 0xb9, Label: 0x5a3c1, Hops: 0x40, Proto: 17,
		Src:  impl.Addr{Kind: 6, A: 0x20010db8, B: 0x01020304, C: 0xa5a6a7a8, D: 0x0b0c0d0e},
		Dst:  impl.Addr{Kind: 6, A: 0xfe800000, B: 0xf1f2f3f4, C: 0x11121314, D: 0xdeadbeef},
		Exts: exts,
		Body: sampleBytes(body),
	}
}

func sameExts(a []impl.Ext, b []impl.Ext) bool {
	if len(a) != len(b) {
		return false
	}
	for i := range a {
		if a[i].Kind != b[i].Kind || !bytes.Equal(a[i].Body, b[i].Body) {
			return false
		}
	}
	return true
}

func sameSix(a impl.Six, b impl.Six) bool {
	return a.Class == b.Class && a.Label == b.Label && a.Hops == b.Hops && a.Proto == b.Proto &&
		a.Src == b.Src && a.Dst == b.Dst && sameExts(a.Exts, b.Exts) && bytes.Equal(a.Body, b.Body)
}

func noSix(s impl.Six) bool { return sameSix(s, impl.Six{}) }

// expectedSix is a second encoder, by the chapter's formulas. It checks
// nothing, so it also makes packets that SixBytes refuses.
func expectedSix(s impl.Six) []byte {
	kinds := []int{}
	for _, e := range s.Exts {
		kinds = append(kinds, e.Kind)
	}
	kinds = append(kinds, s.Proto)
	data := binary.BigEndian.AppendUint32(nil, uint32(6*268435456+s.Class*1048576+s.Label))
	data = binary.BigEndian.AppendUint16(data, uint16(expectedExtsSize(s.Exts)+len(s.Body)))
	data = append(data, byte(kinds[0]), byte(s.Hops))
	for _, a := range []impl.Addr{s.Src, s.Dst} {
		for _, part := range []int{a.A, a.B, a.C, a.D} {
			data = binary.BigEndian.AppendUint32(data, uint32(part))
		}
	}
	for i, e := range s.Exts {
		data = append(data, byte(kinds[i+1]), byte((2+len(e.Body))/8-1))
		data = append(data, e.Body...)
	}
	return append(data, s.Body...)
}

// expectedSixCode states the chapter's errors one by one, in its order.
func expectedSixCode(data []byte) int {
	if len(data) > impl.MaxFrame {
		return impl.SixLong
	}
	if len(data) < sixStart {
		return impl.SixShort
	}
	if data[0]/16 != 6 {
		return impl.SixVersion
	}
	length := int(binary.BigEndian.Uint16(data[4:]))
	if 40+length > impl.MaxInner || 40+length > len(data) {
		return impl.SixTotal
	}
	return expectedExtCode(data[40:40+length], int(data[6]))
}

func expectedExtCode(part []byte, next int) int {
	for count := 1; isExtKind(next); count++ {
		if count > impl.MaxExts || next == 0 && count != 1 || len(part) < 2 || part[1] > 7 {
			return impl.SixExt
		}
		size := 8 + 8*int(part[1])
		if size > len(part) {
			return impl.SixExt
		}
		next = int(part[0])
		part = part[size:]
	}
	return impl.SixOK
}

func withLength(data []byte, length int) []byte {
	changed := bytes.Clone(data)
	binary.BigEndian.PutUint16(changed[4:], uint16(length))
	return changed
}

func joined(parts ...[]byte) []byte { return bytes.Join(parts, nil) }

// checkSixCode also holds that an error comes with zero values, and that the
// packet encoded again and the bytes after it are the data.
func checkSixCode(t *testing.T, data []byte, want int) {
	t.Helper()
	s, rest, code := impl.SixRead(data)
	head := data[:min(len(data), 60)]
	if code != want {
		t.Fatalf("%d bytes, %x: code %d, not %d", len(data), head, code, want)
	}
	if code != impl.SixOK {
		if !noSix(s) || len(rest) != 0 {
			t.Fatalf("%d bytes, %x: code %d, %+v, %x", len(data), head, code, s, rest)
		}
		return
	}
	total := 40 + int(binary.BigEndian.Uint16(data[4:]))
	if len(rest) != len(data)-total || !impl.SixOk(s) || !bytes.Equal(joined(impl.SixBytes(s), rest), data) {
		t.Fatalf("%d bytes, %x: read as %+v, %x", len(data), head, s, rest)
	}
}

// P7: with the given bytes following.
func checkSixRead(t *testing.T, s impl.Six, data []byte, tail []byte) {
	t.Helper()
	back, rest, code := impl.SixRead(joined(data, tail))
	if code != impl.SixOK || !sameSix(back, s) || !bytes.Equal(rest, tail) {
		t.Fatalf("%+v and %x: code %d, %+v and %x", s, tail, code, back, rest)
	}
}

func checkSixEncoded(t *testing.T, s impl.Six) []byte {
	t.Helper()
	if !impl.SixOk(s) {
		t.Fatalf("not valid: %+v", s)
	}
	if size, want := impl.ExtsSize(s), expectedExtsSize(s.Exts); size != want {
		t.Fatalf("%+v: ExtsSize %d, not %d", s, size, want)
	}
	data := impl.SixBytes(s)
	if want := expectedSix(s); !bytes.Equal(data, want) {
		t.Fatalf("%+v: %x, not %x", s, data, want)
	}
	return data
}

// P7: with each number of bytes following, up to nine.
func checkSixRecovered(t *testing.T, s impl.Six) {
	t.Helper()
	data := checkSixEncoded(t, s)
	for size := range mostTail + 1 {
		checkSixRead(t, s, data, bytes.Repeat([]byte{0}, size))
		checkSixRead(t, s, data, bytes.Repeat([]byte{255}, size))
		checkSixRead(t, s, data, data[:size])
	}
}

func checkSixInvalid(t *testing.T, s impl.Six) {
	t.Helper()
	if impl.SixOk(s) {
		t.Errorf("valid: %+v", s)
	}
	if size := impl.ExtsSize(s); size != -1 {
		t.Errorf("ExtsSize %d: %+v", size, s)
	}
	if data := impl.SixBytes(s); len(data) != 0 {
		t.Errorf("encoded in %d bytes: %+v", len(data), s)
	}
}

func TestSixIsRecovered(t *testing.T) {
	checkSixRecovered(t, exampleSix())
	for _, exts := range extLists() {
		most := impl.MaxInner - sixStart - expectedExtsSize(exts)
		for _, body := range []int{0, 1, 2, 3, 7, 8, 100, 215, 216, 217, 255, 256, 257, most - 1, most} {
			checkSixRecovered(t, someSix(body, exts...))
		}
	}
}

// Every choice of the least and the greatest value for all fields.
func TestSixAtItsEdgesIsRecovered(t *testing.T) {
	fields := sixFields()
	for choice := range 1 << len(fields) {
		for i, exts := range extLists() {
			s := someSix(i%3, exts...)
			for j, field := range fields {
				field.set(&s, field.least+choice>>j%2*(field.most-field.least))
			}
			checkSixRecovered(t, s)
		}
	}
}

// Each field at its edges while the others are neither least nor greatest, so
// that bits in a neighbour's place are seen.
func TestSixWithOneEdgeIsRecovered(t *testing.T) {
	for _, field := range sixFields() {
		for _, n := range []int{field.least, field.least + 1, field.most / 2, field.most/2 + 1, field.most - 1, field.most} {
			for _, exts := range extLists() {
				s := someSix(5, exts...)
				field.set(&s, n)
				checkSixRecovered(t, s)
			}
		}
	}
}

func TestSixOfEveryValueIsRecovered(t *testing.T) {
	for n := range 65536 {
		s := exampleSix()
		s.Class, s.Label = n%256, n<<4|n>>12
		s.Hops, s.Proto = n/256, n%256
		s.Src.A, s.Src.C, s.Dst.B, s.Dst.D = n, n<<16|n, n<<8, n
		if isExtKind(s.Proto) {
			checkSixInvalid(t, s)
			continue
		}
		checkSixRead(t, s, checkSixEncoded(t, s), []byte{1})
	}
}

func TestSixAddressesAreRecovered(t *testing.T) {
	for _, a := range sampleAddrs() {
		if a.Kind != 6 {
			continue
		}
		s := someSix(4, extOfSize(60, 6))
		s.Src = a
		checkSixRecovered(t, s)
		s.Dst = a
		checkSixRecovered(t, s)
		s.Src = impl.Addr{Kind: 6}
		checkSixRecovered(t, s)
	}
}

// Every three lengths of Bodies of extension headers.
func TestSixExtBodiesAreRecovered(t *testing.T) {
	for _, a := range extBodies() {
		checkSixRecovered(t, someSix(3, extOfSize(0, a)))
		for _, b := range extBodies() {
			checkSixRecovered(t, someSix(0, extOfSize(43, a), extOfSize(60, b)))
			for _, c := range extBodies() {
				checkSixRecovered(t, someSix(1, extOfSize(0, a), extOfSize(60, b), extOfSize(43, c)))
			}
		}
	}
}

func randomSix(source *rand.Rand, body int) impl.Six {
	s := impl.Six{Src: randomAddr(source, 6), Dst: randomAddr(source, 6)}
	for _, field := range sixFields() {
		field.set(&s, field.least+source.Intn(field.most-field.least+1))
	}
	if isExtKind(s.Proto) {
		s.Proto++
	}
	for i := range source.Intn(impl.MaxExts + 1) {
		e := impl.Ext{Kind: extKinds()[source.Intn(3)], Body: make([]byte, 6+8*source.Intn(8))}
		if i > 0 && e.Kind == 0 {
			e.Kind = 43
		}
		source.Read(e.Body)
		s.Exts = append(s.Exts, e)
	}
	s.Body = make([]byte, source.Intn(min(body, impl.MaxInner-sixStart-expectedExtsSize(s.Exts))+1))
	source.Read(s.Body)
	return s
}

func TestRandomSixIsRecovered(t *testing.T) {
	source := rand.New(rand.NewSource(61))
	for range 500 {
		checkSixRecovered(t, randomSix(source, 30))
		checkSixRecovered(t, randomSix(source, impl.MaxInner))
	}
}

// The Bodies or what follows may look like extension headers or a packet: only
// the kinds and the lengths count.
func TestSixAroundASixIsRecovered(t *testing.T) {
	inner := impl.SixBytes(someSix(3, extOfSize(60, 14)))
	likeExt := []byte{43, 0, 60, 0, 0, 0}
	for _, exts := range [][]impl.Ext{nil, {{Kind: 0, Body: likeExt}}, {{Kind: 60, Body: likeExt}, {Kind: 43, Body: inner[:54]}}} {
		outer := someSix(0, exts...)
		outer.Body = inner
		checkSixRecovered(t, outer)
		checkSixRead(t, outer, impl.SixBytes(outer), inner)
		checkSixRead(t, outer, impl.SixBytes(outer), impl.SixBytes(outer))
		outer.Body = joined([]byte{43, 0}, likeExt)
		checkSixRecovered(t, outer)
		checkSixRead(t, outer, impl.SixBytes(outer), outer.Body)
	}
}

func TestSixBytes(t *testing.T) {
	all := impl.Addr{Kind: 6, A: lastPart, B: lastPart, C: lastPart, D: lastPart}
	one := impl.Addr{Kind: 6, A: 0x01020304, B: 0x05060708, C: 0x090a0b0c, D: 0x0d0e0f10}
	two := impl.Addr{Kind: 6, A: 0x11121314, B: 0x15161718, C: 0x191a1b1c, D: 0x1d1e1f20}
	zeros := "\x00\x00\x00\x00\x00\x00\x00\x00\x00\x00\x00\x00\x00\x00\x00"
	ones := "\xff\xff\xff\xff\xff\xff\xff\xff\xff\xff\xff\xff\xff\xff\xff\xff"
	both := "\x01\x02\x03\x04\x05\x06\x07\x08\x09\x0a\x0b\x0c\x0d\x0e\x0f\x10" +
		"\x11\x12\x13\x14\x15\x16\x17\x18\x19\x1a\x1b\x1c\x1d\x1e\x1f\x20"
	exts := []impl.Ext{{Kind: 0, Body: []byte("hopbyh")}, {Kind: 43, Body: []byte("routing header")}, {Kind: 60, Body: []byte("at end")}}
	for _, c := range []struct {
		s    impl.Six
		size int
		data string
	}{
		{exampleSix(), 8, "\x60\x00\x00\x00\x00\x09\x00\x40" + zeros + "\x00" + zeros + "\x01" + "\x3b\x00\x00\x00\x00\x00\x00\x00\x05"},
		{impl.Six{Proto: 1, Src: impl.Addr{Kind: 6}, Dst: impl.Addr{Kind: 6}}, 0, "\x60\x00\x00\x00\x00\x00\x01\x00" + zeros + "\x00" + zeros + "\x00"},
		{impl.Six{Class: 255, Label: lastLabel, Hops: 255, Proto: 255, Src: all, Dst: all}, 0, "\x6f\xff\xff\xff\x00\x00\xff\xff" + ones + ones},
		{impl.Six{Class: 0x12, Label: 0x34567, Hops: 8, Proto: 6, Src: one, Dst: two, Exts: exts, Body: []byte("body")}, 32,
			"\x61\x23\x45\x67\x00\x24\x00\x08" + both + "\x2b\x00hopbyh\x3c\x01routing header\x06\x00at endbody"},
	} {
		if size := impl.ExtsSize(c.s); size != c.size {
			t.Errorf("%+v: ExtsSize %d", c.s, size)
		}
		if data := impl.SixBytes(c.s); string(data) != c.data {
			t.Errorf("%+v: %x", c.s, data)
		}
		checkSixRead(t, c.s, []byte(c.data), []byte{9})
	}
	if data := impl.SixBytes(exampleSix()); len(data) != 49 {
		t.Errorf("%d bytes", len(data))
	}
}

func TestSixFieldsOutsideTheirRanges(t *testing.T) {
	for _, field := range sixFields() {
		numbers := []int{field.least - 1, -1, -2, -field.most, -field.most - 1, field.most + 1, field.most + 2, 2*field.most + 1, 1 << 32, 1<<32 + 1, math.MaxInt, math.MinInt}
		for _, n := range numbers {
			for _, exts := range extLists() {
				s := someSix(6, exts...)
				field.set(&s, n)
				checkSixInvalid(t, s)
			}
		}
	}
}

func TestSixOfEveryProto(t *testing.T) {
	for proto := -300; proto < 600; proto++ {
		for _, exts := range [][]impl.Ext{nil, {extOfSize(60, 6)}, {extOfSize(0, 6), extOfSize(43, 6), extOfSize(60, 6)}} {
			s := someSix(2, exts...)
			s.Proto = proto
			if proto < 0 || proto > 255 || isExtKind(proto) {
				checkSixInvalid(t, s)
			} else {
				checkSixRecovered(t, s)
			}
		}
	}
}

func TestSixWithOtherAddresses(t *testing.T) {
	list := append(badAddrs(), impl.Addr{})
	for _, a := range sampleAddrs() {
		if a.Kind == 4 {
			list = append(list, a)
		}
	}
	for _, a := range list {
		s := someSix(1)
		s.Src = a
		checkSixInvalid(t, s)
		s.Dst = a
		checkSixInvalid(t, s)
		s.Src = impl.Addr{Kind: 6}
		checkSixInvalid(t, s)
	}
}

func TestSixWithTooManyExts(t *testing.T) {
	for _, count := range []int{impl.MaxExts + 1, impl.MaxExts + 2, 10, 100} {
		var exts []impl.Ext
		for range count {
			exts = append(exts, extOfSize(60, 6))
		}
		checkSixRecovered(t, someSix(1, exts[:impl.MaxExts]...))
		checkSixInvalid(t, someSix(1, exts...))
		exts[0].Kind = 0
		checkSixRecovered(t, someSix(1, exts[:impl.MaxExts]...))
		checkSixInvalid(t, someSix(1, exts...))
	}
}

// In each place, because a check of the first one alone would not do.
func TestSixExtsOfEveryKind(t *testing.T) {
	for kind := -300; kind < 600; kind++ {
		for place := range impl.MaxExts {
			exts := []impl.Ext{extOfSize(60, 6), extOfSize(43, 14), extOfSize(60, 22)}
			exts[place].Kind = kind
			s := someSix(1, exts...)
			if kind == 43 || kind == 60 || kind == 0 && place == 0 {
				checkSixRecovered(t, s)
			} else {
				checkSixInvalid(t, s)
			}
		}
	}
	for _, kind := range []int{math.MinInt, math.MaxInt, 1 << 32, 1<<32 + 43} {
		checkSixInvalid(t, someSix(1, extOfSize(kind, 6)))
	}
}

func TestSixKindZeroIsOnlyFirst(t *testing.T) {
	hop, route, end := extOfSize(0, 6), extOfSize(43, 6), extOfSize(60, 6)
	for _, exts := range [][]impl.Ext{{hop, hop}, {route, hop}, {end, hop}, {hop, hop, end}, {hop, end, hop}, {route, end, hop}, {hop, hop, hop}} {
		checkSixInvalid(t, someSix(1, exts...))
		checkSixCode(t, expectedSix(someSix(1, exts...)), impl.SixExt)
		checkSixCode(t, joined(expectedSix(someSix(64, exts...)), sampleBytes(20)), impl.SixExt)
	}
}

// The lengths 0, 5, 7, 13, 63 and 70 are among those that are refused.
func TestSixExtLengths(t *testing.T) {
	check := func(size int) {
		for place := range impl.MaxExts {
			exts := []impl.Ext{extOfSize(0, 6), extOfSize(43, 14), extOfSize(60, 62)}
			exts[place].Body = sampleBytes(size)
			s := someSix(4, exts...)
			if size <= 62 && size%8 == 6 {
				checkSixRecovered(t, s)
			} else {
				checkSixInvalid(t, s)
			}
		}
	}
	for size := range 150 {
		check(size)
	}
	for _, size := range []int{254, 255, 256, 262, 1022, 2046, 2054, 65534, 65542} {
		check(size)
	}
	checkSixInvalid(t, someSix(4, impl.Ext{Kind: 43}))
}

// The longest Body without Exts is too long beside them.
func TestSixLongestBody(t *testing.T) {
	for _, exts := range extLists() {
		most := impl.MaxInner - sixStart - expectedExtsSize(exts)
		s := someSix(most, exts...)
		checkSixRecovered(t, s)
		if data := impl.SixBytes(s); len(data) != impl.MaxInner {
			t.Errorf("%d bytes with %d Exts", len(data), len(exts))
		}
		for _, size := range []int{most + 1, most + 2, impl.MaxInner - sixStart + 1, impl.MaxInner, impl.MaxFrame, 65536 - sixStart, 65536, 70000} {
			checkSixInvalid(t, someSix(size, exts...))
		}
	}
}

func TestSixWithSeveralFaults(t *testing.T) {
	checkSixInvalid(t, impl.Six{})
	checkSixInvalid(t, impl.Six{Class: -1, Label: -1, Hops: -1, Proto: -1, Exts: []impl.Ext{{Kind: -1}}, Body: sampleBytes(impl.MaxInner)})
	s := someSix(impl.MaxInner, extOfSize(43, 70), extOfSize(0, 5), extOfSize(7, 6), extOfSize(60, 6))
	s.Hops = 256
	s.Dst.Kind = 4
	checkSixInvalid(t, s)
}

func TestSixReadOfEverySize(t *testing.T) {
	checkSixCode(t, nil, impl.SixShort)
	checkSixCode(t, []byte{}, impl.SixShort)
	full := someSix(impl.MaxInner-sixStart-64, extOfSize(43, 62))
	for _, s := range []impl.Six{exampleSix(), someSix(0), someSix(30), someSix(0, extOfSize(60, 62)), someSix(700, extOfSize(0, 6), extOfSize(60, 14)), full} {
		packet := impl.SixBytes(s)
		data := joined(packet, sampleBytes(impl.MaxFrame+40-len(packet)))
		for size := range data {
			want := expectedSixCode(data[:size])
			checkSixCode(t, data[:size], want)
			if (want == impl.SixOK) != (size >= len(packet) && size <= impl.MaxFrame) {
				t.Fatalf("%d bytes of a packet of %d: %d expected", size, len(packet), want)
			}
		}
	}
}

func TestSixReadLimits(t *testing.T) {
	least := impl.SixBytes(someSix(0))
	checkSixCode(t, least, impl.SixOK)
	checkSixCode(t, least[:39], impl.SixShort)
	longest := impl.SixBytes(someSix(impl.MaxInner-sixStart-8, extOfSize(60, 6)))
	checkSixCode(t, longest, impl.SixOK)
	checkSixCode(t, longest[:impl.MaxInner-1], impl.SixTotal)
	for _, packet := range [][]byte{least, longest} {
		tail := impl.MaxFrame - len(packet)
		checkSixCode(t, joined(packet, sampleBytes(tail)), impl.SixOK)
		checkSixCode(t, joined(packet, sampleBytes(tail+1)), impl.SixLong)
	}
}

func TestSixReadOfEveryFirstByte(t *testing.T) {
	for _, s := range []impl.Six{exampleSix(), someSix(0), someSix(9, extOfSize(43, 62))} {
		for first := range 256 {
			want := impl.SixOK
			if first/16 != 6 {
				want = impl.SixVersion
			}
			checkSixCode(t, withByte(impl.SixBytes(s), 0, byte(first)), want)
		}
	}
}

// The extension headers are right, but the length in the header may end before
// them although the data go on.
func TestSixReadOfEveryLength(t *testing.T) {
	for _, exts := range [][]impl.Ext{nil, {extOfSize(0, 6)}, {extOfSize(43, 62)}, {extOfSize(60, 6), extOfSize(43, 14), extOfSize(60, 22)}} {
		need := expectedExtsSize(exts)
		for _, size := range []int{sixStart + need, sixStart + need + 1, 300, impl.MaxInner - 1, impl.MaxInner, impl.MaxInner + 1, impl.MaxFrame} {
			data := joined(impl.SixBytes(someSix(0, exts...)), sampleBytes(size-sixStart-need))
			check := func(length int) {
				want := impl.SixOK
				if 40+length > impl.MaxInner || 40+length > size {
					want = impl.SixTotal
				} else if length < need {
					want = impl.SixExt
				}
				checkSixCode(t, withLength(data, length), want)
			}
			for length := range impl.MaxFrame + 300 {
				check(length)
			}
			for _, length := range []int{4096, 32767, 32768, 65280, 65496, 65535} {
				check(length)
			}
		}
	}
}

// Each extension header in turn has one byte, or none, within the length in the
// header, or all but its last byte; data that go on do not help.
func TestSixReadOfExtBeyondTheLength(t *testing.T) {
	exts := []impl.Ext{extOfSize(0, 6), extOfSize(43, 30), extOfSize(60, 62)}
	for count := 1; count <= len(exts); count++ {
		data := impl.SixBytes(someSix(0, exts[:count]...))
		before := expectedExtsSize(exts[:count-1])
		after := expectedExtsSize(exts[:count])
		for _, length := range []int{before, before + 1, before + 2, before + 7, after - 8, after - 1} {
			for _, size := range []int{40 + length, len(data)} {
				checkSixCode(t, withLength(data, length)[:size], impl.SixExt)
			}
			checkSixCode(t, joined(withLength(data, length), sampleBytes(100)), impl.SixExt)
		}
		checkSixCode(t, withLength(data, after), impl.SixOK)
		checkSixCode(t, joined(withLength(data, after), sampleBytes(100)), impl.SixOK)
		checkSixCode(t, joined(withLength(data, after+100), sampleBytes(100)), impl.SixOK)
	}
}

// A length byte above 7 is refused even where the packet has so many bytes.
func TestSixReadOfEveryLengthByte(t *testing.T) {
	for _, length := range []int{8, 9, 16, 23, 24, 63, 64, 65, 71, 72, 80, impl.MaxInner - sixStart} {
		for b := range 256 {
			data := withLength(impl.SixBytes(someSix(impl.MaxInner-sixStart)), length)
			data[6], data[40], data[41] = 60, 17, byte(b)
			want := impl.SixOK
			if b > 7 || 8*b+8 > length {
				want = impl.SixExt
			}
			checkSixCode(t, data, want)
			checkSixCode(t, data[:40+length], want)
		}
	}
}

// The kind of the first extension header, and the one behind each.
func TestSixReadOfEveryNextKind(t *testing.T) {
	hop, route, end := extOfSize(0, 6), extOfSize(43, 6), extOfSize(60, 6)
	tail := bytes.Repeat([]byte{17, 0, 1, 2, 3, 4, 5, 6}, 5)
	for count, exts := range [][]impl.Ext{nil, {route}, {hop, end}, {end, route, end}} {
		s := someSix(0, exts...)
		s.Body = tail
		data := impl.SixBytes(s)
		at := 6
		if count > 0 {
			at = sixStart + expectedExtsSize(exts[:count-1])
		}
		for next := range 256 {
			want := impl.SixOK
			if isExtKind(next) && count == impl.MaxExts || next == 0 && count > 0 {
				want = impl.SixExt
			}
			changed := withByte(data, at, byte(next))
			checkSixCode(t, changed, want)
			if back, _, code := impl.SixRead(changed); code == impl.SixOK && isExtKind(next) != (len(back.Exts) == count+1) {
				t.Fatalf("%d behind %d Exts: %+v", next, count, back)
			}
		}
	}
}

func TestSixReadOfAFourthExt(t *testing.T) {
	for _, first := range extKinds() {
		for _, last := range []int{43, 60} {
			exts := []impl.Ext{extOfSize(first, 6), extOfSize(43, 6), extOfSize(60, 14), extOfSize(last, 6)}
			for _, body := range []int{0, 1, 100} {
				checkSixCode(t, expectedSix(someSix(body, exts[:3]...)), impl.SixOK)
				checkSixCode(t, expectedSix(someSix(body, exts...)), impl.SixExt)
				checkSixCode(t, joined(expectedSix(someSix(body, exts...)), sampleBytes(30)), impl.SixExt)
			}
		}
	}
}

// Each error with all the later ones beside it: the extension headers are wrong
// throughout.
func TestSixReadFirstErrorCounts(t *testing.T) {
	start := withByte(impl.SixBytes(someSix(0)), 6, 43)
	version := withByte(start, 0, 0x45)
	long := sampleBytes(impl.MaxFrame + 1 - sixStart)
	for _, c := range []struct {
		data []byte
		want int
	}{
		{joined(start, long), impl.SixLong},
		{joined(version, long), impl.SixLong},
		{joined(withLength(start, 65535), long), impl.SixLong},
		{joined(withLength(version, impl.MaxFrame-39), long), impl.SixLong},
		{make([]byte, impl.MaxFrame+1), impl.SixLong},
		{nil, impl.SixShort},
		{make([]byte, 39), impl.SixShort},
		{start[:39], impl.SixShort},
		{version[:39], impl.SixShort},
		{withLength(version, 65535)[:39], impl.SixShort},
		{start[:1], impl.SixShort},
		{make([]byte, 40), impl.SixVersion},
		{version, impl.SixVersion},
		{withLength(version, 1), impl.SixVersion},
		{withLength(version, 65535), impl.SixVersion},
		{joined(withLength(version, impl.MaxInner-39), sampleBytes(impl.MaxInner)), impl.SixVersion},
		{withLength(start, 1), impl.SixTotal},
		{withLength(start, impl.MaxInner-39), impl.SixTotal},
		{joined(withLength(start, impl.MaxInner-39), make([]byte, impl.MaxInner)), impl.SixTotal},
		{joined(withLength(start, 11), []byte{60, 8, 0, 0, 0, 0, 0, 0, 0, 0}), impl.SixTotal},
		{start, impl.SixExt},
		{joined(withLength(start, 1), []byte{43}), impl.SixExt},
		{joined(withLength(start, 10), []byte{60, 8, 0, 0, 0, 0, 0, 0, 0, 0}), impl.SixExt},
		{joined(withLength(start, 10), []byte{0, 0, 0, 0, 0, 0, 0, 0, 0, 8}), impl.SixExt},
	} {
		checkSixCode(t, c.data, c.want)
		if want := expectedSixCode(c.data); want != c.want {
			t.Errorf("%d bytes: %d expected, not %d", len(c.data), want, c.want)
		}
	}
}

// Most of the data have a version, a length and kinds that may be right, or no
// code but the first ones would be seen.
func TestSixReadOfRandomBytes(t *testing.T) {
	source := rand.New(rand.NewSource(62))
	seen := map[int]int{}
	for range 60000 {
		data := make([]byte, source.Intn(160))
		source.Read(data)
		if len(data) >= sixStart && source.Intn(8) != 0 {
			data[0] = byte(0x60 + source.Intn(16))
			data = withLength(data, max(0, len(data)-sixStart-10+source.Intn(12)))
			data[6] = byte(extKinds()[source.Intn(3)])
		}
		for at := sixStart; at+1 < len(data) && source.Intn(8) != 0; at += 8 {
			data[at] = []byte{0, 43, 60, 17}[source.Intn(4)]
			data[at+1] = byte(source.Intn(3))
		}
		want := expectedSixCode(data)
		seen[want]++
		checkSixCode(t, data, want)
	}
	for _, code := range []int{impl.SixOK, impl.SixShort, impl.SixVersion, impl.SixTotal, impl.SixExt} {
		if seen[code] < 1000 {
			t.Errorf("code %d was seen %d times", code, seen[code])
		}
	}
}

func TestMarking(t *testing.T) {
	for _, c := range []struct{ class, dscp, ecn int }{
		{0, 0, 0}, {1, 0, 1}, {3, 0, 3}, {4, 1, 0}, {7, 1, 3}, {8, 2, 0}, {184, 46, 0}, {252, 63, 0}, {254, 63, 2}, {255, 63, 3},
		{-1, -1, -1}, {-4, -1, -1}, {-255, -1, -1}, {256, -1, -1}, {257, -1, -1}, {512, -1, -1}, {1 << 32, -1, -1},
		{math.MaxInt, -1, -1}, {math.MinInt, -1, -1},
	} {
		if dscp, ecn := impl.Marking(c.class); dscp != c.dscp || ecn != c.ecn {
			t.Errorf("%d: %d, %d", c.class, dscp, ecn)
		}
	}
}

// What Marking returns stands in the same bits of an IPv4 header.
func TestMarkingOfEveryClass(t *testing.T) {
	for class := range 256 {
		dscp, ecn := impl.Marking(class)
		f := exampleFour()
		f.Dscp, f.Ecn = dscp, ecn
		if data := impl.FourBytes(f); len(data) == 0 || int(data[1]) != class {
			t.Errorf("%d: %d, %d", class, dscp, ecn)
		}
	}
}

// What lies behind the length of a slice is neither read nor changed.
func TestSixIgnoresSpareCapacity(t *testing.T) {
	first := []byte{1, 2, 3, 4, 5, 6, 7, 8, 9, 10, 11, 12, 13, 14}
	exts := []impl.Ext{{Kind: 0, Body: first[:6]}, {Kind: 43, Body: []byte{99}}, {Kind: 7}}
	body := []byte{19, 20, 21, 22}
	s := exampleSix()
	s.Exts, s.Body = exts[:1], body[:2]
	data := impl.SixBytes(s)
	if string(data[40:]) != "\x3b\x00\x01\x02\x03\x04\x05\x06\x13\x14" || impl.ExtsSize(s) != 8 {
		t.Errorf("%x, %d", data, impl.ExtsSize(s))
	}
	if string(first) != "\x01\x02\x03\x04\x05\x06\x07\x08\x09\x0a\x0b\x0c\x0d\x0e" || string(body) != "\x13\x14\x15\x16" {
		t.Errorf("%x %x", first, body)
	}
	if exts[1].Kind != 43 || string(exts[1].Body) != "\x63" || exts[2].Kind != 7 || exts[2].Body != nil {
		t.Errorf("%+v", exts)
	}
	whole := joined(data, []byte{7, 8, 9})
	before := bytes.Clone(whole)
	checkSixCode(t, whole[:39], impl.SixShort)
	checkSixCode(t, whole[:49], impl.SixTotal)
	if back, rest, code := impl.SixRead(whole[:51]); code != impl.SixOK || !sameSix(back, s) || string(rest) != "\x07" {
		t.Error(back, rest, code)
	}
	if !bytes.Equal(whole, before) {
		t.Errorf("%x", whole)
	}
}

// sixParts are the lists of bytes that SixRead returns, with spare capacity.
func sixParts(s impl.Six, rest []byte) [][]byte {
	parts := [][]byte{s.Body[:cap(s.Body)], rest[:cap(rest)]}
	for _, e := range s.Exts {
		parts = append(parts, e.Body[:cap(e.Body)])
	}
	return parts
}

func TestSixResultsAreNew(t *testing.T) {
	want := someSix(5, extOfSize(0, 6), extOfSize(43, 14), extOfSize(60, 6))
	data := impl.SixBytes(want)
	whole := joined(data, []byte{7, 8, 9})
	s, rest, _ := impl.SixRead(whole)
	fill(whole, 99)
	if !sameSix(s, want) || string(rest) != "\x07\x08\x09" {
		t.Error("what was read changes with the data")
	}
	again := impl.SixBytes(s)
	parts := sixParts(s, rest)
	for i, part := range parts {
		fill(part, byte(100+i))
	}
	for i, part := range parts {
		if !bytes.Equal(part, bytes.Repeat([]byte{byte(100 + i)}, len(part))) {
			t.Errorf("part %d changes with another one", i)
		}
	}
	if !bytes.Equal(again, data) {
		t.Error("the bytes change with the packet")
	}
	fill(again[:cap(again)], 95)
	if s.Body[0] != 100 || s.Exts[0].Body[0] != 102 || !bytes.Equal(data, impl.SixBytes(want)) {
		t.Error("the packet or another result changes with the bytes")
	}
}
