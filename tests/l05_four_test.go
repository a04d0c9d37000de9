package tests

import (
	"bytes"
	"encoding/binary"
	"math"
	"math/rand"
	"testing"

	"loop.example/g00655/impl"
)

const fourStart = 20

const mostTail = 9

// A fourField is one of the numbers of a Four, with its greatest value.
type fourField struct {
	name string
	most int
	set  func(f *impl.Four, n int)
}

func fourFields() []fourField {
	return []fourField{
		{"Dscp", 63, func(f *impl.Four, n int) { f.Dscp = n }},
		{"Ecn", 3, func(f *impl.Four, n int) { f.Ecn = n }},
		{"Id", 65535, func(f *impl.Four, n int) { f.Id = n }},
		{"Flags", 7, func(f *impl.Four, n int) { f.Flags = n }},
		{"Frag", 8191, func(f *impl.Four, n int) { f.Frag = n }},
		{"Ttl", 255, func(f *impl.Four, n int) { f.Ttl = n }},
		{"Proto", 255, func(f *impl.Four, n int) { f.Proto = n }},
	}
}

func fourOptions() []int { return []int{0, 4, 8, 36, 40} }

// exampleFour is the chapter's example.
func exampleFour() impl.Four {
	return impl.Four{Ttl: 1, Proto: 6, Src: impl.Addr{Kind: 4}, Dst: impl.Addr{Kind: 4}}
}

func someFour(options int, body int) impl.Four {
	return impl.Four{
		Dscp: 46, Ecn: 2, Id: 0x1234, Flags: 5, Frag: 0x0abc, Ttl: 64, Proto: 17,
		Src:     impl.Addr{Kind: 4, D: 0x0a0b0c0d},
		Dst:     impl.Addr{Kind: 4, D: 0xc0a801fe},
		Options: sampleBytes(options),
		Body:    sampleBytes(body),
	}
}

func sameFour(a impl.Four, b impl.Four) bool {
	return a.Dscp == b.Dscp && a.Ecn == b.Ecn && a.Id == b.Id && a.Flags == b.Flags && a.Frag == b.Frag &&
		a.Ttl == b.Ttl && a.Proto == b.Proto && a.Src == b.Src && a.Dst == b.Dst &&
		bytes.Equal(a.Options, b.Options) && bytes.Equal(a.Body, b.Body)
}

func noFour(f impl.Four) bool { return sameFour(f, impl.Four{}) }

// expectedFourHead is a second encoder, by the chapter's formulas. It checks
// nothing, so it also makes headers that FourBytes refuses.
func expectedFourHead(f impl.Four, sum int) []byte {
	data := []byte{byte(64 + 5 + len(f.Options)/4), byte(4*f.Dscp + f.Ecn)}
	data = binary.BigEndian.AppendUint16(data, uint16(20+len(f.Options)+len(f.Body)))
	data = binary.BigEndian.AppendUint16(data, uint16(f.Id))
	data = binary.BigEndian.AppendUint16(data, uint16(8192*f.Flags+f.Frag))
	data = append(data, byte(f.Ttl), byte(f.Proto))
	data = binary.BigEndian.AppendUint16(data, uint16(sum))
	data = binary.BigEndian.AppendUint32(data, uint32(f.Src.D))
	data = binary.BigEndian.AppendUint32(data, uint32(f.Dst.D))
	return append(data, f.Options...)
}

func expectedHeadSum(f impl.Four) int {
	return lastWord - expectedSum(expectedFourHead(f, 0))
}

func expectedFour(f impl.Four) []byte {
	return append(expectedFourHead(f, expectedHeadSum(f)), f.Body...)
}

// expectedFourCode states the chapter's errors one by one, in its order.
func expectedFourCode(data []byte) int {
	if len(data) > impl.MaxFrame {
		return impl.FourLong
	}
	if len(data) < fourStart {
		return impl.FourShort
	}
	if data[0]/16 != 4 {
		return impl.FourVersion
	}
	words := int(data[0] % 16)
	if words < 5 || 4*words > len(data) {
		return impl.FourHead
	}
	total := int(binary.BigEndian.Uint16(data[2:]))
	if total < 4*words || total > impl.MaxInner || total > len(data) {
		return impl.FourTotal
	}
	head := bytes.Clone(data[:4*words])
	head[10], head[11] = 0, 0
	if int(binary.BigEndian.Uint16(data[10:])) != lastWord-expectedSum(head) {
		return impl.FourSum
	}
	return impl.FourOK
}

// resummed returns the data with the right checksum for the header that they
// seem to have, so that no other error hides behind FourSum.
func resummed(data []byte) []byte {
	fixed := bytes.Clone(data)
	if len(fixed) < fourStart {
		return fixed
	}
	fixed[10], fixed[11] = 0, 0
	head := fixed[:min(4*int(fixed[0]%16), len(fixed))]
	binary.BigEndian.PutUint16(fixed[10:], uint16(lastWord-expectedSum(head)))
	return fixed
}

func withByte(data []byte, at int, b byte) []byte {
	changed := bytes.Clone(data)
	changed[at] = b
	return changed
}

func withTotal(data []byte, total int) []byte {
	changed := bytes.Clone(data)
	binary.BigEndian.PutUint16(changed[2:], uint16(total))
	return changed
}

// checkFourCode also holds that an error comes with zero values, and that the
// packet encoded again and the bytes after it are the data.
func checkFourCode(t *testing.T, data []byte, want int) {
	t.Helper()
	f, rest, code := impl.FourRead(data)
	head := data[:min(len(data), 24)]
	if code != want {
		t.Fatalf("%d bytes, %x: code %d, not %d", len(data), head, code, want)
	}
	if code != impl.FourOK {
		if !noFour(f) || len(rest) != 0 {
			t.Fatalf("%d bytes, %x: code %d, %+v, %x", len(data), head, code, f, rest)
		}
		return
	}
	total := int(binary.BigEndian.Uint16(data[2:]))
	if len(rest) != len(data)-total || !impl.FourOk(f) || !bytes.Equal(append(impl.FourBytes(f), rest...), data) {
		t.Fatalf("%d bytes, %x: read as %+v, %x", len(data), head, f, rest)
	}
}

// P6: with the given bytes following.
func checkFourRead(t *testing.T, f impl.Four, data []byte, tail []byte) {
	t.Helper()
	back, rest, code := impl.FourRead(append(bytes.Clone(data), tail...))
	if code != impl.FourOK || !sameFour(back, f) || !bytes.Equal(rest, tail) {
		t.Fatalf("%+v and %x: code %d, %+v and %x", f, tail, code, back, rest)
	}
}

func checkFourEncoded(t *testing.T, f impl.Four) []byte {
	t.Helper()
	if !impl.FourOk(f) {
		t.Fatalf("not valid: %+v", f)
	}
	if sum, want := impl.HeadSum(f), expectedHeadSum(f); sum != want {
		t.Fatalf("%+v: HeadSum %d, not %d", f, sum, want)
	}
	data := impl.FourBytes(f)
	if want := expectedFour(f); !bytes.Equal(data, want) {
		t.Fatalf("%+v: %x, not %x", f, data, want)
	}
	return data
}

// P6: with each number of bytes following, up to nine.
func checkFourRecovered(t *testing.T, f impl.Four) {
	t.Helper()
	data := checkFourEncoded(t, f)
	for size := range mostTail + 1 {
		checkFourRead(t, f, data, bytes.Repeat([]byte{0}, size))
		checkFourRead(t, f, data, bytes.Repeat([]byte{255}, size))
		checkFourRead(t, f, data, data[:size])
	}
}

func checkFourInvalid(t *testing.T, f impl.Four) {
	t.Helper()
	if impl.FourOk(f) {
		t.Errorf("valid: %+v", f)
	}
	if sum := impl.HeadSum(f); sum != -1 {
		t.Errorf("HeadSum %d: %+v", sum, f)
	}
	if data := impl.FourBytes(f); len(data) != 0 {
		t.Errorf("encoded in %d bytes: %+v", len(data), f)
	}
	if impl.FourPiece(f) {
		t.Errorf("a fragment: %+v", f)
	}
}

func TestFourIsRecovered(t *testing.T) {
	checkFourRecovered(t, exampleFour())
	for _, options := range fourOptions() {
		most := impl.MaxInner - fourStart - options
		for _, body := range []int{0, 1, 2, 3, 100, 235, 236, 237, most - 1, most} {
			checkFourRecovered(t, someFour(options, body))
		}
	}
}

// Every choice of 0 and the greatest value for all fields.
func TestFourAtItsEdgesIsRecovered(t *testing.T) {
	fields := fourFields()
	for choice := range 1 << len(fields) {
		for _, options := range fourOptions() {
			f := someFour(options, choice%3)
			for i, field := range fields {
				field.set(&f, choice>>i%2*field.most)
			}
			checkFourRecovered(t, f)
		}
	}
}

// Each field at its edges while the others are neither 0 nor greatest, so that
// bits in a neighbour's place are seen.
func TestFourWithOneEdgeIsRecovered(t *testing.T) {
	for _, field := range fourFields() {
		for _, n := range []int{0, 1, field.most / 2, field.most/2 + 1, field.most - 1, field.most} {
			for _, options := range fourOptions() {
				f := someFour(options, 5)
				field.set(&f, n)
				checkFourRecovered(t, f)
			}
		}
	}
}

func TestFourOfEveryValueIsRecovered(t *testing.T) {
	for n := range 65536 {
		f := exampleFour()
		f.Dscp, f.Ecn = n%256/4, n%4
		f.Id = n
		f.Flags, f.Frag = n/8192, n%8192
		f.Ttl, f.Proto = n/256, n%256
		f.Src.D, f.Dst.D = n<<16|n, n
		checkFourRead(t, f, checkFourEncoded(t, f), []byte{1})
	}
}

func TestFourAddressesAreRecovered(t *testing.T) {
	for _, a := range sampleAddrs() {
		if a.Kind != 4 {
			continue
		}
		f := someFour(4, 4)
		f.Src = a
		checkFourRecovered(t, f)
		f.Dst = a
		checkFourRecovered(t, f)
		f.Src = impl.Addr{Kind: 4}
		checkFourRecovered(t, f)
	}
}

func randomFour(source *rand.Rand, body int) impl.Four {
	var f impl.Four
	for _, field := range fourFields() {
		field.set(&f, source.Intn(field.most+1))
	}
	f.Src, f.Dst = randomAddr(source, 4), randomAddr(source, 4)
	f.Options = make([]byte, 4*source.Intn(11))
	source.Read(f.Options)
	f.Body = make([]byte, source.Intn(min(body, impl.MaxInner-fourStart-len(f.Options))+1))
	source.Read(f.Body)
	return f
}

func TestRandomFourIsRecovered(t *testing.T) {
	source := rand.New(rand.NewSource(51))
	for range 500 {
		checkFourRecovered(t, randomFour(source, 30))
		checkFourRecovered(t, randomFour(source, impl.MaxInner))
	}
}

// The Body or what follows may look like a packet: only the lengths count.
func TestFourAroundAFourIsRecovered(t *testing.T) {
	inner := impl.FourBytes(someFour(8, 3))
	outer := someFour(4, 0)
	outer.Body = inner
	checkFourRecovered(t, outer)
	checkFourRead(t, outer, impl.FourBytes(outer), inner)
	checkFourRead(t, outer, impl.FourBytes(outer), impl.FourBytes(outer))
}

// P6: each byte of the header but the first, changed to each other value, with
// and without bytes following and whatever length that leaves.
func checkChangedHeads(t *testing.T, f impl.Four, tails ...int) {
	t.Helper()
	data := impl.FourBytes(f)
	for _, size := range tails {
		whole := append(bytes.Clone(data), sampleBytes(size)...)
		for at := 1; at < fourStart+len(f.Options); at++ {
			for change := 1; change < 256; change++ {
				changed := withByte(whole, at, whole[at]^byte(change))
				back, rest, code := impl.FourRead(changed)
				if code == impl.FourOK || !noFour(back) || len(rest) != 0 {
					t.Fatalf("%x, changed from %x at %d: code %d, %+v, %x", changed, whole, at, code, back, rest)
				}
				if want := expectedFourCode(changed); code != want {
					t.Fatalf("%x, changed from %x at %d: code %d, not %d", changed, whole, at, code, want)
				}
			}
		}
	}
}

func TestChangedFourHeadIsDetected(t *testing.T) {
	checkChangedHeads(t, exampleFour(), 0, 1, mostTail)
	for _, options := range fourOptions() {
		checkChangedHeads(t, someFour(options, 0), 0, mostTail)
		checkChangedHeads(t, someFour(options, 7), 0, 1, mostTail)
		checkChangedHeads(t, someFour(options, impl.MaxInner-fourStart-options), 0, mostTail)
	}
	source := rand.New(rand.NewSource(52))
	for range 20 {
		checkChangedHeads(t, randomFour(source, 600), source.Intn(mostTail+1))
	}
}

// zeroSumFour has the HeadSum 0: its Id completes the sum of the other words.
func zeroSumFour(options int) impl.Four {
	f := someFour(options, 3)
	f.Id = 0
	f.Id = expectedHeadSum(f)
	return f
}

func TestChangedFourHeadWithSumZeroIsDetected(t *testing.T) {
	for _, options := range fourOptions() {
		f := zeroSumFour(options)
		if impl.HeadSum(f) != 0 {
			t.Fatalf("%+v: HeadSum %d", f, impl.HeadSum(f))
		}
		checkFourRecovered(t, f)
		checkChangedHeads(t, f, 0, mostTail)
	}
}

// A checksum of 65535 in place of 0 makes the sum of all words right too, but
// it differs from HeadSum.
func TestFourSumIsNotOnlyRight(t *testing.T) {
	for _, options := range fourOptions() {
		data := impl.FourBytes(zeroSumFour(options))
		data[10], data[11] = 255, 255
		if !impl.SumRight(data[:fourStart+options]) {
			t.Fatalf("%x", data)
		}
		checkFourCode(t, data, impl.FourSum)
	}
}

func TestFourReadOfEverySum(t *testing.T) {
	for _, f := range []impl.Four{exampleFour(), someFour(40, 2), zeroSumFour(4)} {
		data := impl.FourBytes(f)
		right := impl.HeadSum(f)
		for sum := range 65536 {
			binary.BigEndian.PutUint16(data[10:], uint16(sum))
			want := impl.FourSum
			if sum == right {
				want = impl.FourOK
			}
			checkFourCode(t, data, want)
		}
	}
}

// The checksum is of the header alone: a change of the Body is not seen.
func TestFourBodyIsNotSummed(t *testing.T) {
	f := someFour(8, 10)
	sum := impl.HeadSum(f)
	data := impl.FourBytes(f)
	for at := range f.Body {
		f.Body[at] ^= 255
		data[fourStart+8+at] ^= 255
		if impl.HeadSum(f) != sum {
			t.Errorf("%+v: HeadSum %d, not %d", f, impl.HeadSum(f), sum)
		}
		checkFourRead(t, f, data, []byte{1, 2})
	}
}

func TestFourBytes(t *testing.T) {
	example := exampleFour()
	known := impl.Four{Flags: 2, Ttl: 64, Proto: 17, Src: impl.Addr{Kind: 4, D: 0xc0a80001}, Dst: impl.Addr{Kind: 4, D: 0xc0a800c7}, Body: sampleBytes(95)}
	full := impl.Four{Dscp: 63, Ecn: 3, Id: 65535, Flags: 7, Frag: 8191, Ttl: 255, Proto: 255, Src: impl.Addr{Kind: 4, D: lastPart}, Dst: impl.Addr{Kind: 4, D: lastPart}}
	mixed := impl.Four{Dscp: 1, Ecn: 1, Id: 0x0203, Flags: 1, Frag: 0x0405, Ttl: 6, Proto: 7, Src: impl.Addr{Kind: 4, D: 0x08090a0b}, Dst: impl.Addr{Kind: 4, D: 0x0c0d0e0f}, Options: []byte{16, 17, 18, 19}, Body: []byte{20, 21}}
	for _, c := range []struct {
		f    impl.Four
		sum  int
		head string
	}{
		{example, 47589, "\x45\x00\x00\x14\x00\x00\x00\x00\x01\x06\xb9\xe5\x00\x00\x00\x00\x00\x00\x00\x00"},
		{known, 0xb861, "\x45\x00\x00\x73\x00\x00\x40\x00\x40\x11\xb8\x61\xc0\xa8\x00\x01\xc0\xa8\x00\xc7"},
		{full, 0xb9ec, "\x45\xff\x00\x14\xff\xff\xff\xff\xff\xff\xb9\xec\xff\xff\xff\xff\xff\xff\xff\xff"},
		{mixed, 0x3f7d, "\x46\x05\x00\x1a\x02\x03\x24\x05\x06\x07\x3f\x7d\x08\x09\x0a\x0b\x0c\x0d\x0e\x0f\x10\x11\x12\x13"},
	} {
		if sum := impl.HeadSum(c.f); sum != c.sum {
			t.Errorf("%+v: HeadSum %x", c.f, sum)
		}
		want := append([]byte(c.head), c.f.Body...)
		if data := impl.FourBytes(c.f); !bytes.Equal(data, want) {
			t.Errorf("%+v: %x", c.f, data)
		}
		checkFourRead(t, c.f, want, []byte{9})
	}
}

func TestFourFieldsOutsideTheirRanges(t *testing.T) {
	for _, field := range fourFields() {
		numbers := []int{-1, -2, -field.most, -field.most - 1, field.most + 1, field.most + 2, 2*field.most + 1, 1 << 32, 1<<32 + 1, math.MaxInt, math.MinInt}
		for _, n := range numbers {
			for _, options := range fourOptions() {
				f := someFour(options, 6)
				field.set(&f, n)
				checkFourInvalid(t, f)
			}
		}
	}
}

func TestFourWithOtherAddresses(t *testing.T) {
	list := append(badAddrs(), impl.Addr{})
	for _, a := range sampleAddrs() {
		if a.Kind == 6 {
			list = append(list, a)
		}
	}
	for _, a := range list {
		f := someFour(0, 1)
		f.Src = a
		checkFourInvalid(t, f)
		f.Dst = a
		checkFourInvalid(t, f)
		f.Src = impl.Addr{Kind: 4}
		checkFourInvalid(t, f)
	}
}

// The lengths 1, 2, 3, 5, 41 and 44 are among those that are refused.
func TestFourOptionsLengths(t *testing.T) {
	for size := range 70 {
		f := someFour(size, 4)
		if size <= 40 && size%4 == 0 {
			checkFourRecovered(t, f)
		} else {
			checkFourInvalid(t, f)
		}
	}
	checkFourInvalid(t, someFour(256, 0))
	checkFourInvalid(t, someFour(65536, 0))
}

// The longest Body without Options is too long beside them.
func TestFourLongestBody(t *testing.T) {
	for _, options := range fourOptions() {
		most := impl.MaxInner - fourStart - options
		f := someFour(options, most)
		checkFourRecovered(t, f)
		if data := impl.FourBytes(f); len(data) != impl.MaxInner {
			t.Errorf("%d bytes with %d bytes of Options", len(data), options)
		}
		for _, size := range []int{most + 1, most + 2, impl.MaxInner - fourStart + 1, impl.MaxInner, impl.MaxFrame, 65536 - fourStart, 70000} {
			checkFourInvalid(t, someFour(options, size))
		}
	}
}

func TestFourWithSeveralFaults(t *testing.T) {
	checkFourInvalid(t, impl.Four{})
	checkFourInvalid(t, impl.Four{Dscp: -1, Ecn: -1, Id: -1, Flags: -1, Frag: -1, Ttl: -1, Proto: -1, Options: sampleBytes(41), Body: sampleBytes(impl.MaxInner)})
	f := someFour(44, impl.MaxInner)
	f.Ttl = 256
	f.Src.Kind = 6
	checkFourInvalid(t, f)
}

func TestFourReadOfEverySize(t *testing.T) {
	checkFourCode(t, nil, impl.FourShort)
	checkFourCode(t, []byte{}, impl.FourShort)
	for _, f := range []impl.Four{exampleFour(), someFour(0, 30), someFour(40, 0), someFour(40, 700), someFour(4, impl.MaxInner-fourStart-4)} {
		packet := impl.FourBytes(f)
		data := append(bytes.Clone(packet), sampleBytes(impl.MaxFrame+40-len(packet))...)
		for size := range data {
			want := expectedFourCode(data[:size])
			checkFourCode(t, data[:size], want)
			if (want == impl.FourOK) != (size >= len(packet) && size <= impl.MaxFrame) {
				t.Fatalf("%d bytes of a packet of %d: %d expected", size, len(packet), want)
			}
		}
	}
}

func TestFourReadLimits(t *testing.T) {
	example := impl.FourBytes(exampleFour())
	checkFourCode(t, example, impl.FourOK)
	checkFourCode(t, example[:19], impl.FourShort)
	longest := impl.FourBytes(someFour(40, impl.MaxInner-fourStart-40))
	checkFourCode(t, longest, impl.FourOK)
	checkFourCode(t, longest[:impl.MaxInner-1], impl.FourTotal)
	for _, packet := range [][]byte{example, longest} {
		tail := impl.MaxFrame - len(packet)
		checkFourCode(t, append(bytes.Clone(packet), sampleBytes(tail)...), impl.FourOK)
		checkFourCode(t, append(bytes.Clone(packet), sampleBytes(tail+1)...), impl.FourLong)
	}
}

func TestFourReadOfEveryFirstByte(t *testing.T) {
	for _, size := range []int{20, 21, 23, 24, 27, 28, 55, 56, 57, 59, 60, 61, impl.MaxFrame} {
		for first := range 256 {
			data := withTotal(append(impl.FourBytes(exampleFour()), sampleBytes(size-20)...), min(size, impl.MaxInner))
			data = resummed(withByte(data, 0, byte(first)))
			want := impl.FourOK
			if first/16 != 4 {
				want = impl.FourVersion
			} else if words := first % 16; words < 5 || 4*words > size {
				want = impl.FourHead
			}
			checkFourCode(t, data, want)
		}
	}
}

func TestFourReadOfEveryTotal(t *testing.T) {
	for _, options := range []int{0, 4, 40} {
		for _, size := range []int{fourStart + options, 61, 300, impl.MaxInner - 1, impl.MaxInner, impl.MaxInner + 1, impl.MaxFrame} {
			data := append(impl.FourBytes(someFour(options, 0)), sampleBytes(size-fourStart-options)...)
			check := func(total int) {
				want := impl.FourOK
				if total < fourStart+options || total > impl.MaxInner || total > size {
					want = impl.FourTotal
				}
				checkFourCode(t, resummed(withTotal(data, total)), want)
			}
			for total := range impl.MaxFrame + 300 {
				check(total)
			}
			for _, total := range []int{4096, 32767, 32768, 65280, 65535} {
				check(total)
			}
		}
	}
}

// Each error with all the later ones beside it: the sum is wrong throughout.
func TestFourReadFirstErrorCounts(t *testing.T) {
	start := withByte(impl.FourBytes(exampleFour()), 10, 7)
	version := withByte(start, 0, 0x65)
	versionHead := withByte(start, 0, 0x34)
	head := withByte(start, 0, 0x44)
	headBeyond := withByte(start, 0, 0x46)
	long := sampleBytes(impl.MaxFrame + 1 - fourStart)
	for _, c := range []struct {
		data []byte
		want int
	}{
		{append(bytes.Clone(start), long...), impl.FourLong},
		{append(bytes.Clone(version), long...), impl.FourLong},
		{append(withTotal(versionHead, 0), long...), impl.FourLong},
		{append(withTotal(head, 65535), long...), impl.FourLong},
		{append(withTotal(start, impl.MaxFrame+1), long...), impl.FourLong},
		{make([]byte, impl.MaxFrame+1), impl.FourLong},
		{nil, impl.FourShort},
		{make([]byte, 19), impl.FourShort},
		{start[:19], impl.FourShort},
		{version[:19], impl.FourShort},
		{withTotal(versionHead, 0)[:19], impl.FourShort},
		{headBeyond[:1], impl.FourShort},
		{make([]byte, 20), impl.FourVersion},
		{version, impl.FourVersion},
		{versionHead, impl.FourVersion},
		{withTotal(version, 0), impl.FourVersion},
		{withTotal(versionHead, 65535), impl.FourVersion},
		{withByte(withTotal(start, 19), 0, 0x5f), impl.FourVersion},
		{head, impl.FourHead},
		{headBeyond, impl.FourHead},
		{withTotal(head, 0), impl.FourHead},
		{withTotal(head, 16), impl.FourHead},
		{withTotal(headBeyond, 65535), impl.FourHead},
		{withTotal(headBeyond, 23), impl.FourHead},
		{withTotal(start, 19), impl.FourTotal},
		{withTotal(start, 21), impl.FourTotal},
		{withTotal(start, impl.MaxInner+1), impl.FourTotal},
		{append(withTotal(start, impl.MaxInner+1), sampleBytes(impl.MaxInner)...), impl.FourTotal},
		{append(withTotal(headBeyond, 23), sampleBytes(4)...), impl.FourTotal},
		{start, impl.FourSum},
		{append(withTotal(start, 21), 0), impl.FourSum},
		{append(withTotal(headBeyond, 24), sampleBytes(4)...), impl.FourSum},
	} {
		checkFourCode(t, c.data, c.want)
		if want := expectedFourCode(c.data); want != c.want {
			t.Errorf("%d bytes: %d expected, not %d", len(c.data), want, c.want)
		}
	}
}

// Most of the data have a first byte, a length and a checksum that may be
// right, or no code but the first ones would be seen.
func TestFourReadOfRandomBytes(t *testing.T) {
	source := rand.New(rand.NewSource(53))
	seen := map[int]int{}
	for range 40000 {
		data := make([]byte, source.Intn(100))
		source.Read(data)
		if len(data) >= fourStart && source.Intn(8) != 0 {
			data[0] = byte(0x40 + 4 + source.Intn(12))
			data = withTotal(data, len(data)-20+source.Intn(22))
		}
		if source.Intn(4) != 0 {
			data = resummed(data)
		}
		want := expectedFourCode(data)
		seen[want]++
		checkFourCode(t, data, want)
	}
	for _, code := range []int{impl.FourOK, impl.FourShort, impl.FourVersion, impl.FourHead, impl.FourTotal, impl.FourSum} {
		if seen[code] < 100 {
			t.Errorf("code %d was seen %d times", code, seen[code])
		}
	}
}

func TestFourPiece(t *testing.T) {
	for flags := range 8 {
		for _, frag := range []int{0, 1, 2, 4096, 8191} {
			f := exampleFour()
			f.Flags, f.Frag = flags, frag
			want := frag != 0 || flags == 1 || flags == 3 || flags == 5 || flags == 7
			if got := impl.FourPiece(f); got != want {
				t.Errorf("Flags %d, Frag %d: %t", flags, frag, got)
			}
			f.Proto = 256
			if impl.FourPiece(f) {
				t.Errorf("Flags %d, Frag %d: an invalid packet is a fragment", flags, frag)
			}
		}
	}
	for _, c := range []struct{ flags, frag int }{{-1, 0}, {9, 0}, {8, 1}, {1, -1}, {0, -1}, {0, 8192}, {1, 8192}} {
		f := exampleFour()
		f.Flags, f.Frag = c.flags, c.frag
		checkFourInvalid(t, f)
	}
}

// What lies behind the length of a slice is neither read nor changed.
func TestFourIgnoresSpareCapacity(t *testing.T) {
	options := []byte{1, 2, 3, 4, 5, 6, 7, 8}
	body := []byte{9, 10, 11, 12}
	f := exampleFour()
	f.Options, f.Body = options[:4], body[:2]
	data := impl.FourBytes(f)
	if len(data) != 26 || string(data[20:]) != "\x01\x02\x03\x04\x09\x0a" {
		t.Errorf("%x", data)
	}
	impl.HeadSum(f)
	if string(options) != "\x01\x02\x03\x04\x05\x06\x07\x08" || string(body) != "\x09\x0a\x0b\x0c" {
		t.Errorf("%x %x", options, body)
	}
	whole := append(bytes.Clone(data), 7, 8, 9)
	before := bytes.Clone(whole)
	checkFourCode(t, whole[:19], impl.FourShort)
	checkFourCode(t, whole[:23], impl.FourHead)
	checkFourCode(t, whole[:25], impl.FourTotal)
	if back, rest, code := impl.FourRead(whole[:27]); code != impl.FourOK || !sameFour(back, f) || string(rest) != "\x07" {
		t.Error(back, rest, code)
	}
	if !bytes.Equal(whole, before) {
		t.Errorf("%x", whole)
	}
}

func fill(data []byte, b byte) {
	for i := range data {
		data[i] = b
	}
}

func TestFourResultsAreNew(t *testing.T) {
	want := someFour(8, 5)
	data := impl.FourBytes(want)
	whole := append(bytes.Clone(data), 7, 8, 9)
	f, rest, _ := impl.FourRead(whole)
	again := impl.FourBytes(f)
	fill(whole, 99)
	if !sameFour(f, want) || string(rest) != "\x07\x08\x09" {
		t.Error("what was read changes with the data")
	}
	fill(f.Options[:cap(f.Options)], 98)
	if !bytes.Equal(f.Body, want.Body) || string(rest) != "\x07\x08\x09" {
		t.Error("the Body or the rest changes with the Options")
	}
	fill(f.Body[:cap(f.Body)], 97)
	if string(rest) != "\x07\x08\x09" || f.Options[0] != 98 {
		t.Error("the rest or the Options change with the Body")
	}
	fill(rest[:cap(rest)], 96)
	if f.Options[7] != 98 || f.Body[4] != 97 {
		t.Error("the Options or the Body change with the rest")
	}
	if !bytes.Equal(again, data) {
		t.Error("the bytes change with the Options or the Body")
	}
	fill(again[:cap(again)], 95)
	if f.Options[0] != 98 || f.Body[0] != 97 || !bytes.Equal(data, impl.FourBytes(want)) {
		t.Error("the packet or another result changes with the bytes")
	}
}
