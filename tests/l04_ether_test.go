package tests

import (
	"bytes"
	"encoding/binary"
	"math"
	"math/rand"
	"testing"

	"loop.example/g00655/impl"
)

const plainSize = 14

const taggedSize = 18

const vlan = 33024

func edgeMacs() []int {
	return []int{0, 1, 65535, 65536, 1<<32 - 1, 1 << 32, 0x010203040506, 0xfedcba987654, 1 << 47, impl.MaxMac - 1, impl.MaxMac}
}

func noMacs() []int {
	return []int{-1, -2, -impl.MaxMac, -impl.MaxMac - 1, impl.MaxMac + 1, impl.MaxMac + 2, 2 * impl.MaxMac, math.MaxInt, math.MinInt}
}

// edgeTags holds 33024 too: as a Tag, that number says nothing.
func edgeTags() []int {
	return []int{-1, 0, 1, 5, 255, 256, 1535, 4095, 4096, 8191, 8192, 33023, vlan, 33025, 65534, 65535}
}

func noTags() []int {
	return []int{-2, -3, -65535, -65536, 65536, 65537, 1 << 32, math.MaxInt, math.MinInt}
}

func edgeKinds() []int {
	return []int{1536, 1537, 2048, 33023, 33025, 34525, 65534, 65535}
}

func noEtherKinds() []int {
	return []int{-1, -1536, -33024, 0, 1, 255, 1534, 1535, vlan, 65536, 65537, 65536 + 2048, 1 << 32, math.MaxInt, math.MinInt}
}

func headSize(tag int) int {
	if tag == -1 {
		return plainSize
	}
	return taggedSize
}

// edgeSizes holds lengths of a Body, up to the longest one beside that Tag.
func edgeSizes(tag int) []int {
	most := impl.MaxFrame - headSize(tag)
	return []int{0, 1, 2, 3, 4, 46, 1500, most - 1, most}
}

func someEther() impl.Ether {
	return impl.Ether{Dst: 1, Src: 2, Tag: -1, Kind: 2048, Body: []byte{9}}
}

func sameEther(a impl.Ether, b impl.Ether) bool {
	return a.Dst == b.Dst && a.Src == b.Src && a.Tag == b.Tag && a.Kind == b.Kind && bytes.Equal(a.Body, b.Body)
}

func noEther(e impl.Ether) bool { return sameEther(e, impl.Ether{}) }

// frameOf is a second encoder. It checks nothing, so it also makes frames that
// EtherBytes refuses.
func frameOf(dst int, src int, words []int, body []byte) []byte {
	data := binary.BigEndian.AppendUint64(nil, uint64(dst))[2:]
	data = append(data, binary.BigEndian.AppendUint64(nil, uint64(src))[2:]...)
	for _, word := range words {
		data = binary.BigEndian.AppendUint16(data, uint16(word))
	}
	return append(data, body...)
}

func expectedFrame(e impl.Ether) []byte {
	if e.Tag == -1 {
		return frameOf(e.Dst, e.Src, []int{e.Kind}, e.Body)
	}
	return frameOf(e.Dst, e.Src, []int{vlan, e.Tag, e.Kind}, e.Body)
}

// expectedCode states the chapter's errors one by one, in its order.
func expectedCode(data []byte) int {
	if len(data) > impl.MaxFrame {
		return impl.EtherLong
	}
	if len(data) < plainSize {
		return impl.EtherShort
	}
	kind := int(binary.BigEndian.Uint16(data[12:]))
	if kind == vlan && len(data) < taggedSize {
		return impl.EtherTag
	}
	if kind < 1536 {
		return impl.EtherKind
	}
	if kind != vlan {
		return impl.EtherOK
	}
	if kind = int(binary.BigEndian.Uint16(data[16:])); kind < 1536 || kind == vlan {
		return impl.EtherKind
	}
	return impl.EtherOK
}

// checkCode also holds that an error comes with the zero value, and that
// encoding what was read returns the data.
func checkCode(t *testing.T, data []byte, want int) {
	t.Helper()
	e, code := impl.EtherRead(data)
	head := data[:min(len(data), 20)]
	if code != want {
		t.Fatalf("%d bytes, %x: code %d, not %d", len(data), head, code, want)
	}
	if code != impl.EtherOK && !noEther(e) {
		t.Fatalf("%d bytes, %x: code %d, %+v", len(data), head, code, e)
	}
	if code == impl.EtherOK && !bytes.Equal(impl.EtherBytes(e), data) {
		t.Fatalf("%d bytes, %x: read as %+v", len(data), head, e)
	}
}

// P5
func checkRecovered(t *testing.T, e impl.Ether) {
	t.Helper()
	if !impl.EtherOk(e) {
		t.Fatalf("not valid: Dst %d, Src %d, Tag %d, Kind %d, %d bytes", e.Dst, e.Src, e.Tag, e.Kind, len(e.Body))
	}
	data := impl.EtherBytes(e)
	if want := expectedFrame(e); !bytes.Equal(data, want) {
		t.Fatalf("Dst %d, Src %d, Tag %d, Kind %d, %d bytes: %x", e.Dst, e.Src, e.Tag, e.Kind, len(e.Body), data)
	}
	back, code := impl.EtherRead(data)
	if code != impl.EtherOK || !sameEther(back, e) {
		t.Fatalf("Dst %d, Src %d, Tag %d, Kind %d, %d bytes: code %d, %+v", e.Dst, e.Src, e.Tag, e.Kind, len(e.Body), code, back)
	}
}

func checkInvalid(t *testing.T, e impl.Ether) {
	t.Helper()
	if impl.EtherOk(e) {
		t.Errorf("valid: Dst %d, Src %d, Tag %d, Kind %d, %d bytes", e.Dst, e.Src, e.Tag, e.Kind, len(e.Body))
	}
	if data := impl.EtherBytes(e); data != nil {
		t.Errorf("Dst %d, Src %d, Tag %d, Kind %d, %d bytes: encoded in %d bytes", e.Dst, e.Src, e.Tag, e.Kind, len(e.Body), len(data))
	}
}

func TestEtherIsRecovered(t *testing.T) {
	for _, tag := range edgeTags() {
		for _, kind := range edgeKinds() {
			for _, size := range edgeSizes(tag) {
				checkRecovered(t, impl.Ether{Dst: 0x010203040506, Src: 0xa1a2a3a4a5a6, Tag: tag, Kind: kind, Body: sampleBytes(size)})
			}
		}
	}
	for _, dst := range edgeMacs() {
		for _, src := range edgeMacs() {
			for _, tag := range []int{-1, 0, 65535} {
				checkRecovered(t, impl.Ether{Dst: dst, Src: src, Tag: tag, Kind: 2048, Body: sampleBytes(46)})
			}
		}
	}
}

func TestEtherOfEveryKindAndTagIsRecovered(t *testing.T) {
	for n := range 65536 {
		checkRecovered(t, impl.Ether{Dst: n, Src: impl.MaxMac - n, Tag: n, Kind: 2048, Body: []byte{1}})
		if n >= 1536 && n != vlan {
			checkRecovered(t, impl.Ether{Dst: n << 16, Src: n << 32, Tag: -1, Kind: n})
			checkRecovered(t, impl.Ether{Dst: n << 16, Src: n << 32, Tag: 7, Kind: n})
		}
	}
}

func TestRandomEtherIsRecovered(t *testing.T) {
	source := rand.New(rand.NewSource(41))
	for range 5000 {
		tag := source.Intn(65536)
		if source.Intn(2) == 0 {
			tag = -1
		}
		body := make([]byte, source.Intn(impl.MaxFrame-headSize(tag)+1))
		source.Read(body)
		e := impl.Ether{Dst: source.Intn(impl.MaxMac + 1), Src: source.Intn(impl.MaxMac + 1), Tag: tag, Kind: 1536 + source.Intn(31488), Body: body}
		checkRecovered(t, e)
	}
}

// A Body may look like a tag or like a whole frame: only its place counts.
func TestEtherBodyLikeAHeadIsRecovered(t *testing.T) {
	inner := impl.EtherBytes(impl.Ether{Dst: 3, Src: 4, Tag: 5, Kind: 2048})
	for _, tag := range []int{-1, 0, vlan} {
		for _, body := range [][]byte{{0x81, 0}, {0x81, 0, 0, 5, 8, 0}, {0, 0}, {5, 255}, inner} {
			checkRecovered(t, impl.Ether{Dst: 1, Src: 2, Tag: tag, Kind: 34525, Body: body})
		}
	}
}

func TestEtherBytes(t *testing.T) {
	for _, c := range []struct {
		e    impl.Ether
		want string
	}{
		{impl.Ether{Tag: -1, Kind: 1536}, "\x00\x00\x00\x00\x00\x00\x00\x00\x00\x00\x00\x00\x06\x00"},
		{impl.Ether{Tag: 0, Kind: 1536}, "\x00\x00\x00\x00\x00\x00\x00\x00\x00\x00\x00\x00\x81\x00\x00\x00\x06\x00"},
		{someEther(), "\x00\x00\x00\x00\x00\x01\x00\x00\x00\x00\x00\x02\x08\x00\x09"},
		{impl.Ether{Dst: 1, Src: 2, Tag: 5, Kind: 2048, Body: []byte{9}}, "\x00\x00\x00\x00\x00\x01\x00\x00\x00\x00\x00\x02\x81\x00\x00\x05\x08\x00\x09"},
		{impl.Ether{Dst: 0x010203040506, Src: 0x0708090a0b0c, Tag: 0x0d0e, Kind: 0x0f10, Body: []byte{0x11, 0x12}}, "\x01\x02\x03\x04\x05\x06\x07\x08\x09\x0a\x0b\x0c\x81\x00\x0d\x0e\x0f\x10\x11\x12"},
		{impl.Ether{Dst: impl.MaxMac, Src: impl.MaxMac, Tag: 65535, Kind: 65535}, "\xff\xff\xff\xff\xff\xff\xff\xff\xff\xff\xff\xff\x81\x00\xff\xff\xff\xff"},
	} {
		if got := string(impl.EtherBytes(c.e)); got != c.want {
			t.Errorf("%+v: %x", c.e, got)
		}
		if back, code := impl.EtherRead([]byte(c.want)); code != impl.EtherOK || !sameEther(back, c.e) {
			t.Errorf("%x: code %d, %+v", c.want, code, back)
		}
	}
}

func TestEtherOutsideItsRanges(t *testing.T) {
	for _, tag := range []int{-1, 0, 5} {
		change := func(changed func(e *impl.Ether, n int), numbers []int) {
			for _, n := range numbers {
				e := someEther()
				e.Tag = tag
				changed(&e, n)
				checkInvalid(t, e)
			}
		}
		change(func(e *impl.Ether, n int) { e.Dst = n }, noMacs())
		change(func(e *impl.Ether, n int) { e.Src = n }, noMacs())
		change(func(e *impl.Ether, n int) { e.Tag = n }, noTags())
		change(func(e *impl.Ether, n int) { e.Kind = n }, noEtherKinds())
		most := impl.MaxFrame - headSize(tag)
		change(func(e *impl.Ether, n int) { e.Body = sampleBytes(n) }, []int{most + 1, most + 2, impl.MaxFrame, impl.MaxFrame + 1, 70000})
	}
}

func TestEtherWithSeveralFaults(t *testing.T) {
	checkInvalid(t, impl.Ether{})
	checkInvalid(t, impl.Ether{Dst: -1, Src: -1, Tag: -2, Kind: -1, Body: sampleBytes(impl.MaxFrame)})
	checkInvalid(t, impl.Ether{Dst: impl.MaxMac + 1, Src: -1, Tag: -1, Kind: 2048})
	checkInvalid(t, impl.Ether{Dst: 1, Src: 2, Tag: 65536, Kind: vlan})
}

// The longest Body without a Tag is four bytes too long beside one.
func TestEtherLongestBody(t *testing.T) {
	for size := impl.MaxFrame - taggedSize - 2; size <= impl.MaxFrame-plainSize+2; size++ {
		for _, tag := range []int{-1, 0, 65535} {
			e := someEther()
			e.Tag = tag
			e.Body = sampleBytes(size)
			if size <= impl.MaxFrame-headSize(tag) {
				checkRecovered(t, e)
			} else {
				checkInvalid(t, e)
			}
		}
	}
}

func TestEtherReadCodes(t *testing.T) {
	tail := func(size int) []byte { return bytes.Repeat([]byte{0}, size) }
	for _, c := range []struct {
		words []int
		body  []byte
		want  int
	}{
		{nil, nil, impl.EtherShort},
		{nil, []byte{8}, impl.EtherShort},
		{nil, []byte{0x81}, impl.EtherShort},
		{[]int{2048}, nil, impl.EtherOK},
		{[]int{1536}, nil, impl.EtherOK},
		{[]int{1535}, nil, impl.EtherKind},
		{[]int{0}, nil, impl.EtherKind},
		{[]int{33023}, nil, impl.EtherOK},
		{[]int{33025}, nil, impl.EtherOK},
		{[]int{65535}, nil, impl.EtherOK},
		{[]int{1535}, tail(impl.MaxFrame - 14), impl.EtherKind},
		{[]int{vlan}, nil, impl.EtherTag},
		{[]int{vlan}, []byte{0}, impl.EtherTag},
		{[]int{vlan, 5}, nil, impl.EtherTag},
		{[]int{vlan, 5}, []byte{8}, impl.EtherTag},
		{[]int{vlan, 5, 2048}, nil, impl.EtherOK},
		{[]int{vlan, 5, 1536}, nil, impl.EtherOK},
		{[]int{vlan, 5, 1535}, nil, impl.EtherKind},
		{[]int{vlan, 5, 0}, nil, impl.EtherKind},
		{[]int{vlan, 5, vlan}, nil, impl.EtherKind},
		{[]int{vlan, 5, vlan, 6, 2048}, nil, impl.EtherKind},
		{[]int{vlan, 5, 33023}, nil, impl.EtherOK},
		{[]int{vlan, 5, 33025}, nil, impl.EtherOK},
		{[]int{vlan, vlan, 2048}, nil, impl.EtherOK},
		{[]int{vlan, 0, 2048}, nil, impl.EtherOK},
		{[]int{2048, vlan, 0}, nil, impl.EtherOK},
		{[]int{2048}, tail(impl.MaxFrame - 14), impl.EtherOK},
		{[]int{2048}, tail(impl.MaxFrame - 13), impl.EtherLong},
		{[]int{vlan, 5, 2048}, tail(impl.MaxFrame - 18), impl.EtherOK},
		{[]int{vlan, 5, 2048}, tail(impl.MaxFrame - 17), impl.EtherLong},
		// several errors at once: too long and of a wrong Kind, and a tag cut
		// off before or within a Kind that would be wrong
		{[]int{1535}, tail(impl.MaxFrame - 13), impl.EtherLong},
		{[]int{vlan, 5, 1535}, tail(impl.MaxFrame - 17), impl.EtherLong},
		{[]int{vlan, 5, vlan}, tail(impl.MaxFrame - 17), impl.EtherLong},
		{nil, []byte{0}, impl.EtherShort},
		{[]int{vlan, 0}, []byte{0}, impl.EtherTag},
		{[]int{vlan, vlan}, nil, impl.EtherTag},
		{[]int{vlan, vlan}, []byte{0x81}, impl.EtherTag},
	} {
		data := frameOf(1, 2, c.words, c.body)
		checkCode(t, data, c.want)
		if want := expectedCode(data); want != c.want {
			t.Errorf("%v and %d bytes: %d expected", c.words, len(c.body), want)
		}
	}
}

func TestEtherReadOfEverySize(t *testing.T) {
	checkCode(t, nil, impl.EtherShort)
	whole := impl.MaxFrame + 40
	for _, words := range [][]int{{0}, {1535}, {2048}, {vlan, 0, 0}, {vlan, 5, 1535}, {vlan, 5, 2048}, {vlan, 5, vlan}, {65535}} {
		data := frameOf(impl.MaxMac, 0, words, sampleBytes(whole))
		for size := range whole {
			checkCode(t, data[:size], expectedCode(data[:size]))
		}
	}
}

func TestEtherReadOfEveryKind(t *testing.T) {
	for kind := range 65536 {
		for _, words := range [][]int{{kind}, {kind, 5}, {kind, 5, 2048}, {vlan, kind}, {vlan, 5, kind}, {vlan, kind, kind}} {
			data := frameOf(1, 2, words, nil)
			checkCode(t, data, expectedCode(data))
		}
	}
}

func TestEtherReadOfRandomBytes(t *testing.T) {
	source := rand.New(rand.NewSource(42))
	for range 20000 {
		data := make([]byte, source.Intn(40))
		source.Read(data)
		if len(data) > 13 && source.Intn(2) == 0 {
			data[12], data[13] = 0x81, 0
		}
		checkCode(t, data, expectedCode(data))
	}
}

// What lies behind the length of a slice is neither read nor changed.
func TestEtherIgnoresSpareCapacity(t *testing.T) {
	frame := frameOf(1, 2, []int{vlan, 5, 2048}, []byte{7, 8, 9})
	before := bytes.Clone(frame)
	checkCode(t, frame[:13], impl.EtherShort)
	checkCode(t, frame[:17], impl.EtherTag)
	e, code := impl.EtherRead(frame[:19])
	if code != impl.EtherOK || string(e.Body) != "\x07" {
		t.Error(code, e)
	}
	body := []byte{1, 2, 3, 4}
	e.Body = body[:2]
	if data := impl.EtherBytes(e); string(data[18:]) != "\x01\x02" {
		t.Errorf("%x", data)
	}
	if !bytes.Equal(frame, before) || string(body) != "\x01\x02\x03\x04" {
		t.Errorf("%x %x", frame, body)
	}
}

func TestEtherResultsAreNew(t *testing.T) {
	frame := frameOf(1, 2, []int{2048}, []byte{7, 8, 9})
	e, _ := impl.EtherRead(frame)
	data := impl.EtherBytes(e)
	again := impl.EtherBytes(e)
	for i := range frame {
		frame[i] = 99
	}
	if string(e.Body) != "\x07\x08\x09" {
		t.Error("the Body read changes with the data")
	}
	for i := range e.Body {
		e.Body[i] = 98
	}
	if string(data[14:]) != "\x07\x08\x09" {
		t.Error("the bytes change with the Body")
	}
	for i := range data {
		data[i] = 97
	}
	if e.Body[0] != 98 || !bytes.Equal(again, frameOf(1, 2, []int{2048}, []byte{7, 8, 9})) {
		t.Error("the Body or another result changes with the bytes")
	}
}

func TestTagParts(t *testing.T) {
	for _, c := range []struct{ tag, id, priority int }{
		{0, 0, 0}, {1, 1, 0}, {4095, 4095, 0}, {4096, 0, 0}, {8191, 4095, 0}, {8192, 0, 1}, {8193, 1, 1},
		{8192*5 + 4095, 4095, 5}, {57343, 4095, 6}, {57344, 0, 7}, {61440, 0, 7}, {65534, 4094, 7}, {65535, 4095, 7},
		{-1, -1, -1}, {65536, -1, -1},
	} {
		if id, priority := impl.TagParts(c.tag); id != c.id || priority != c.priority {
			t.Errorf("TagParts(%d): %d %d", c.tag, id, priority)
		}
	}
	for _, tag := range noWords() {
		if id, priority := impl.TagParts(tag); id != -1 || priority != -1 {
			t.Errorf("TagParts(%d): %d %d", tag, id, priority)
		}
	}
}

// Identifier, priority and the one bit between them make up the tag.
func TestTagPartsOfEveryTag(t *testing.T) {
	for priority := range 8 {
		for between := range 2 {
			for id := range 4096 {
				tag := priority<<13 | between<<12 | id
				if gotId, gotPriority := impl.TagParts(tag); gotId != id || gotPriority != priority {
					t.Fatalf("TagParts(%d): %d %d", tag, gotId, gotPriority)
				}
			}
		}
	}
}
