package tests

import (
	"bytes"
	"fmt"
	"math"
	"math/rand"
	"slices"
	"testing"

	"loop.example/g00655/impl"
)

const fourEther = 2048

const sixEther = 34525

func etherFor(ver int) int { return map[int]int{4: fourEther, 6: sixEther}[ver] }

func samePacket(a impl.Packet, b impl.Packet) bool {
	return a.Ver == b.Ver && sameEther(a.Ether, b.Ether) && sameFour(a.Four, b.Four) && sameSix(a.Six, b.Six) &&
		sameUpper(a.Upper, b.Upper) && bytes.Equal(a.Pad, b.Pad)
}

func noPacket(p impl.Packet) bool { return samePacket(p, impl.Packet{}) }

// packetProtos are the protocol numbers of that kind that a packet may have:
// those of extension headers are none over IPv6.
func packetProtos(kind int, ver int) []int {
	return slices.DeleteFunc(protosOf(kind, ver), func(n int) bool { return ver == 6 && isExtKind(n) })
}

// packetAround is a packet that is valid if u fits proto; for Ver 4 it is not a
// fragment.
func packetAround(ver int, proto int, u impl.Upper) impl.Packet {
	p := impl.Packet{Ver: ver, Upper: u}
	p.Ether = impl.Ether{Dst: 0x010203040506, Src: 0xa1a2a3a4a5a6, Tag: -1, Kind: etherFor(ver)}
	if ver == 4 {
		p.Four = someFour(0, 0)
		p.Four.Flags, p.Four.Frag, p.Four.Proto = 2, 0, proto
	} else {
		p.Six = someSix(0)
		p.Six.Proto = proto
	}
	return p
}

func somePacket(ver int, kind int) impl.Packet {
	return packetAround(ver, packetProtos(kind, ver)[0], someUpper(kind, 0, 5))
}

// eachPacket calls check with a packet of each Ver and kind.
func eachPacket(check func(p impl.Packet)) {
	for _, ver := range bothKinds() {
		for _, kind := range upperKinds() {
			check(somePacket(ver, kind))
		}
	}
}

// piecePacket is a fragment with that Body.
func piecePacket(flags int, frag int, proto int, body []byte) impl.Packet {
	p := packetAround(4, proto, impl.Upper{Body: body})
	p.Four.Flags, p.Four.Frag = flags, frag
	return p
}

// emptyDatagram is the chapter's example.
func emptyDatagram(ver int) impl.Packet {
	p := impl.Packet{Ver: ver, Ether: impl.Ether{Dst: 1, Src: 2, Tag: -1, Kind: etherFor(ver)}}
	p.Upper = impl.Upper{Kind: impl.UpUdp, SPort: 1, DPort: 2}
	if ver == 4 {
		p.Four = impl.Four{Ttl: 1, Proto: 17, Src: impl.Addr{Kind: 4}, Dst: impl.Addr{Kind: 4}}
	} else {
		p.Six = impl.Six{Hops: 1, Proto: 17, Src: impl.Addr{Kind: 6}, Dst: impl.Addr{Kind: 6}}
	}
	return p
}

// expectedKey has ports only where Upper has them.
func expectedKey(p impl.Packet) impl.Key {
	k := impl.Key{Src: p.Four.Src, Dst: p.Four.Dst, Proto: p.Four.Proto}
	if p.Ver == 6 {
		k = impl.Key{Src: p.Six.Src, Dst: p.Six.Dst, Proto: p.Six.Proto}
	}
	if p.Upper.Kind == impl.UpTcp || p.Upper.Kind == impl.UpUdp {
		k.SPort, k.DPort = p.Upper.SPort, p.Upper.DPort
	}
	return k
}

// expectedPacket is a second encoder. It checks nothing, so it also makes
// frames that PacketBytes refuses.
func expectedPacket(p impl.Packet) []byte {
	k := expectedKey(p)
	inner := expectedUpper(p.Upper, expectedUpperSum(p.Upper, pair{k.Src, k.Dst}))
	e := p.Ether
	if p.Ver == 4 {
		f := p.Four
		f.Body = inner
		e.Body = joined(expectedFour(f), p.Pad)
	} else {
		s := p.Six
		s.Body = inner
		e.Body = joined(expectedSix(s), p.Pad)
	}
	return expectedFrame(e)
}

// expectedPacketCode states the chapter's errors one by one, in its order.
func expectedPacketCode(data []byte) int {
	if code := expectedCode(data); code != 0 {
		return 10 + code
	}
	kind, body := wordAt(data, 6), data[plainSize:]
	if kind == vlan {
		kind, body = wordAt(data, 8), data[taggedSize:]
	}
	switch kind {
	case fourEther:
		return expectedInFour(body)
	case sixEther:
		return expectedInSix(body)
	}
	return impl.PacketKind
}

func expectedInFour(data []byte) int {
	if code := expectedFourCode(data); code != 0 {
		return 20 + code
	}
	part := wordAt(data, 3)
	if part%8192 != 0 || part/8192%2 == 1 {
		return 0
	}
	src, _ := impl.AddrOf(data[12:16])
	dst, _ := impl.AddrOf(data[16:20])
	body := data[4*int(data[0]%16) : wordAt(data, 1)]
	return expectedAbove(expectedUpperCode(body, int(data[9]), pair{src, dst}))
}

func expectedInSix(data []byte) int {
	if code := expectedSixCode(data); code != 0 {
		return 30 + code
	}
	src, _ := impl.AddrOf(data[8:24])
	dst, _ := impl.AddrOf(data[24:40])
	proto, body := int(data[6]), data[40:40+wordAt(data, 2)]
	for isExtKind(proto) {
		proto, body = int(body[0]), body[8+8*int(body[1]):]
	}
	return expectedAbove(expectedUpperCode(body, proto, pair{src, dst}))
}

func expectedAbove(code int) int {
	if code == 0 {
		return 0
	}
	return 40 + code
}

// checkPacketCode also holds that an error comes with the zero value, and that
// what was read is valid and, P9, is encoded as the frame.
func checkPacketCode(t *testing.T, data []byte, want int) impl.Packet {
	t.Helper()
	p, code := impl.PacketRead(data)
	head := data[:min(len(data), 100)]
	if code != want {
		t.Fatalf("%d bytes, %x: code %d, not %d", len(data), head, code, want)
	}
	if code != impl.PacketOK {
		if !noPacket(p) {
			t.Fatalf("%d bytes, %x: code %d, %+v", len(data), head, code, p)
		}
		return p
	}
	if !impl.PacketOk(p) || impl.PacketSize(p) != len(data) || !bytes.Equal(impl.PacketBytes(p), data) {
		t.Fatalf("%d bytes, %x: read as %+v, of %d bytes", len(data), head, p, impl.PacketSize(p))
	}
	return p
}

// checkPacketRecovered holds all of P9 for a valid packet: its bytes, the
// packet read from them, and its key turned twice.
func checkPacketRecovered(t *testing.T, p impl.Packet) {
	t.Helper()
	if !impl.PacketOk(p) {
		t.Fatalf("not valid: %+v", p)
	}
	data := impl.PacketBytes(p)
	if want := expectedPacket(p); !bytes.Equal(data, want) {
		t.Fatalf("%+v: %x, not %x", p, data, want)
	}
	if size := impl.PacketSize(p); size != len(data) {
		t.Fatalf("%+v: PacketSize %d of %d bytes", p, size, len(data))
	}
	if back := checkPacketCode(t, data, impl.PacketOK); !samePacket(back, p) {
		t.Fatalf("%+v: read as %+v", p, back)
	}
	k := impl.KeyOf(p)
	if k != expectedKey(p) || !impl.KeyOk(k) {
		t.Fatalf("%+v: key %+v", p, k)
	}
	checkTurned(t, k)
}

func checkPacketInvalid(t *testing.T, p impl.Packet) {
	t.Helper()
	if impl.PacketOk(p) {
		t.Errorf("valid: %+v", p)
	}
	if data := impl.PacketBytes(p); data != nil {
		t.Errorf("encoded in %d bytes: %+v", len(data), p)
	}
	if size := impl.PacketSize(p); size != -1 {
		t.Errorf("PacketSize %d: %+v", size, p)
	}
	if k := impl.KeyOf(p); k != (impl.Key{}) {
		t.Errorf("key %+v: %+v", k, p)
	}
}

// checkPacketIs asks for one of the two checks above.
func checkPacketIs(t *testing.T, p impl.Packet, valid bool) {
	t.Helper()
	if valid {
		checkPacketRecovered(t, p)
	} else {
		checkPacketInvalid(t, p)
	}
}

// P9, its last part.
func checkTurned(t *testing.T, k impl.Key) {
	t.Helper()
	back := impl.Turned(k)
	if back != (impl.Key{Src: k.Dst, Dst: k.Src, Proto: k.Proto, SPort: k.DPort, DPort: k.SPort}) || !impl.KeyOk(back) {
		t.Fatalf("%+v turned is %+v", k, back)
	}
	if again := impl.Turned(back); again != k {
		t.Fatalf("%+v turned twice is %+v", k, again)
	}
}

func checkKeyInvalid(t *testing.T, k impl.Key) {
	t.Helper()
	if impl.KeyOk(k) {
		t.Errorf("valid: %+v", k)
	}
	if back := impl.Turned(k); back != (impl.Key{}) {
		t.Errorf("%+v turned is %+v", k, back)
	}
}

// withHead returns the packet with Options or Exts, by the index of a list.
func withHead(p impl.Packet, i int) impl.Packet {
	if p.Ver == 4 {
		p.Four.Options = sampleBytes(fourOptions()[i%len(fourOptions())])
	} else {
		p.Six.Exts = extLists()[i%len(extLists())]
	}
	return p
}

// mostPad is the length of the longest Pad of a packet that has none.
func mostPad(p impl.Packet) int { return impl.MaxFrame - len(expectedPacket(p)) }

// mostBody is the length of the longest Body that Upper may have.
func mostBody(p impl.Packet) int {
	head := fourStart + len(p.Four.Options)
	if p.Ver == 6 {
		head = sixStart + expectedExtsSize(p.Six.Exts)
	}
	return impl.MaxInner - head - expectedUpperHead(p.Upper.Kind) - len(p.Upper.Options)
}

// Every Ver, kind and protocol number, with and without Options, extension
// headers and a Tag, and with each of some Pads.
func TestPacketIsRecovered(t *testing.T) {
	for _, ver := range bothKinds() {
		for _, kind := range upperKinds() {
			for _, proto := range packetProtos(kind, ver) {
				for _, options := range optionSizes(kind) {
					for head := range len(extLists()) {
						p := withHead(packetAround(ver, proto, someUpper(kind, options, 3+head)), head)
						checkPacketRecovered(t, p)
						p.Ether.Tag = 0x2005
						for _, pad := range []int{1, 2, 18, mostPad(p) - 1, mostPad(p)} {
							p.Pad = sampleBytes(pad)
							checkPacketRecovered(t, p)
						}
					}
				}
			}
		}
	}
}

func TestPacketOfEveryBodyIsRecovered(t *testing.T) {
	eachPacket(func(p impl.Packet) {
		for head := range 4 {
			p = withHead(p, head)
			for _, body := range []int{0, 1, 2, 3, 8, 20, 100, 255, 256, 257, mostBody(p) - 1, mostBody(p)} {
				p.Upper.Body = sampleBytes(body)
				p.Pad = nil
				checkPacketRecovered(t, p)
				p.Pad = []byte{1, 2, 3}
				checkPacketRecovered(t, p)
			}
		}
	})
}

func TestPacketWithABodyTooLong(t *testing.T) {
	eachPacket(func(p impl.Packet) {
		for head := range 5 {
			p = withHead(p, head)
			most := mostBody(p)
			for _, body := range []int{most - 1, most, most + 1, most + 2, impl.MaxInner, impl.MaxInner + 1, impl.MaxFrame, 70000} {
				p.Upper.Body = sampleBytes(body)
				checkPacketIs(t, p, body <= most)
			}
		}
	})
}

// Each number of each layer at its edges. Odd Flags and a Frag are left to the
// tests of fragments.
func TestPacketWithOneEdgeIsRecovered(t *testing.T) {
	eachPacket(func(p impl.Packet) {
		for _, field := range fieldsOf(p.Upper.Kind) {
			for _, n := range []int{0, 1, field.most - 1, field.most} {
				q := p
				field.set(&q.Upper, n)
				checkPacketRecovered(t, q)
			}
		}
		for _, mac := range edgeMacs() {
			q := p
			q.Ether.Dst = mac
			checkPacketRecovered(t, q)
			q.Ether.Src = mac
			checkPacketRecovered(t, q)
		}
		for _, tag := range edgeTags() {
			q := p
			q.Ether.Tag = tag
			checkPacketRecovered(t, q)
		}
	})
	for _, kind := range upperKinds() {
		for _, n := range []int{0, 1, 2, 3, 62, 63, 254, 255, 65535, lastLabel} {
			p, q := somePacket(4, kind), somePacket(6, kind)
			p.Four.Dscp, p.Four.Ecn, p.Four.Id = n%64, n%4, n%65536
			p.Four.Ttl, p.Four.Flags = n%256, n%4*2
			checkPacketRecovered(t, p)
			q.Six.Class, q.Six.Label, q.Six.Hops = n%256, n, n%256
			checkPacketRecovered(t, q)
		}
	}
}

func TestPacketAddressesAreRecovered(t *testing.T) {
	for _, a := range sampleAddrs() {
		for _, kind := range upperKinds() {
			p := somePacket(a.Kind, kind)
			p.Four.Src, p.Six.Src = ofKind(a, 4, p.Four.Src), ofKind(a, 6, p.Six.Src)
			checkPacketRecovered(t, p)
			p.Four.Dst, p.Six.Dst = ofKind(a, 4, p.Four.Dst), ofKind(a, 6, p.Six.Dst)
			checkPacketRecovered(t, p)
		}
	}
}

func ofKind(a impl.Addr, kind int, other impl.Addr) impl.Addr {
	if a.Kind == kind {
		return a
	}
	return other
}

func randomPacket(source *rand.Rand, ver int, kind int) impl.Packet {
	protos := packetProtos(kind, ver)
	p := packetAround(ver, protos[source.Intn(len(protos))], impl.Upper{})
	proto := p.Four.Proto + p.Six.Proto
	p.Ether.Dst, p.Ether.Src = source.Intn(impl.MaxMac+1), source.Intn(impl.MaxMac+1)
	p.Ether.Tag = source.Intn(65537) - 1
	if ver == 4 {
		p.Four = randomFour(source, 0)
		p.Four.Flags, p.Four.Frag, p.Four.Proto = 2*source.Intn(4), 0, proto
	} else {
		p.Six = randomSix(source, 0)
		p.Six.Proto = proto
	}
	p.Upper = randomUpper(source, kind, 1000)
	p.Upper.NoSum = ver == 4 && kind == impl.UpUdp && source.Intn(4) == 0
	if ver == 4 && source.Intn(4) == 0 {
		p.Four.Flags, p.Four.Frag = 1+2*source.Intn(4), source.Intn(8192)
		p.Upper = impl.Upper{Body: p.Upper.Body}
	}
	p.Pad = make([]byte, source.Intn(mostPad(p)+1))
	source.Read(p.Pad)
	return p
}

func TestRandomPacketIsRecovered(t *testing.T) {
	source := rand.New(rand.NewSource(81))
	for range 500 {
		for _, ver := range bothKinds() {
			for _, kind := range upperKinds() {
				checkPacketRecovered(t, randomPacket(source, ver, kind))
			}
		}
	}
}

// A Body or a Pad may look like a packet: only its place counts.
func TestPacketAroundAPacketIsRecovered(t *testing.T) {
	eachPacket(func(inner impl.Packet) {
		data := expectedPacket(inner)
		eachPacket(func(outer impl.Packet) {
			outer.Upper.Body = data
			checkPacketRecovered(t, outer)
			outer.Pad = data
			checkPacketRecovered(t, outer)
			outer.Upper.Body, outer.Pad = nil, data[plainSize:]
			checkPacketRecovered(t, outer)
		})
	})
}

func TestPacketBytesOfAnEmptyDatagram(t *testing.T) {
	const datagram = "\x00\x01\x00\x02\x00\x08\xff\xdb"
	const macs = "\x00\x00\x00\x00\x00\x01\x00\x00\x00\x00\x00\x02"
	for _, c := range []struct {
		ver  int
		head string
		size int
	}{
		{4, "\x08\x00\x45\x00\x00\x1c\x00\x00\x00\x00\x01\x11\xb9\xd2", 42},
		{6, "\x86\xdd\x60\x00\x00\x00\x00\x08\x11\x01", 62},
	} {
		p := emptyDatagram(c.ver)
		addrs := make([]byte, map[int]int{4: 8, 6: 32}[c.ver])
		want := macs + c.head + string(addrs) + datagram
		if got := impl.PacketBytes(p); string(got) != want || impl.PacketSize(p) != c.size {
			t.Errorf("%x, %d bytes", got, impl.PacketSize(p))
		}
		checkPacketRecovered(t, p)
	}
}

// Every Flags with some Frags, whatever Proto says: what is a fragment has the
// kind UpOther alone, and what is none has that of its Proto alone.
func TestPieceIsRecovered(t *testing.T) {
	for flags := range 8 {
		for _, frag := range []int{0, 1, 2, 255, 4096, 8190, 8191} {
			piece := frag != 0 || flags%2 == 1
			for _, proto := range []int{0, 1, 5, 6, 7, 17, 43, 58, 60, 255} {
				for _, kind := range upperKinds() {
					p := packetAround(4, proto, someUpper(kind, 0, 9))
					p.Four.Flags, p.Four.Frag = flags, frag
					fits := kind == expectedUpperKind(proto, 4)
					if piece {
						fits = kind == impl.UpOther
					}
					checkPacketIs(t, p, fits)
				}
			}
		}
	}
}

func TestPieceOfEveryFragIsRecovered(t *testing.T) {
	for frag := range 8192 {
		checkPacketRecovered(t, piecePacket(frag%8, max(frag, 1), 17, sampleBytes(frag%11)))
	}
}

// A fragment is not read any further, so nothing in it can be wrong.
func TestPieceIsNotReadFurther(t *testing.T) {
	bodies := [][]byte{nil, {1}, {0, 1, 0, 2, 0, 8, 0, 0}, {0, 1, 0, 2, 0, 9, 0, 0}, sampleBytes(7), sampleBytes(19), sampleBytes(20), sampleBytes(impl.MaxInner - fourStart)}
	for _, kind := range upperKinds() {
		whole := expectedUpper(someUpper(kind, 0, 40), 1)
		bodies = append(bodies, whole, whole[:len(whole)-8], whole[24:])
	}
	for _, proto := range []int{1, 6, 17, 58, 0, 255} {
		for _, body := range bodies {
			for _, part := range []struct{ flags, frag int }{{1, 0}, {3, 0}, {1, 1}, {0, 1}, {0, 8191}, {2, 3}} {
				p := piecePacket(part.flags, part.frag, proto, body)
				p.Pad = sampleBytes(5)
				checkPacketRecovered(t, p)
				back := checkPacketCode(t, expectedPacket(p), impl.PacketOK)
				if !sameUpper(back.Upper, impl.Upper{Kind: impl.UpOther, Body: body}) {
					t.Fatalf("%+v", back.Upper)
				}
			}
		}
	}
}

func TestKeyOfAPieceHasNoPorts(t *testing.T) {
	datagram := expectedPacket(somePacket(4, impl.UpUdp))
	whole, _ := impl.PacketRead(datagram)
	if k := impl.KeyOf(whole); k.SPort != 0x0035 || k.DPort != 0xd903 {
		t.Fatalf("%+v", k)
	}
	for _, word := range []int{0x2000, 0x2001, 0x0001, 0x1fff, 0x6000, 0xffff} {
		inner := resummed(withWord(datagram[plainSize:], 3, word))
		p := checkPacketCode(t, joined(datagram[:plainSize], inner), impl.PacketOK)
		want := impl.Key{Src: somePair(4).src, Dst: somePair(4).dst, Proto: 17}
		if k := impl.KeyOf(p); k != want || !impl.KeyOk(k) || p.Upper.Kind != impl.UpOther {
			t.Errorf("%x: %+v, %+v", word, k, p.Upper)
		}
	}
}

func TestPacketWithThePortsOfAPiece(t *testing.T) {
	for _, kind := range []int{impl.UpTcp, impl.UpUdp} {
		p := somePacket(4, kind)
		p.Four.Flags = 1
		checkPacketInvalid(t, p)
		p.Upper.Kind = impl.UpOther
		checkPacketInvalid(t, p)
		p.Upper = impl.Upper{Body: p.Upper.Body}
		checkPacketRecovered(t, p)
		p.Upper.DPort = 1
		checkPacketInvalid(t, p)
	}
}

func TestPacketLongestPad(t *testing.T) {
	eachPacket(func(p impl.Packet) {
		for _, tag := range []int{-1, 0, 65535} {
			p.Ether.Tag = tag
			for _, body := range []int{0, 1, 100, mostBody(p)} {
				p.Pad = nil
				p.Upper.Body = sampleBytes(body)
				most := mostPad(p)
				for _, size := range []int{0, 1, most - 1, most, most + 1, most + 2, impl.MaxFrame, 70000} {
					p.Pad = sampleBytes(size)
					checkPacketIs(t, p, size <= most)
				}
				checkPacketCode(t, joined(expectedPacket(p)[:impl.MaxFrame], []byte{0}), 10+impl.EtherLong)
			}
		}
	})
}

func TestPacketWithoutSum(t *testing.T) {
	for _, ver := range bothKinds() {
		for _, body := range []int{0, 1, 2, 100} {
			p := packetAround(ver, 17, someUpper(impl.UpUdp, 0, body))
			checkPacketRecovered(t, p)
			p.Upper.NoSum = true
			checkPacketIs(t, p, ver == 4)
			data := expectedPacket(p)
			if ver == 6 {
				checkPacketCode(t, data, 40+impl.UpSum)
			} else if back := checkPacketCode(t, data, impl.PacketOK); !back.Upper.NoSum {
				t.Errorf("%+v", back.Upper)
			}
		}
	}
	for _, kind := range []int{impl.UpOther, impl.UpTcp, impl.UpIcmp} {
		p := somePacket(4, kind)
		p.Upper.NoSum = true
		checkPacketInvalid(t, p)
	}
	piece := piecePacket(1, 0, 17, sampleBytes(8))
	piece.Upper.NoSum = true
	checkPacketInvalid(t, piece)
}

func TestPacketOfOtherVersions(t *testing.T) {
	eachPacket(func(p impl.Packet) {
		ver := p.Ver
		for _, other := range append(noKinds(), 4+6-ver) {
			p.Ver = other
			checkPacketInvalid(t, p)
		}
	})
	checkPacketInvalid(t, impl.Packet{})
	checkPacketInvalid(t, impl.Packet{Ver: 4})
	checkPacketInvalid(t, impl.Packet{Ver: 6})
}

// The layers have no Body of their own, not even the one that is encoded.
func TestPacketWithBodies(t *testing.T) {
	eachPacket(func(p impl.Packet) {
		data := expectedPacket(p)
		inner := data[len(data)-expectedUpperSize(p.Upper):]
		for _, body := range [][]byte{{0}, sampleBytes(5), inner, data[plainSize:], sampleBytes(70000)} {
			for _, set := range []func(q *impl.Packet){
				func(q *impl.Packet) { q.Ether.Body = body },
				func(q *impl.Packet) { q.Four.Body = body },
				func(q *impl.Packet) { q.Six.Body = body },
			} {
				q := p
				set(&q)
				checkPacketInvalid(t, q)
			}
		}
		p.Ether.Body, p.Four.Body, p.Six.Body = []byte{}, []byte{}, []byte{}
		checkPacketRecovered(t, p)
	})
}

// An empty slice is part of the zero value, whatever capacity it has.
func TestPacketWithTheOtherVersion(t *testing.T) {
	eachPacket(func(p impl.Packet) {
		q := p
		q.Four.Body, q.Six.Body, q.Ether.Body, q.Pad = make([]byte, 0, 9), make([]byte, 0, 9), make([]byte, 0, 9), make([]byte, 0, 9)
		if p.Ver == 4 {
			q.Six.Exts = make([]impl.Ext, 0, 3)
		} else {
			q.Four.Options = make([]byte, 0, 8)
		}
		checkPacketRecovered(t, q)
		if p.Ver == 4 {
			checkWithSix(t, p)
		} else {
			checkWithFour(t, p)
		}
	})
}

func checkWithSix(t *testing.T, p impl.Packet) {
	t.Helper()
	for _, n := range []int{1, -1, 6, math.MaxInt, math.MinInt} {
		for _, six := range []impl.Six{
			{Class: n}, {Label: n}, {Hops: n}, {Proto: n}, {Body: []byte{0}}, {Exts: []impl.Ext{{}}},
			{Src: impl.Addr{Kind: n}}, {Src: impl.Addr{A: n}}, {Src: impl.Addr{B: n}}, {Src: impl.Addr{C: n}}, {Src: impl.Addr{D: n}},
			{Dst: impl.Addr{Kind: n}}, {Dst: impl.Addr{A: n}}, {Dst: impl.Addr{B: n}}, {Dst: impl.Addr{C: n}}, {Dst: impl.Addr{D: n}},
			somePacket(6, impl.UpTcp).Six,
		} {
			p.Six = six
			checkPacketInvalid(t, p)
		}
	}
}

func checkWithFour(t *testing.T, p impl.Packet) {
	t.Helper()
	for _, n := range []int{1, -1, 4, math.MaxInt, math.MinInt} {
		for _, four := range []impl.Four{
			{Dscp: n}, {Ecn: n}, {Id: n}, {Flags: n}, {Frag: n}, {Ttl: n}, {Proto: n}, {Options: make([]byte, 4)}, {Body: []byte{0}},
			{Src: impl.Addr{Kind: n}}, {Src: impl.Addr{A: n}}, {Src: impl.Addr{B: n}}, {Src: impl.Addr{C: n}}, {Src: impl.Addr{D: n}},
			{Dst: impl.Addr{Kind: n}}, {Dst: impl.Addr{A: n}}, {Dst: impl.Addr{B: n}}, {Dst: impl.Addr{C: n}}, {Dst: impl.Addr{D: n}},
			somePacket(4, impl.UpTcp).Four,
		} {
			p.Four = four
			checkPacketInvalid(t, p)
		}
	}
}

func TestPacketOfEveryEtherKind(t *testing.T) {
	eachPacket(func(p impl.Packet) {
		p.Upper.Body = sampleBytes(30)
		right := p.Ether.Kind
		data := expectedPacket(p)
		for kind := range 65536 {
			p.Ether.Kind = kind
			if impl.PacketOk(p) != (kind == right) {
				t.Fatalf("Ver %d, Kind %d: %t", p.Ver, kind, impl.PacketOk(p))
			}
			want := 10 + impl.EtherKind
			switch {
			case kind == right:
				want = impl.PacketOK
			case kind == fourEther:
				want = 20 + impl.FourVersion
			case kind == sixEther:
				want = 30 + impl.SixVersion
			case kind == vlan:
				want = expectedPacketCode(withWord(data, 6, kind))
			case kind >= 1536:
				want = impl.PacketKind
			}
			checkPacketCode(t, withWord(data, 6, kind), want)
		}
		for _, kind := range append(noEtherKinds(), fourEther+sixEther-right, right+65536, -right) {
			p.Ether.Kind = kind
			checkPacketInvalid(t, p)
		}
	})
}

func TestPacketInAnInvalidEther(t *testing.T) {
	eachPacket(func(p impl.Packet) {
		for _, mac := range noMacs() {
			q, r := p, p
			q.Ether.Dst, r.Ether.Src = mac, mac
			checkPacketInvalid(t, q)
			checkPacketInvalid(t, r)
		}
		for _, tag := range noTags() {
			p.Ether.Tag = tag
			checkPacketInvalid(t, p)
		}
	})
}

// Every protocol number with every kind: only the one that it stands for fits.
func TestPacketOfEveryProto(t *testing.T) {
	for _, ver := range bothKinds() {
		for _, kind := range upperKinds() {
			for proto := range 256 {
				fits := kind == expectedUpperKind(proto, ver) && !(ver == 6 && isExtKind(proto))
				checkPacketIs(t, packetAround(ver, proto, someUpper(kind, 0, 5)), fits)
				checkPacketIs(t, packetAround(ver, proto, someUpper(kind, 0, 0)), fits)
			}
			for _, proto := range []int{-1, 256, 6 + 256, 17 + 256, -6, math.MaxInt, math.MinInt} {
				checkPacketInvalid(t, packetAround(ver, proto, someUpper(kind, 0, 5)))
			}
		}
	}
}

func TestPacketWithAnInvalidUpper(t *testing.T) {
	eachPacket(func(p impl.Packet) {
		for _, kind := range noUpperKinds() {
			q := p
			q.Upper.Kind = kind
			checkPacketInvalid(t, q)
		}
		for _, field := range upperFields() {
			for _, n := range []int{-1, field.most + 1, math.MaxInt, math.MinInt} {
				q := p
				field.set(&q.Upper, n)
				checkPacketInvalid(t, q)
			}
			if !slices.Contains(field.kinds, p.Upper.Kind) {
				q := p
				field.set(&q.Upper, 1)
				checkPacketInvalid(t, q)
			}
		}
		for size := range 60 {
			p.Upper.Options = sampleBytes(size)
			fits := size == 0 || p.Upper.Kind == impl.UpTcp && size%4 == 0 && size <= 40
			checkPacketIs(t, p, fits)
		}
	})
}

func TestPacketWithAnInvalidFourOrSix(t *testing.T) {
	for _, kind := range upperKinds() {
		for _, field := range fourFields() {
			for _, n := range []int{-1, field.most + 1, math.MaxInt, math.MinInt} {
				p := somePacket(4, kind)
				field.set(&p.Four, n)
				checkPacketInvalid(t, p)
			}
		}
		for _, field := range sixFields() {
			for _, n := range []int{-1, field.most + 1, math.MaxInt, math.MinInt} {
				p := somePacket(6, kind)
				field.set(&p.Six, n)
				checkPacketInvalid(t, p)
			}
		}
		for size := range 60 {
			p := somePacket(4, kind)
			p.Four.Options = sampleBytes(size)
			checkPacketIs(t, p, size <= 40 && size%4 == 0)
		}
		hop, route := extOfSize(0, 6), extOfSize(43, 6)
		for _, exts := range [][]impl.Ext{{{}}, {extOfSize(1, 6)}, {extOfSize(43, 7)}, {extOfSize(60, 70)}, {route, hop}, {hop, hop}, {hop, route, route, route}} {
			p := somePacket(6, kind)
			p.Six.Exts = exts
			checkPacketInvalid(t, p)
		}
	}
}

// Two addresses of the other Kind are enough for Upper, but not for the packet.
func TestPacketBetweenBadAddresses(t *testing.T) {
	eachPacket(func(p impl.Packet) {
		for _, a := range append(badPairs(), pairsOf(4+6-p.Ver)...) {
			q := p
			if p.Ver == 4 {
				q.Four.Src, q.Four.Dst = a.src, a.dst
			} else {
				q.Six.Src, q.Six.Dst = a.src, a.dst
			}
			checkPacketInvalid(t, q)
		}
	})
	for _, a := range badPairs() {
		p := piecePacket(1, 0, 17, sampleBytes(5))
		p.Four.Src, p.Four.Dst = a.src, a.dst
		checkPacketInvalid(t, p)
	}
}

// The chapter's examples: a wrong UDP checksum, and a wrong header checksum,
// which comes first.
func TestPacketReadExamples(t *testing.T) {
	data := impl.PacketBytes(emptyDatagram(4))
	wrong := withByte(data, 41, data[41]+1)
	checkPacketCode(t, wrong, 46)
	checkPacketCode(t, withByte(data, 25, data[25]+1), 26)
	checkPacketCode(t, withByte(wrong, 25, data[25]+1), 26)
}

// faultyFrames has frames for each code that the layers can return, most of
// them with errors of later codes beside it. A Body is too short for FourLong,
// SixLong and UpLong, and UpAddr cannot follow from addresses that were read.
func faultyFrames() map[int][][]byte {
	list := map[int][][]byte{}
	faultyEthers(list)
	faultyFours(list)
	faultySixes(list)
	faultyUppers(list)
	return list
}

// framed has that Kind, with and without a Tag.
func framed(kind int, body []byte) [][]byte {
	return [][]byte{frameOf(1, 2, []int{kind}, body), frameOf(1, 2, []int{vlan, 7, kind}, body)}
}

func faultyEthers(list map[int][][]byte) {
	long := make([]byte, impl.MaxFrame+1)
	for _, kind := range []int{0, 1535, vlan, 2054, fourEther, sixEther} {
		list[11] = append(list[11], framed(kind, long[:impl.MaxFrame-plainSize+1])...)
		list[11] = append(list[11], framed(kind, long)...)
		list[12] = append(list[12], frameOf(1, 2, []int{kind}, nil)[:13])
		list[13] = append(list[13], frameOf(1, 2, []int{vlan, 7, kind}, nil)[:17])
	}
	list[11] = append(list[11], long, bytes.Repeat([]byte{255}, 70000))
	list[12] = append(list[12], nil, []byte{}, []byte{0x81, 0}, long[:13])
	list[13] = append(list[13], frameOf(1, 2, []int{vlan}, nil), frameOf(1, 2, []int{vlan, 0}, []byte{0}))
	for _, kind := range []int{0, 1, 4, 6, 1535} {
		list[14] = append(list[14], framed(kind, nil)...)
		list[14] = append(list[14], framed(kind, long[:100])...)
	}
	list[14] = append(list[14], frameOf(1, 2, []int{vlan, 7, vlan}, nil), frameOf(1, 2, []int{vlan, 7, vlan, 7, fourEther}, long[:20]), long[:plainSize], long[:impl.MaxFrame])
	for _, kind := range []int{1536, 2047, 2049, 2054, 34524, 34526, 65535} {
		list[impl.PacketKind] = append(list[impl.PacketKind], framed(kind, nil)...)
		list[impl.PacketKind] = append(list[impl.PacketKind], framed(kind, long[:100])...)
		list[impl.PacketKind] = append(list[impl.PacketKind], framed(kind, expectedPacket(emptyDatagram(4))[plainSize:])...)
	}
}

// faultyFours begins with a datagram that is too long for its data and whose
// header checksum is wrong.
func faultyFours(list map[int][][]byte) {
	add := func(code int, data []byte) { list[code] = append(list[code], framed(fourEther, data)...) }
	p := packetAround(4, 17, impl.Upper{Kind: impl.UpUdp, Body: []byte{1}})
	start := withWord(withWord(expectedPacket(p)[plainSize:], 12, 99), 5, 7)
	for _, first := range []byte{0, 0x45, 0x60, 0x4f} {
		add(22, withByte(start, 0, first)[:19])
		add(22, withByte(start, 0, first)[:1])
	}
	add(22, nil)
	for _, first := range []byte{0, 0x34, 0x35, 0x54, 0x60, 0xf5, 0xff} {
		add(23, withTotal(withByte(start, 0, first), 65535))
		add(23, withByte(start, 0, first)[:20])
	}
	for _, first := range []byte{0x40, 0x44, 0x48, 0x4f} {
		add(24, withTotal(withByte(start, 0, first), 65535))
		add(24, withTotal(withByte(start, 0, first), 0))
	}
	for _, total := range []int{0, 19, 30, 31, impl.MaxInner + 1, 65535} {
		add(25, withTotal(start, total))
		add(25, withByte(withTotal(start, total), 9, 6))
	}
	add(25, withTotal(joined(start, make([]byte, impl.MaxInner)), impl.MaxInner+1))
	add(26, start)
	add(26, withTotal(start, 20))
	add(26, withByte(withTotal(start, 21), 9, 6))
	add(26, withWord(start, 3, 0x2000))
	add(26, withWord(start, 3, 1))
	add(26, joined(start, []byte{1, 2, 3}))
}

// faultySixes begins with a datagram whose length is wrong.
func faultySixes(list map[int][][]byte) {
	add := func(code int, data []byte) { list[code] = append(list[code], framed(sixEther, data)...) }
	p := packetAround(6, 17, impl.Upper{Kind: impl.UpUdp, Body: []byte{1}})
	start := withWord(expectedPacket(p)[plainSize:], 22, 99)
	for _, first := range []byte{0, 0x60, 0x45} {
		add(32, withByte(start, 0, first)[:39])
		add(32, withByte(start, 0, first)[:1])
	}
	add(32, nil)
	for _, first := range []byte{0, 0x45, 0x50, 0x70, 0xf6} {
		add(33, withLength(withByte(start, 0, first), 65535))
		add(33, withByte(withByte(start, 0, first), 6, 0)[:40])
	}
	for _, length := range []int{10, impl.MaxInner - 39, 65535} {
		add(34, withLength(start, length))
		add(34, withByte(withLength(start, length), 6, 43))
	}
	add(34, withLength(joined(start, make([]byte, impl.MaxInner)), impl.MaxInner-39))
	for _, kind := range []byte{0, 43, 60} {
		add(35, withByte(withLength(start, 0), 6, kind))
		add(35, withByte(withLength(start, 1), 6, kind))
		add(35, withByte(withLength(start, 7), 6, kind))
		add(35, withByte(withByte(start, 6, kind), 41, 8))
		add(35, withByte(withByte(start, 6, kind), 41, 1))
	}
	four := packetAround(6, 17, someUpper(impl.UpUdp, 0, 0))
	four.Six.Exts = []impl.Ext{extOfSize(0, 6), extOfSize(43, 6), extOfSize(60, 6), extOfSize(43, 6)}
	add(35, withWord(expectedPacket(four)[plainSize:], 38, 99))
}

// faultyUppers has right headers around each Upper that is wrong, as often as
// not with a Pad that would make it long enough.
func faultyUppers(list map[int][][]byte) {
	for _, ver := range bothKinds() {
		add := func(code int, kind int, data []byte) {
			p := packetAround(ver, protosOf(kind, ver)[0], impl.Upper{Body: data})
			list[code] = append(list[code], expectedPacket(p))
			p.Ether.Tag, p.Pad = 7, sampleBytes(30)
			list[code] = append(list[code], expectedPacket(withHead(p, 3)))
		}
		ones := bytes.Repeat([]byte{1}, 100)
		for _, kind := range []int{impl.UpTcp, impl.UpUdp, impl.UpIcmp} {
			for size := range expectedUpperHead(kind) {
				add(43, kind, ones[:size])
			}
		}
		for _, first := range []byte{0, 0x10, 0x4f, 0xf0, 0xff} {
			add(44, impl.UpTcp, withByte(ones[:59], 12, first))
		}
		add(44, impl.UpTcp, withByte(ones[:20], 12, 0x60))
		for _, length := range []int{0, 8, 9, 11, 40, 65535} {
			add(45, impl.UpUdp, withWord(ones[:10], 2, length))
			add(45, impl.UpUdp, withWord(withWord(ones[:10], 2, length), 3, 0))
		}
		add(46, impl.UpTcp, withByte(ones[:20], 12, 0x50))
		add(46, impl.UpTcp, withByte(ones[:60], 12, 0xf0))
		add(46, impl.UpUdp, withWord(ones[:10], 2, 10))
		add(46, impl.UpIcmp, ones[:8])
	}
	unsummed := withWord(expectedPacket(emptyDatagram(6)), 30, 0)
	list[46] = append(list[46], unsummed, joined(unsummed, sampleBytes(9)))
}

// The codes of all layers, each with later errors beside it.
func TestPacketReadFirstErrorCounts(t *testing.T) {
	frames := faultyFrames()
	codes := []int{11, 12, 13, 14, impl.PacketKind, 22, 23, 24, 25, 26, 32, 33, 34, 35, 43, 44, 45, 46}
	if len(frames) != len(codes) {
		t.Errorf("frames for %d codes, not for %d", len(frames), len(codes))
	}
	for _, code := range codes {
		t.Run(fmt.Sprint("code ", code), func(t *testing.T) {
			if len(frames[code]) < 8 {
				t.Errorf("only %d frames", len(frames[code]))
			}
			for _, data := range frames[code] {
				if want := expectedPacketCode(data); want != code {
					t.Errorf("%d bytes, %x: %d expected", len(data), data[:min(len(data), 80)], want)
				}
				checkPacketCode(t, data, code)
			}
		})
	}
}

// A frame that is cut off loses its Pad first, then its Upper.
func TestPacketReadOfEverySize(t *testing.T) {
	eachPacket(func(p impl.Packet) {
		for _, tag := range []int{-1, 7} {
			for head := range 4 {
				q := withHead(p, head)
				q.Ether.Tag, q.Pad = tag, sampleBytes(9)
				data := expectedPacket(q)
				for size := range len(data) + 1 {
					want := expectedPacketCode(data[:size])
					if (want == impl.PacketOK) != (size >= len(data)-9) {
						t.Fatalf("%d of %d bytes: %d expected", size, len(data), want)
					}
					checkPacketCode(t, data[:size:size], want)
				}
			}
		}
	})
}

// Every bit of a frame: what can still be read is encoded as that frame.
func TestPacketReadOfOneChangedBit(t *testing.T) {
	eachPacket(func(p impl.Packet) {
		for head := range 4 {
			q := withHead(p, head)
			q.Ether.Tag, q.Pad = 7, sampleBytes(3)
			data := expectedPacket(q)
			for bit := range 8 * len(data) {
				changed := withByte(data, bit/8, data[bit/8]^byte(128>>(bit%8)))
				checkPacketCode(t, changed, expectedPacketCode(changed))
			}
		}
	})
}

// randomFrame has a frame whose Upper may be any bytes, or that was changed in a
// few places, with the header checksum right again for the most part, or few
// codes would be seen.
func randomFrame(source *rand.Rand) []byte {
	p := randomPacket(source, bothKinds()[source.Intn(2)], upperKinds()[source.Intn(4)])
	if source.Intn(2) == 0 {
		p.Pad = nil
	}
	if source.Intn(4) == 0 {
		p.Upper = impl.Upper{Body: make([]byte, source.Intn(40))}
		source.Read(p.Upper.Body)
	}
	data := expectedPacket(p)
	start := headSize(p.Ether.Tag)
	switch source.Intn(4) {
	case 0:
		data = data[:source.Intn(min(len(data), 100))]
	case 1:
		return data
	}
	for range source.Intn(3) {
		if len(data) > start {
			at := source.Intn(min(len(data), 100))
			data[at] = byte(source.Intn(256))
		}
	}
	if p.Ver == 4 && len(data) > start && source.Intn(4) != 0 {
		data = joined(data[:start], resummed(data[start:]))
	}
	return data
}

func TestPacketReadOfRandomBytes(t *testing.T) {
	source := rand.New(rand.NewSource(82))
	seen := map[int]int{}
	for range 60000 {
		data := randomFrame(source)
		want := expectedPacketCode(data)
		seen[want]++
		checkPacketCode(t, data, want)
	}
	for _, code := range []int{0, 12, 13, 14, impl.PacketKind, 22, 23, 24, 25, 26, 32, 33, 34, 35, 43, 44, 45, 46} {
		if seen[code] < 20 {
			t.Errorf("code %d was seen %d times", code, seen[code])
		}
	}
	for _, size := range []int{0, 13, 14, 34, 54, 100, impl.MaxFrame, impl.MaxFrame + 1} {
		for range 1000 {
			data := make([]byte, size)
			source.Read(data)
			checkPacketCode(t, data, expectedPacketCode(data))
		}
	}
}

func someKey(kind int) impl.Key {
	return impl.Key{Src: somePair(kind).src, Dst: somePair(kind).dst, Proto: 17, SPort: 53, DPort: 40000}
}

func TestKeyOk(t *testing.T) {
	for _, p := range allPairs() {
		for _, proto := range []int{0, 1, 6, 17, 43, 254, 255} {
			for _, port := range []int{0, 1, 80, 65534, 65535} {
				for _, k := range []impl.Key{
					{Src: p.src, Dst: p.dst, Proto: proto, SPort: port, DPort: 65535 - port},
					{Src: p.src, Dst: p.dst, Proto: proto, SPort: port},
					{Src: p.src, Dst: p.dst, Proto: proto, DPort: port},
				} {
					if !impl.KeyOk(k) {
						t.Errorf("not valid: %+v", k)
					}
					checkTurned(t, k)
				}
			}
		}
	}
}

func TestKeyOutsideItsRanges(t *testing.T) {
	for _, kind := range bothKinds() {
		for _, proto := range []int{-1, 256, -17, 17 + 256, 17 + 1<<32, math.MaxInt, math.MinInt} {
			k := someKey(kind)
			k.Proto = proto
			checkKeyInvalid(t, k)
		}
		for _, port := range []int{-1, 65536, -65535, 65536 + 53, 53 + 1<<32, math.MaxInt, math.MinInt} {
			k, l, m := someKey(kind), someKey(kind), someKey(kind)
			k.SPort, l.DPort = port, port
			m.SPort, m.DPort = port, port
			checkKeyInvalid(t, k)
			checkKeyInvalid(t, l)
			checkKeyInvalid(t, m)
		}
	}
	for _, p := range badPairs() {
		k := someKey(4)
		k.Src, k.Dst = p.src, p.dst
		checkKeyInvalid(t, k)
	}
	checkKeyInvalid(t, impl.Key{})
}

func TestKeyOf(t *testing.T) {
	eachPacket(func(p impl.Packet) {
		want := impl.Key{Src: somePair(p.Ver).src, Dst: somePair(p.Ver).dst, Proto: packetProtos(p.Upper.Kind, p.Ver)[0]}
		switch p.Upper.Kind {
		case impl.UpTcp:
			want.SPort, want.DPort = 0x1f90, 0xc351
		case impl.UpUdp:
			want.SPort, want.DPort = 0x0035, 0xd903
		}
		if k := impl.KeyOf(p); k != want {
			t.Errorf("%+v: %+v", p, k)
		}
	})
}

// What lies behind the length of a slice is neither read nor changed.
func TestPacketsIgnoreSpareCapacity(t *testing.T) {
	eachPacket(func(p impl.Packet) {
		p = withHead(p, 2)
		p.Pad = []byte{1, 2, 3}
		want := expectedPacket(p)
		spare := [][]byte{}
		widen := func(part []byte) []byte {
			wide := joined(part, []byte{91, 92, 93, 94, 95, 96, 97, 98})
			spare = append(spare, wide[len(part):])
			return wide[:len(part)]
		}
		p.Ether.Body, p.Four.Body, p.Six.Body = widen(nil), widen(nil), widen(nil)
		p.Four.Options, p.Upper.Options = widen(p.Four.Options), widen(p.Upper.Options)
		p.Upper.Body, p.Pad = widen(p.Upper.Body), widen(p.Pad)
		exts := append(slices.Clone(p.Six.Exts), impl.Ext{Kind: 7}, impl.Ext{Kind: 8})
		p.Six.Exts = exts[:len(exts)-2]
		if got := impl.PacketBytes(p); !bytes.Equal(got, want) || impl.PacketSize(p) != len(want) || impl.KeyOf(p) != expectedKey(p) {
			t.Errorf("%x, not %x", got, want)
		}
		whole := widen(want)
		if back := checkPacketCode(t, whole, impl.PacketOK); !samePacket(back, p) {
			t.Errorf("%+v", back)
		}
		checkPacketCode(t, whole[:13], 12)
		checkPacketCode(t, whole[:30], map[int]int{4: 22, 6: 32}[p.Ver])
		for _, rest := range spare {
			if !bytes.Equal(rest, []byte{91, 92, 93, 94, 95, 96, 97, 98}) {
				t.Errorf("%x", rest)
			}
		}
		if exts[len(exts)-2].Kind != 7 || exts[len(exts)-1].Kind != 8 || !bytes.Equal(whole, want) {
			t.Errorf("%+v, %x", exts, whole)
		}
	})
}

// packetParts are all the lists of bytes that PacketRead returns, with spare
// capacity.
func packetParts(p impl.Packet) [][]byte {
	parts := append(sixParts(p.Six, p.Pad), p.Upper.Body, p.Upper.Options, p.Four.Options, p.Four.Body, p.Ether.Body)
	for i := range parts {
		parts[i] = parts[i][:cap(parts[i])]
	}
	return parts
}

func checkPacketIsNew(t *testing.T, p impl.Packet) {
	t.Helper()
	want := impl.PacketBytes(p)
	data := bytes.Clone(want)
	back, _ := impl.PacketRead(data)
	fill(data, 99)
	if !samePacket(back, p) {
		t.Error("what was read changes with the data")
	}
	again := impl.PacketBytes(back)
	parts := packetParts(back)
	for i, part := range parts {
		fill(part, byte(100+i))
	}
	for i, part := range parts {
		if !bytes.Equal(part, bytes.Repeat([]byte{byte(100 + i)}, len(part))) {
			t.Errorf("part %d changes with another one", i)
		}
	}
	if !bytes.Equal(again, want) {
		t.Error("the bytes change with the packet")
	}
	fill(again[:cap(again)], 95)
	for i, part := range parts {
		if !bytes.Equal(part, bytes.Repeat([]byte{byte(100 + i)}, len(part))) {
			t.Errorf("part %d changes with the bytes", i)
		}
	}
	if !bytes.Equal(want, impl.PacketBytes(p)) {
		t.Error("the packet or another result changes with the bytes")
	}
}

func TestPacketResultsAreNew(t *testing.T) {
	eachPacket(func(p impl.Packet) {
		for head := range len(extLists()) {
			q := withHead(p, head)
			q.Pad = sampleBytes(7)
			checkPacketIsNew(t, q)
		}
	})
	piece := piecePacket(1, 0, 17, sampleBytes(20))
	piece.Pad = sampleBytes(7)
	checkPacketIsNew(t, piece)
}
