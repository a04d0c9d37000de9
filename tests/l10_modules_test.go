package tests

import (
	"bytes"
	"encoding/binary"
	"math"
	"math/rand"
	"slices"
	"testing"

	"loop.example/g00655/impl"
)

func moduleKinds() []int {
	return []int{impl.ModAcl, impl.ModSnat, impl.ModDnat, impl.ModTtl, impl.ModDscp, impl.ModEcn, impl.ModMeter}
}

func natKinds() []int { return []int{impl.ModSnat, impl.ModDnat} }

func isNat(kind int) bool { return slices.Contains(natKinds(), kind) }

func noModuleKinds() []int {
	return []int{0, 8, -1, 9, 16, -8, 1 << 32, 1<<32 + 1, math.MaxInt, math.MinInt}
}

// wallOf drops every packet.
func wallOf() impl.Module { return impl.Module{Kind: impl.ModAcl, Proto: -1, Hi: 65535} }

func natOf(kind int, from string, to string) impl.Module {
	return impl.Module{Kind: kind, From: prefixFrom(from), To: prefixFrom(to)}
}

func meterOf(n int) impl.Module { return impl.Module{Kind: impl.ModMeter, N: n} }

func hopModule() impl.Module { return impl.Module{Kind: impl.ModTtl} }

func dscpOf(n int) impl.Module { return impl.Module{Kind: impl.ModDscp, N: n} }

func ecnModule() impl.Module { return impl.Module{Kind: impl.ModEcn} }

// someModule has a module of that Kind that changes the packets of somePacket
// if modules of that Kind change any, and that drops none.
func someModule(kind int, ver int) impl.Module {
	ends := somePair(ver)
	switch kind {
	case impl.ModAcl:
		return impl.Module{Kind: kind, From: netMasked(ends.src, 20), To: netMasked(ends.dst, 30), Proto: 6, Lo: 80, Hi: 443}
	case impl.ModSnat:
		return impl.Module{Kind: kind, From: netMasked(ends.src, 20), To: netMasked(lastPair(ver).src, 20)}
	case impl.ModDnat:
		return impl.Module{Kind: kind, From: netMasked(ends.dst, 9), To: netMasked(zeroPair(ver).src, 9)}
	case impl.ModDscp:
		return dscpOf(17)
	case impl.ModMeter:
		return meterOf(3)
	}
	return impl.Module{Kind: kind}
}

func noMeters() []int { return []int{0, 0, 0, 0} }

func endsOf(p impl.Packet) pair {
	k := expectedKey(p)
	return pair{k.Src, k.Dst}
}

func withEnds(p impl.Packet, ends pair) impl.Packet {
	if p.Ver == 4 {
		p.Four.Src, p.Four.Dst = ends.src, ends.dst
	} else {
		p.Six.Src, p.Six.Dst = ends.src, ends.dst
	}
	return p
}

func hopsIn(p impl.Packet) int { return p.Four.Ttl + p.Six.Hops }

func withHops(p impl.Packet, n int) impl.Packet {
	if p.Ver == 4 {
		p.Four.Ttl = n
	} else {
		p.Six.Hops = n
	}
	return p
}

// markIn is Dscp and Ecn as the one byte that they are in a packet.
func markIn(p impl.Packet) int { return p.Four.Dscp*4 + p.Four.Ecn + p.Six.Class }

func withMark(p impl.Packet, n int) impl.Packet {
	if p.Ver == 4 {
		p.Four.Dscp, p.Four.Ecn = n>>2, n&3
	} else {
		p.Six.Class = n
	}
	return p
}

// ownPacket is the packet in memory of its own.
func ownPacket(p impl.Packet) impl.Packet {
	p.Ether.Body, p.Four.Body, p.Six.Body = bytes.Clone(p.Ether.Body), bytes.Clone(p.Four.Body), bytes.Clone(p.Six.Body)
	p.Four.Options, p.Upper.Options = bytes.Clone(p.Four.Options), bytes.Clone(p.Upper.Options)
	p.Upper.Body, p.Pad = bytes.Clone(p.Upper.Body), bytes.Clone(p.Pad)
	p.Six.Exts = slices.Clone(p.Six.Exts)
	for i, e := range p.Six.Exts {
		p.Six.Exts[i].Body = bytes.Clone(e.Body)
	}
	return p
}

// expectedNat copies bits, where NatAddr adds.
func expectedNat(from impl.Prefix, to impl.Prefix, a impl.Addr) impl.Addr {
	if !expectedContains(from, a) {
		return a
	}
	return addressIn(to, a)
}

func expectedStops(m impl.Module, p impl.Packet) bool {
	k := expectedKey(p)
	return expectedContains(m.From, k.Src) && expectedContains(m.To, k.Dst) &&
		(m.Proto < 0 || m.Proto == k.Proto) && !(k.DPort < m.Lo || k.DPort > m.Hi)
}

// expectedDo is a second opinion on a valid module and a valid packet.
func expectedDo(m impl.Module, p impl.Packet) (impl.Packet, int) {
	ends, mark := endsOf(p), markIn(p)
	switch m.Kind {
	case impl.ModAcl:
		if expectedStops(m, p) {
			return impl.Packet{}, impl.DoAcl
		}
	case impl.ModSnat:
		return withEnds(p, pair{expectedNat(m.From, m.To, ends.src), ends.dst}), impl.DoPass
	case impl.ModDnat:
		return withEnds(p, pair{ends.src, expectedNat(m.From, m.To, ends.dst)}), impl.DoPass
	case impl.ModTtl:
		if hopsIn(p) < 2 {
			return impl.Packet{}, impl.DoTtl
		}
		return withHops(p, hopsIn(p)-1), impl.DoPass
	case impl.ModDscp:
		return withMark(p, 4*m.N+mark%4), impl.DoPass
	case impl.ModEcn:
		return withMark(p, expectedMark(mark)), impl.DoPass
	}
	return p, impl.DoPass
}

func expectedMark(mark int) int {
	return mark - mark%4 + map[int]int{0: 0, 1: 3, 2: 3, 3: 3}[mark%4]
}

func expectedChain(chain []impl.Module, p impl.Packet, meters []int) (impl.Packet, []int, int) {
	counts := slices.Clone(meters)
	for _, m := range chain {
		if m.Kind == impl.ModMeter {
			counts[m.N-1] = min(counts[m.N-1]+len(expectedPacket(p)), impl.MaxCount)
		}
		var code int
		if p, code = expectedDo(m, p); code != impl.DoPass {
			return impl.Packet{}, counts, code
		}
	}
	return p, counts, impl.DoPass
}

// checkChain also holds that what passes is recovered from its bytes, which is
// the first part of P11, and that the arguments are left alone.
func checkChain(t *testing.T, chain []impl.Module, p impl.Packet, meters []int) (impl.Packet, []int) {
	t.Helper()
	wantPacket, wantMeters, wantCode := expectedChain(chain, p, meters)
	chainBefore, packetBefore, metersBefore := slices.Clone(chain), ownPacket(p), slices.Clone(meters)
	q, counts, code := impl.ChainDo(chain, p, meters)
	if code != wantCode || !samePacket(q, wantPacket) || !slices.Equal(counts, wantMeters) {
		t.Fatalf("%+v, %+v, %v:\n%+v %v %d, not\n%+v %v %d", chain, p, meters, q, counts, code, wantPacket, wantMeters, wantCode)
	}
	if !slices.Equal(chain, chainBefore) || !samePacket(p, packetBefore) || !slices.Equal(meters, metersBefore) {
		t.Fatalf("%+v, %+v, %v: an argument is changed", chain, p, meters)
	}
	if code == impl.DoPass {
		checkPacketRecovered(t, q)
	}
	return q, counts
}

// checkModule asks ModuleDo and a chain of that module alone.
func checkModule(t *testing.T, m impl.Module, p impl.Packet) impl.Packet {
	t.Helper()
	want, wantCode := expectedDo(m, p)
	before := ownPacket(p)
	q, code := impl.ModuleDo(m, p)
	if code != wantCode || !samePacket(q, want) {
		t.Fatalf("%+v, %+v:\n%+v %d, not\n%+v %d", m, p, q, code, want, wantCode)
	}
	if !samePacket(p, before) {
		t.Fatalf("%+v: the packet is changed, %+v", m, p)
	}
	checkChain(t, []impl.Module{m}, p, noMeters())
	return q
}

// checkStops asks whether a module drops a packet with that code, or leaves it
// unchanged.
func checkStops(t *testing.T, m impl.Module, p impl.Packet, code int) {
	t.Helper()
	checkModule(t, m, p)
	q, got := impl.ModuleDo(m, p)
	want := p
	if code != impl.DoPass {
		want = impl.Packet{}
	}
	if got != code || !samePacket(q, want) {
		t.Fatalf("%+v, %+v: %+v %d, not %d", m, p, q, got, code)
	}
}

func checkChainForm(t *testing.T, chain []impl.Module, p impl.Packet, meters []int) {
	t.Helper()
	if q, counts, code := impl.ChainDo(chain, p, meters); code != impl.DoForm || counts != nil || !noPacket(q) {
		t.Errorf("%+v, %+v, %v: %+v %v %d", chain, p, meters, q, counts, code)
	}
}

// checkModuleInvalid also puts the module into each place of a chain.
func checkModuleInvalid(t *testing.T, m impl.Module) {
	t.Helper()
	if impl.ModuleOk(m) {
		t.Errorf("valid: %+v", m)
	}
	p := somePacket(4, impl.UpTcp)
	if q, code := impl.ModuleDo(m, p); code != impl.DoForm || !noPacket(q) {
		t.Errorf("%+v: %+v %d", m, q, code)
	}
	for at := range 3 {
		chain := slices.Insert([]impl.Module{hopModule(), natOf(impl.ModSnat, "10.0.0.0/8", "11.0.0.0/8")}, at, m)
		if impl.ChainOk(chain) || impl.BackChain(chain) != nil {
			t.Errorf("valid: %+v", chain)
		}
		checkChainForm(t, chain, p, noMeters())
	}
}

func checkModuleIs(t *testing.T, m impl.Module, valid bool) {
	t.Helper()
	if !valid {
		checkModuleInvalid(t, m)
		return
	}
	if !impl.ModuleOk(m) || !impl.ChainOk([]impl.Module{m}) {
		t.Fatalf("not valid: %+v", m)
	}
	eachPacket(func(p impl.Packet) { checkModule(t, m, p) })
}

// A moduleField is a field of a module with values that are not zero.
type moduleField struct {
	name string
	set  []func(m *impl.Module)
}

func moduleFields() []moduleField {
	prefix := func(at func(m *impl.Module) *impl.Prefix) []func(m *impl.Module) {
		var list []func(m *impl.Module)
		for _, p := range []impl.Prefix{prefixFrom("0.0.0.0/0"), prefixFrom("10.0.0.0/8"), prefixFrom("::/0"), {Len: 1}, {Base: impl.Addr{A: 1}}, {Base: impl.Addr{D: -1}}} {
			list = append(list, func(m *impl.Module) { *at(m) = p })
		}
		return list
	}
	number := func(at func(m *impl.Module) *int) []func(m *impl.Module) {
		var list []func(m *impl.Module)
		for _, n := range []int{-1, 1, 4, 63, 1 << 32, math.MaxInt, math.MinInt} {
			list = append(list, func(m *impl.Module) { *at(m) = n })
		}
		return list
	}
	return []moduleField{
		{"From", prefix(func(m *impl.Module) *impl.Prefix { return &m.From })},
		{"To", prefix(func(m *impl.Module) *impl.Prefix { return &m.To })},
		{"Proto", number(func(m *impl.Module) *int { return &m.Proto })},
		{"Lo", number(func(m *impl.Module) *int { return &m.Lo })},
		{"Hi", number(func(m *impl.Module) *int { return &m.Hi })},
		{"N", number(func(m *impl.Module) *int { return &m.N })},
	}
}

func usedFields(kind int) []string {
	switch kind {
	case impl.ModAcl:
		return []string{"From", "To", "Proto", "Lo", "Hi"}
	case impl.ModSnat, impl.ModDnat:
		return []string{"From", "To"}
	case impl.ModDscp, impl.ModMeter:
		return []string{"N"}
	}
	return nil
}

// eachFullPacket calls check with packets of each Ver and kind, with each choice
// of Options, extension headers, Tag and Pad, and with fragments.
func eachFullPacket(check func(p impl.Packet)) {
	eachPacket(func(p impl.Packet) {
		for head := range len(extLists()) {
			q := withHead(p, head)
			if head%2 == 1 {
				q.Ether.Tag, q.Pad = 0x2005+head, sampleBytes(head)
			}
			check(q)
		}
	})
	for i, proto := range []int{1, 6, 17, 58} {
		piece := piecePacket(1-i%2, 7*i, proto, sampleBytes(20+i))
		piece.Four.Frag += i % 2
		check(piece)
		piece.Pad = sampleBytes(5)
		check(piece)
	}
	unsummed := somePacket(4, impl.UpUdp)
	unsummed.Upper.NoSum = true
	check(unsummed)
}

func TestModulesOfEachKindOnEachPacket(t *testing.T) {
	eachFullPacket(func(p impl.Packet) {
		for _, kind := range moduleKinds() {
			for _, ver := range bothKinds() {
				m := someModule(kind, ver)
				if !impl.ModuleOk(m) {
					t.Fatalf("not valid: %+v", m)
				}
				q := checkModule(t, m, p)
				changes := isNat(kind) && ver == p.Ver || kind == impl.ModTtl || kind == impl.ModDscp || kind == impl.ModEcn
				if changes == samePacket(p, q) {
					t.Fatalf("%+v, %+v: %+v", m, p, q)
				}
			}
		}
	})
}

func TestModuleFieldsThatTheKindDoesNotUse(t *testing.T) {
	for _, kind := range moduleKinds() {
		for _, ver := range bothKinds() {
			for _, field := range moduleFields() {
				if slices.Contains(usedFields(kind), field.name) {
					continue
				}
				for _, set := range field.set {
					m := someModule(kind, ver)
					set(&m)
					checkModuleInvalid(t, m)
				}
			}
		}
	}
}

func TestModulesOfOtherKinds(t *testing.T) {
	for _, kind := range noModuleKinds() {
		checkModuleInvalid(t, impl.Module{Kind: kind})
		for _, like := range moduleKinds() {
			m := someModule(like, 4)
			m.Kind = kind
			checkModuleInvalid(t, m)
		}
	}
	// With another one of the seven Kinds a module is valid only if that Kind has
	// a use for its fields.
	nat := []int{impl.ModAcl, impl.ModSnat, impl.ModDnat}
	plain := []int{impl.ModAcl, impl.ModTtl, impl.ModDscp, impl.ModEcn}
	for like, fits := range map[int][]int{
		impl.ModAcl: {impl.ModAcl}, impl.ModSnat: nat, impl.ModDnat: nat, impl.ModTtl: plain,
		impl.ModDscp: {impl.ModDscp}, impl.ModEcn: plain, impl.ModMeter: {impl.ModDscp, impl.ModMeter},
	} {
		for _, kind := range moduleKinds() {
			m := someModule(like, 4)
			m.Kind = kind
			checkModuleIs(t, m, slices.Contains(fits, kind))
		}
	}
}

func TestAclRanges(t *testing.T) {
	for _, proto := range []int{-1, 0, 1, 6, 254, 255, -2, 256, 6 + 1<<32, math.MaxInt, math.MinInt} {
		m := wallOf()
		m.Proto = proto
		checkModuleIs(t, m, -1 <= proto && proto <= 255)
	}
	ports := []int{math.MinInt, -65535, -1, 0, 1, 80, 81, 65534, 65535, 65536, 80 + 1<<32, math.MaxInt}
	for _, lo := range ports {
		for _, hi := range ports {
			m := wallOf()
			m.Lo, m.Hi = lo, hi
			checkModuleIs(t, m, 0 <= lo && lo <= hi && hi <= 65535)
		}
	}
}

func TestNumbersOfModules(t *testing.T) {
	for _, n := range []int{0, 1, 4, 5, 62, 63, 64, 65, 255, -1, -63, 1 << 32, 1<<32 + 1, math.MaxInt, math.MinInt} {
		checkModuleIs(t, dscpOf(n), 0 <= n && n <= 63)
		checkModuleIs(t, meterOf(n), 1 <= n && n <= 4)
	}
	checkModuleIs(t, meterOf(2), true)
	checkModuleIs(t, meterOf(3), true)
}

func TestModulesWithBadPrefixes(t *testing.T) {
	good := []impl.Prefix{{}, prefixFrom("0.0.0.0/0"), prefixFrom("10.0.0.0/8"), prefixFrom("::/0"), prefixFrom("2001:db8::/32")}
	for _, bad := range badPrefixes() {
		for _, p := range append(slices.Clone(good), bad) {
			acl := wallOf()
			acl.From, acl.To = p, bad
			checkModuleInvalid(t, acl)
			acl.From, acl.To = bad, p
			checkModuleInvalid(t, acl)
			if p.Base.Kind == bad.Base.Kind {
				p.Len = bad.Len
			}
			for _, kind := range natKinds() {
				checkModuleInvalid(t, impl.Module{Kind: kind, From: p, To: bad})
				checkModuleInvalid(t, impl.Module{Kind: kind, From: bad, To: p})
			}
			checkNatInvalid(t, p, bad)
			checkNatInvalid(t, bad, p)
		}
	}
}

// checkNatInvalid asks for addresses that either prefix may contain.
func checkNatInvalid(t *testing.T, from impl.Prefix, to impl.Prefix) {
	t.Helper()
	for _, a := range []impl.Addr{from.Base, to.Base, {}, {Kind: 4}, {Kind: 6}, somePair(4).src, somePair(6).src} {
		if got := impl.NatAddr(from, to, a); got != (impl.Addr{}) {
			t.Errorf("%v to %v: %v becomes %v", from, to, a, got)
		}
	}
}

// Each pair of prefixes: only those of the same Kind and Len are exchanged, and
// any is exchanged with none, not even with itself.
func TestNatBetweenPrefixes(t *testing.T) {
	list := append(rulePrefixes(), prefixFrom("192.168.0.0/24"), prefixFrom("255.255.255.0/24"), prefixFrom("fe80::/32"), prefixFrom("a00::/8"), prefixFrom("a00::/24"), prefixFrom("::/32"))
	for _, from := range list {
		for _, to := range list {
			valid := from.Base.Kind != 0 && from.Base.Kind == to.Base.Kind && from.Len == to.Len
			for _, kind := range natKinds() {
				checkModuleIs(t, impl.Module{Kind: kind, From: from, To: to}, valid)
			}
			if valid {
				checkNat(t, from, to, from.Base)
				checkNat(t, from, to, lastAddress(from))
			} else {
				checkNatInvalid(t, from, to)
			}
			acl := wallOf()
			acl.From, acl.To = from, to
			checkModuleIs(t, acl, true)
		}
	}
}

// checkNat also goes the way back.
func checkNat(t *testing.T, from impl.Prefix, to impl.Prefix, a impl.Addr) {
	t.Helper()
	got := impl.NatAddr(from, to, a)
	if got != addressIn(to, a) || !impl.AddrOk(got) || !expectedContains(to, got) {
		t.Fatalf("%v to %v: %v becomes %v", from, to, a, got)
	}
	if back := impl.NatAddr(to, from, got); back != a {
		t.Fatalf("%v to %v: %v becomes %v", to, from, got, back)
	}
}

func TestNatAddr(t *testing.T) {
	for _, c := range []struct{ from, to, a, want string }{
		{"10.0.0.0/24", "192.168.0.0/24", "10.0.0.1", "192.168.0.1"},
		{"10.0.0.0/24", "192.168.0.0/24", "10.0.0.0", "192.168.0.0"},
		{"10.0.0.0/24", "192.168.0.0/24", "10.0.0.255", "192.168.0.255"},
		{"10.0.0.0/24", "10.0.0.0/24", "10.0.0.7", "10.0.0.7"},
		{"0.0.0.0/0", "0.0.0.0/0", "255.255.255.255", "255.255.255.255"},
		{"0.0.0.0/0", "0.0.0.0/0", "1.2.3.4", "1.2.3.4"},
		{"0.0.0.0/1", "128.0.0.0/1", "127.255.255.255", "255.255.255.255"},
		{"128.0.0.0/1", "0.0.0.0/1", "128.0.0.1", "0.0.0.1"},
		{"1.2.3.4/32", "255.255.255.255/32", "1.2.3.4", "255.255.255.255"},
		{"255.255.255.255/32", "0.0.0.0/32", "255.255.255.255", "0.0.0.0"},
		{"10.0.0.0/9", "200.128.0.0/9", "10.127.2.3", "200.255.2.3"},
		{"::/0", "::/0", "2001:db8::5", "2001:db8::5"},
		{"::/1", "8000::/1", "7fff::ffff", "ffff::ffff"},
		{"2001:db8::/32", "fe80:1::/32", "2001:db8:a:b:c:d:e:f", "fe80:1:a:b:c:d:e:f"},
		{"2001:db8::/33", "fe80:1:8000::/33", "2001:db8:7fff:b:c:d:e:f", "fe80:1:ffff:b:c:d:e:f"},
		{"::/127", "ffff::ffff:fffe/127", "::1", "ffff::ffff:ffff"},
		{"::5/128", "2001:db8::6/128", "::5", "2001:db8::6"},
	} {
		got := impl.NatAddr(prefixFrom(c.from), prefixFrom(c.to), addrFrom(c.a))
		if got != addrFrom(c.want) {
			t.Errorf("%s to %s: %s becomes %v, not %s", c.from, c.to, c.a, got, c.want)
		}
	}
}

// Prefixes of every Len, with addresses just inside and just outside, and with
// each bit of an address inside changed.
func TestNatAddrOfEveryLen(t *testing.T) {
	source := rand.New(rand.NewSource(101))
	for _, kind := range bothKinds() {
		for size := range bitCount(kind) + 1 {
			for _, base := range []impl.Addr{zeroPair(kind).src, lastPair(kind).src, randomAddr(source, kind)} {
				from, to := netMasked(base, size), netMasked(randomAddr(source, kind), size)
				checkNat(t, from, to, from.Base)
				checkNat(t, from, to, lastAddress(from))
				checkNat(t, from, from, lastAddress(from))
				for _, a := range besides(from) {
					if got := impl.NatAddr(from, to, a); got != (impl.Addr{}) {
						t.Fatalf("%v to %v: %v becomes %v", from, to, a, got)
					}
				}
				inside := addressIn(from, randomAddr(source, kind))
				for bit := range bitCount(kind) {
					a := flipped(inside, bit)
					if bit >= size {
						checkNat(t, from, to, a)
					} else if got := impl.NatAddr(from, to, a); got != (impl.Addr{}) {
						t.Fatalf("%v to %v: %v becomes %v", from, to, a, got)
					}
				}
			}
		}
	}
}

// besides are the addresses right before and right after a prefix, if there are
// any.
func besides(p impl.Prefix) []impl.Addr {
	var list []impl.Addr
	if before := netAddr(p.Base).Prev(); before.IsValid() {
		list = append(list, fromNet(before))
	}
	if after := netAddr(lastAddress(p)).Next(); after.IsValid() {
		list = append(list, fromNet(after))
	}
	return list
}

func TestNatAddrOfOtherAddresses(t *testing.T) {
	for _, kind := range bothKinds() {
		for _, size := range []int{0, 1, 8, bitCount(kind)} {
			from, to := netMasked(zeroPair(kind).src, size), netMasked(lastPair(kind).src, size)
			for _, a := range append(badAddrs(), impl.Addr{}, zeroPair(4+6-kind).src, impl.Addr{Kind: 4 + 6 - kind, D: 5}) {
				if got := impl.NatAddr(from, to, a); got != (impl.Addr{}) {
					t.Errorf("%v to %v: %v becomes %v", from, to, a, got)
				}
			}
		}
	}
}

// The address that a module translates is just inside From or just outside, and
// so is the other one, which stays.
func TestNatModulesAtTheEdgesOfFrom(t *testing.T) {
	for _, ver := range bothKinds() {
		for _, size := range []int{0, 1, 2, 8, 24, 31, 32, bitCount(ver) - 1, bitCount(ver)} {
			from, to := netMasked(somePair(ver).src, size), netMasked(lastPair(ver).src, size)
			inside := []impl.Addr{from.Base, lastAddress(from), addressIn(from, somePair(ver).dst)}
			outside := besides(from)
			for _, a := range append(outside, inside...) {
				for _, b := range append(outside, inside...) {
					for _, kind := range upperKinds() {
						p := withEnds(somePacket(ver, kind), pair{a, b})
						q := checkModule(t, impl.Module{Kind: impl.ModSnat, From: from, To: to}, p)
						if want := (pair{expectedNat(from, to, a), b}); endsOf(q) != want {
							t.Fatalf("%v to %v: %v, not %v", from, to, endsOf(q), want)
						}
						q = checkModule(t, impl.Module{Kind: impl.ModDnat, From: from, To: to}, p)
						if want := (pair{a, expectedNat(from, to, b)}); endsOf(q) != want {
							t.Fatalf("%v to %v: %v, not %v", from, to, endsOf(q), want)
						}
					}
				}
			}
		}
	}
}

// A prefix of the other Kind contains no address of a packet, even if its last
// bits are alike.
func TestNatModulesOfTheOtherKind(t *testing.T) {
	four := withEnds(somePacket(4, impl.UpTcp), pair{addrFrom("10.0.0.1"), addrFrom("10.0.0.1")})
	six := withEnds(somePacket(6, impl.UpTcp), pair{addrFrom("::a00:1"), addrFrom("::a00:1")})
	for _, kind := range natKinds() {
		for _, m := range []impl.Module{natOf(kind, "::/0", "::/0"), natOf(kind, "::/96", "1::/96"), natOf(kind, "::a00:1/128", "::7/128")} {
			checkStops(t, m, four, impl.DoPass)
			if q := checkModule(t, m, six); samePacket(q, six) != (m.From.Len == 0) {
				t.Errorf("%+v: %+v", m, q)
			}
		}
		for _, m := range []impl.Module{natOf(kind, "0.0.0.0/0", "0.0.0.0/0"), natOf(kind, "10.0.0.0/8", "11.0.0.0/8"), natOf(kind, "10.0.0.1/32", "1.2.3.4/32")} {
			checkStops(t, m, six, impl.DoPass)
			if q := checkModule(t, m, four); samePacket(q, four) != (m.From.Len == 0) {
				t.Errorf("%+v: %+v", m, q)
			}
		}
	}
}

// A module that drops the packet for each of its conditions in turn: with the
// condition just missed it leaves the packet unchanged.
func TestAclConditions(t *testing.T) {
	eachFullPacket(func(p impl.Packet) {
		k := expectedKey(p)
		size := bitCount(p.Ver)
		exact := impl.Module{Kind: impl.ModAcl, From: netMasked(k.Src, size), To: netMasked(k.Dst, size), Proto: k.Proto, Lo: k.DPort, Hi: k.DPort}
		checkStops(t, exact, p, impl.DoAcl)
		checkStops(t, wallOf(), p, impl.DoAcl)
		for _, change := range []struct {
			stops bool
			set   func(m *impl.Module)
		}{
			{true, func(m *impl.Module) { m.Proto = -1 }},
			{true, func(m *impl.Module) { m.From = impl.Prefix{} }},
			{true, func(m *impl.Module) { m.To = impl.Prefix{} }},
			{true, func(m *impl.Module) { m.From = netMasked(k.Src, 0) }},
			{true, func(m *impl.Module) { m.To = netMasked(k.Dst, 0) }},
			{true, func(m *impl.Module) { m.From = netMasked(flipped(k.Src, size-1), size-1) }},
			{true, func(m *impl.Module) { m.To = netMasked(flipped(k.Dst, 9), 9) }},
			{false, func(m *impl.Module) { m.Proto = (k.Proto + 1) % 256 }},
			{false, func(m *impl.Module) { m.Proto = (k.Proto + 255) % 256 }},
			{false, func(m *impl.Module) { m.From = netMasked(flipped(k.Src, size-1), size) }},
			{false, func(m *impl.Module) { m.To = netMasked(flipped(k.Dst, size-1), size) }},
			{false, func(m *impl.Module) { m.From = netMasked(flipped(k.Src, 0), 1) }},
			{false, func(m *impl.Module) { m.To = netMasked(flipped(k.Dst, 9), 10) }},
			{false, func(m *impl.Module) { m.From, m.To = m.To, m.From }},
			{false, func(m *impl.Module) { m.From = netMasked(zeroPair(4+6-p.Ver).src, 0) }},
			{false, func(m *impl.Module) { m.To = netMasked(zeroPair(4+6-p.Ver).src, 0) }},
		} {
			m := exact
			change.set(&m)
			code := impl.DoPass
			if change.stops {
				code = impl.DoAcl
			}
			checkStops(t, m, p, code)
		}
	})
}

// The range of ports has the port of the packet at its ends, or ends beside it.
func TestAclPorts(t *testing.T) {
	for _, ver := range bothKinds() {
		for _, kind := range upperKinds() {
			for _, port := range []int{0, 1, 80, 65534, 65535} {
				p := somePacket(ver, kind)
				if kind == impl.UpTcp || kind == impl.UpUdp {
					p.Upper.DPort = port
				} else if port > 0 {
					continue
				}
				for _, lo := range []int{0, port - 1, port, port + 1} {
					for _, hi := range []int{port - 1, port, port + 1, 65535} {
						if lo < 0 || lo > hi || hi > 65535 {
							continue
						}
						m := wallOf()
						m.Lo, m.Hi = lo, hi
						code := impl.DoPass
						if lo <= port && port <= hi {
							code = impl.DoAcl
						}
						checkStops(t, m, p, code)
					}
				}
			}
		}
	}
}

// The source port does not count.
func TestAclIgnoresTheSourcePort(t *testing.T) {
	for _, kind := range []int{impl.UpTcp, impl.UpUdp} {
		p := somePacket(4, kind)
		p.Upper.SPort, p.Upper.DPort = 80, 81
		m := wallOf()
		m.Lo, m.Hi = 80, 80
		checkStops(t, m, p, impl.DoPass)
		m.Lo, m.Hi = 81, 81
		checkStops(t, m, p, impl.DoAcl)
	}
}

// A fragment has the Proto of its packet, but the ports 0, whatever its Body
// begins with.
func TestAclOnAPiece(t *testing.T) {
	body := []byte{0, 80, 0, 80, 0, 8, 0, 0}
	for _, piece := range []impl.Packet{piecePacket(1, 0, 17, body), piecePacket(0, 1, 17, body), piecePacket(1, 8191, 17, body)} {
		m := wallOf()
		m.Proto = 17
		checkStops(t, m, piece, impl.DoAcl)
		m.Hi = 0
		checkStops(t, m, piece, impl.DoAcl)
		m.Lo, m.Hi = 1, 65535
		checkStops(t, m, piece, impl.DoPass)
		m.Lo, m.Hi = 80, 80
		checkStops(t, m, piece, impl.DoPass)
		m.Lo, m.Hi, m.Proto = 0, 65535, 0
		checkStops(t, m, piece, impl.DoPass)
	}
}

// The Proto of a packet with extension headers is what follows them.
func TestAclOnExtensionHeaders(t *testing.T) {
	p := somePacket(6, impl.UpTcp)
	p.Six.Exts = []impl.Ext{extOfSize(0, 6), extOfSize(60, 14)}
	for proto := range 256 {
		m := wallOf()
		m.Proto = proto
		code := impl.DoPass
		if proto == 6 {
			code = impl.DoAcl
		}
		checkStops(t, m, p, code)
	}
}

func TestTtlOfEveryValue(t *testing.T) {
	eachPacket(func(p impl.Packet) {
		for hops := range 256 {
			q := checkModule(t, hopModule(), withHops(p, hops))
			want := withHops(p, hops-1)
			if hops < 2 {
				checkStops(t, hopModule(), withHops(p, hops), impl.DoTtl)
				want = impl.Packet{}
			}
			if !samePacket(q, want) {
				t.Fatalf("%d: %+v", hops, q)
			}
		}
	})
}

// Every N on every Ecn and on every Class: the low two bits stay.
func TestDscpLeavesEcnUnchanged(t *testing.T) {
	for n := range 64 {
		for mark := range 256 {
			for _, ver := range bothKinds() {
				p := withMark(somePacket(ver, impl.UpUdp), mark)
				q, code := impl.ModuleDo(dscpOf(n), p)
				if want := withMark(p, 4*n+mark%4); code != impl.DoPass || !samePacket(q, want) {
					t.Fatalf("%d on %d: %+v %d", n, mark, q, code)
				}
			}
		}
	}
	eachFullPacket(func(p impl.Packet) {
		for mark := range 4 {
			p = withMark(p, 64+mark)
			q := checkModule(t, dscpOf(63), p)
			if markIn(q) != 252+mark {
				t.Fatalf("%+v", q)
			}
			checkModule(t, dscpOf(0), p)
		}
	})
}

func TestMarkedOfEveryMark(t *testing.T) {
	eachFullPacket(func(p impl.Packet) {
		for mark := range 256 {
			p = withMark(p, mark)
			before := ownPacket(p)
			q, ok := impl.Marked(p)
			want := withMark(p, expectedMark(mark))
			if !samePacket(q, want) || ok != (mark%4 == 1 || mark%4 == 2) || !samePacket(p, before) {
				t.Fatalf("%d: %+v %v", mark, q, ok)
			}
			again, ok := impl.Marked(q)
			if ok || !samePacket(again, q) {
				t.Fatalf("%d, marked twice: %+v %v", mark, again, ok)
			}
			if mark < 8 || mark > 251 {
				checkPacketRecovered(t, q)
				checkModule(t, ecnModule(), p)
			}
		}
	})
}

// badPackets has packets with one thing wrong each, in each of their parts, on
// their last hop.
func badPackets() []impl.Packet {
	list := []impl.Packet{{}, {Ver: 4}, {Ver: 6}}
	eachPacket(func(p impl.Packet) {
		p = withHops(p, 1)
		for _, set := range []func(q *impl.Packet){
			func(q *impl.Packet) { q.Ver = 5 },
			func(q *impl.Packet) { q.Ver = 10 - q.Ver },
			func(q *impl.Packet) { q.Ether.Kind++ },
			func(q *impl.Packet) { q.Ether.Tag = -2 },
			func(q *impl.Packet) { q.Ether.Dst = impl.MaxMac + 1 },
			func(q *impl.Packet) { q.Ether.Body = []byte{0} },
			func(q *impl.Packet) { q.Four.Body = []byte{0} },
			func(q *impl.Packet) { q.Six.Body = []byte{0} },
			func(q *impl.Packet) { q.Upper.Kind = 4 },
			func(q *impl.Packet) { q.Upper.Kind, q.Upper.NoSum = impl.UpTcp, true },
			func(q *impl.Packet) { q.Upper.Body = sampleBytes(impl.MaxInner) },
			func(q *impl.Packet) { q.Pad = sampleBytes(impl.MaxFrame) },
			func(q *impl.Packet) { *q = withHops(*q, 256) },
			func(q *impl.Packet) { *q = withHops(*q, -1) },
			func(q *impl.Packet) { q.Four.Dscp, q.Six.Class = 64, 256 },
			func(q *impl.Packet) { q.Four.Ecn, q.Six.Class = -1, -1 },
			func(q *impl.Packet) { *q = withEnds(*q, pair{impl.Addr{}, endsOf(*q).dst}) },
			func(q *impl.Packet) { *q = withEnds(*q, pair{endsOf(*q).src, somePair(10 - q.Ver).dst}) },
		} {
			q := p
			set(&q)
			list = append(list, q)
		}
	})
	piece := somePacket(4, impl.UpTcp)
	piece.Four.Flags = 1
	return append(list, piece)
}

func TestModulesOnBadPackets(t *testing.T) {
	for _, p := range badPackets() {
		checkPacketInvalid(t, p)
		if q, ok := impl.Marked(p); ok || !noPacket(q) {
			t.Errorf("%+v: marked as %+v %v", p, q, ok)
		}
		checkChainForm(t, nil, p, noMeters())
		for _, kind := range moduleKinds() {
			for _, ver := range bothKinds() {
				m := someModule(kind, ver)
				if q, code := impl.ModuleDo(m, p); code != impl.DoForm || !noPacket(q) {
					t.Errorf("%+v, %+v: %+v %d", m, p, q, code)
				}
				checkChainForm(t, []impl.Module{m}, p, noMeters())
			}
		}
		// What is not valid is not dropped for another reason.
		for _, m := range []impl.Module{wallOf(), hopModule(), {}, dscpOf(64)} {
			if q, code := impl.ModuleDo(m, p); code != impl.DoForm || !noPacket(q) {
				t.Errorf("%+v, %+v: %+v %d", m, p, q, code)
			}
			checkChainForm(t, []impl.Module{meterOf(1), m}, p, noMeters())
		}
	}
}

// badMeters has lists of other lengths, and with one number wrong in each
// place.
func badMeters() [][]int {
	list := [][]int{nil, {}, {0}, {0, 0, 0}, {0, 0, 0, 0, 0}, {1, 2, 3, 4, 5, 6, 7, 8}}
	for at := range impl.MaxMeter {
		for _, n := range []int{-1, impl.MaxCount + 1, -impl.MaxCount, 2 * impl.MaxCount, math.MaxInt, math.MinInt} {
			meters := []int{5, 0, impl.MaxCount, 7}
			meters[at] = n
			list = append(list, meters)
		}
	}
	return list
}

// Meters that are not valid are refused also where no module counts into them,
// and where the packet would be dropped before.
func TestChainWithBadMeters(t *testing.T) {
	for _, meters := range badMeters() {
		eachPacket(func(p impl.Packet) {
			checkChainForm(t, nil, p, meters)
			for _, m := range []impl.Module{wallOf(), hopModule(), dscpOf(5), ecnModule(), meterOf(1), meterOf(2), meterOf(3), meterOf(4), {}} {
				checkChainForm(t, []impl.Module{m}, p, meters)
				checkChainForm(t, []impl.Module{m, meterOf(4)}, withHops(p, 1), meters)
			}
			checkChainForm(t, slices.Repeat([]impl.Module{meterOf(1)}, impl.MaxMods+1), p, meters)
			checkChainForm(t, nil, impl.Packet{}, meters)
		})
	}
}

// A module that is not valid comes first, whatever is before it in the chain
// and would drop the packet.
func TestChainWithSeveralFaults(t *testing.T) {
	p := withHops(somePacket(4, impl.UpTcp), 1)
	for _, m := range []impl.Module{{}, {Kind: 8}, dscpOf(64), meterOf(0), meterOf(5), natOf(impl.ModSnat, "any", "any"), natOf(impl.ModDnat, "10.0.0.0/8", "10.0.0.0/9")} {
		for _, before := range []impl.Module{wallOf(), hopModule(), meterOf(1), m} {
			checkChainForm(t, []impl.Module{before, m}, p, noMeters())
			checkChainForm(t, []impl.Module{before, m}, impl.Packet{}, noMeters())
			checkChainForm(t, []impl.Module{before, m}, p, nil)
			checkChainForm(t, []impl.Module{before, m}, impl.Packet{}, nil)
		}
	}
}

func TestChainLengths(t *testing.T) {
	for _, kind := range moduleKinds() {
		for size := range impl.MaxMods + 3 {
			chain := slices.Repeat([]impl.Module{someModule(kind, 4)}, size)
			if impl.ChainOk(chain) != (size <= impl.MaxMods) {
				t.Errorf("%d modules of Kind %d: %v", size, kind, impl.ChainOk(chain))
			}
			if size > impl.MaxMods {
				eachPacket(func(p impl.Packet) { checkChainForm(t, chain, p, noMeters()) })
				if back := impl.BackChain(chain); back != nil {
					t.Errorf("%+v", back)
				}
				continue
			}
			eachPacket(func(p impl.Packet) { checkChain(t, chain, p, noMeters()) })
			for at := range size {
				bad := slices.Clone(chain)
				bad[at].Lo = -1
				if impl.ChainOk(bad) || impl.BackChain(bad) != nil {
					t.Errorf("valid: %+v", bad)
				}
				checkChainForm(t, bad, somePacket(4, impl.UpUdp), noMeters())
			}
		}
	}
	if impl.ChainOk(slices.Repeat([]impl.Module{hopModule()}, 70000)) {
		t.Error("70000 modules")
	}
}

func TestEmptyChain(t *testing.T) {
	if !impl.ChainOk(nil) || !impl.ChainOk([]impl.Module{}) || len(impl.BackChain(nil)) != 0 {
		t.Error("the empty chain")
	}
	eachFullPacket(func(p impl.Packet) {
		for _, meters := range [][]int{noMeters(), {1, 2, 3, 4}, {impl.MaxCount, 0, impl.MaxCount - 1, impl.MaxCount}} {
			for _, chain := range [][]impl.Module{nil, {}} {
				q, counts := checkChain(t, chain, p, meters)
				if !samePacket(p, q) || !slices.Equal(counts, meters) {
					t.Fatalf("%+v %v", q, counts)
				}
			}
		}
	})
}

// exampleChain is the chapter's example.
func exampleChain() []impl.Module {
	return []impl.Module{meterOf(2), natOf(impl.ModSnat, "10.0.0.0/24", "192.168.0.0/24"), hopModule(), hopModule(), meterOf(1)}
}

func TestChainExample(t *testing.T) {
	p := impl.Packet{Ver: 4, Ether: impl.Ether{Tag: -1, Kind: fourEther}, Upper: impl.Upper{Kind: impl.UpTcp, SPort: 7, DPort: 80, Body: []byte{9}}}
	p.Four = impl.Four{Ttl: 2, Proto: 6, Src: addrFrom("10.0.0.1"), Dst: addrFrom("0.0.0.5")}
	if impl.PacketSize(p) != 55 {
		t.Fatal(impl.PacketSize(p))
	}
	q, counts, code := impl.ChainDo(exampleChain(), p, []int{3, 5, 7, 9})
	if code != impl.DoTtl || !noPacket(q) || !slices.Equal(counts, []int{3, 60, 7, 9}) {
		t.Errorf("%+v %v %d", q, counts, code)
	}
	p.Four.Ttl = 3
	q, counts, code = impl.ChainDo(exampleChain(), p, []int{3, 5, 7, 9})
	p.Four.Ttl, p.Four.Src = 1, addrFrom("192.168.0.1")
	if code != impl.DoPass || !samePacket(q, p) || !slices.Equal(counts, []int{58, 60, 7, 9}) {
		t.Errorf("%+v %v %d", q, counts, code)
	}
	checkPacketRecovered(t, q)
}

// A packet that is dropped was counted by the meters before that, and by no
// others, at each place of the chain.
func TestMetersBeforeADrop(t *testing.T) {
	eachPacket(func(p impl.Packet) {
		p = withHops(p, 1)
		size := len(expectedPacket(p))
		for _, drop := range []struct {
			m    impl.Module
			code int
		}{{wallOf(), impl.DoAcl}, {hopModule(), impl.DoTtl}} {
			for at := range impl.MaxMods {
				chain := slices.Repeat([]impl.Module{meterOf(4)}, impl.MaxMods)
				chain[at] = drop.m
				checkChain(t, chain, p, noMeters())
				q, counts, code := impl.ChainDo(chain, p, []int{1, 2, 3, 4})
				if code != drop.code || !noPacket(q) || !slices.Equal(counts, []int{1, 2, 3, 4 + at*size}) {
					t.Fatalf("%+v: %+v %v %d", chain, q, counts, code)
				}
			}
		}
	})
}

// The first module that drops the packet gives the code.
func TestTheFirstDropCounts(t *testing.T) {
	p := withHops(somePacket(6, impl.UpUdp), 1)
	for _, c := range []struct {
		chain []impl.Module
		want  int
	}{
		{[]impl.Module{wallOf(), hopModule()}, impl.DoAcl},
		{[]impl.Module{hopModule(), wallOf()}, impl.DoTtl},
		{[]impl.Module{meterOf(1), dscpOf(3), ecnModule(), wallOf(), hopModule()}, impl.DoAcl},
		{[]impl.Module{meterOf(1), dscpOf(3), ecnModule(), hopModule(), wallOf()}, impl.DoTtl},
	} {
		checkChain(t, c.chain, p, noMeters())
		if _, _, code := impl.ChainDo(c.chain, p, noMeters()); code != c.want {
			t.Errorf("%+v: %d", c.chain, code)
		}
	}
}

// Each module is given what the one before it has made of the packet.
func TestModulesInOrder(t *testing.T) {
	p := withEnds(somePacket(4, impl.UpTcp), pair{addrFrom("10.0.0.7"), addrFrom("20.0.0.7")})
	wall := func(from string, to string) impl.Module {
		m := wallOf()
		m.From, m.To = prefixFrom(from), prefixFrom(to)
		return m
	}
	source := natOf(impl.ModSnat, "10.0.0.0/24", "11.0.0.0/24")
	next := natOf(impl.ModSnat, "11.0.0.0/16", "12.0.0.0/16")
	target := natOf(impl.ModDnat, "20.0.0.0/8", "21.0.0.0/8")
	for _, c := range []struct {
		chain    []impl.Module
		code     int
		src, dst string
	}{
		{[]impl.Module{source, next}, impl.DoPass, "12.0.0.7", "20.0.0.7"},
		{[]impl.Module{next, source}, impl.DoPass, "11.0.0.7", "20.0.0.7"},
		{[]impl.Module{source, target}, impl.DoPass, "11.0.0.7", "21.0.0.7"},
		{[]impl.Module{target, target, source}, impl.DoPass, "11.0.0.7", "21.0.0.7"},
		{[]impl.Module{source, wall("10.0.0.0/8", "any")}, impl.DoPass, "11.0.0.7", "20.0.0.7"},
		{[]impl.Module{source, wall("11.0.0.0/8", "any")}, impl.DoAcl, "", ""},
		{[]impl.Module{target, wall("any", "20.0.0.0/8")}, impl.DoPass, "10.0.0.7", "21.0.0.7"},
		{[]impl.Module{target, wall("any", "21.0.0.7/32")}, impl.DoAcl, "", ""},
		{[]impl.Module{wall("11.0.0.0/8", "any"), source}, impl.DoPass, "11.0.0.7", "20.0.0.7"},
		{[]impl.Module{wall("10.0.0.0/8", "any"), source}, impl.DoAcl, "", ""},
	} {
		checkChain(t, c.chain, p, noMeters())
		q, _, code := impl.ChainDo(c.chain, p, noMeters())
		if code != c.code || code == impl.DoPass && endsOf(q) != (pair{addrFrom(c.src), addrFrom(c.dst)}) {
			t.Errorf("%+v: %v %d", c.chain, endsOf(q), code)
		}
	}
	q, _ := checkChain(t, []impl.Module{dscpOf(5), ecnModule(), dscpOf(9), hopModule(), hopModule()}, p, noMeters())
	if markIn(q) != 4*9+3 || hopsIn(q) != 62 {
		t.Errorf("%+v", q)
	}
}

func TestEightHops(t *testing.T) {
	chain := slices.Repeat([]impl.Module{hopModule()}, impl.MaxMods)
	eachPacket(func(p impl.Packet) {
		for hops := range 20 {
			q, _ := checkChain(t, chain, withHops(p, hops), noMeters())
			want := impl.Packet{}
			if hops > 8 {
				want = withHops(p, hops-8)
			}
			if !samePacket(q, want) {
				t.Errorf("%d: %+v", hops, q)
			}
		}
	})
}

// P11: meters count sizes up to MaxCount, with the head, the Tag and the Pad.
func TestMetersCountUpToTheLimit(t *testing.T) {
	eachFullPacket(func(p impl.Packet) {
		size := len(expectedPacket(p))
		for n := 1; n <= impl.MaxMeter; n++ {
			for _, c := range []struct{ was, want int }{
				{0, size}, {1, size + 1}, {123456789, 123456789 + size},
				{impl.MaxCount - size - 1, impl.MaxCount - 1}, {impl.MaxCount - size, impl.MaxCount}, {impl.MaxCount - size + 1, impl.MaxCount},
				{impl.MaxCount - 1, impl.MaxCount}, {impl.MaxCount, impl.MaxCount},
			} {
				meters := []int{10, 20, 30, impl.MaxCount}
				meters[n-1] = c.was
				want := slices.Clone(meters)
				want[n-1] = c.want
				q, counts := checkChain(t, []impl.Module{meterOf(n)}, p, meters)
				if !samePacket(p, q) || !slices.Equal(counts, want) {
					t.Fatalf("%v: %v, not %v", meters, counts, want)
				}
			}
		}
	})
}

// Several meters with the same N count into the same element, each one anew.
func TestMetersOfTheSameN(t *testing.T) {
	eachPacket(func(p impl.Packet) {
		size := len(expectedPacket(p))
		for _, c := range []struct {
			numbers      []int
			meters, want []int
		}{
			{[]int{1, 1}, []int{0, 0, 0, 0}, []int{2 * size, 0, 0, 0}},
			{[]int{2, 1, 2, 4, 2}, []int{5, 6, 7, 8}, []int{5 + size, 6 + 3*size, 7, 8 + size}},
			{[]int{1, 2, 3, 4}, []int{0, 0, 0, 0}, []int{size, size, size, size}},
			{[]int{4, 3, 2, 1, 1, 2, 3, 4}, []int{0, 1, 2, 3}, []int{2 * size, 2*size + 1, 2*size + 2, 2*size + 3}},
			{[]int{3, 3, 3, 3, 3, 3, 3, 3}, []int{1, 1, 1, 1}, []int{1, 1, 1 + 8*size, 1}},
			{[]int{3, 3}, []int{1, 1, impl.MaxCount - size - 1, 1}, []int{1, 1, impl.MaxCount, 1}},
			{[]int{3, 3}, []int{1, 1, impl.MaxCount - 2*size, 1}, []int{1, 1, impl.MaxCount, 1}},
		} {
			var chain []impl.Module
			for _, n := range c.numbers {
				chain = append(chain, meterOf(n))
			}
			if _, counts := checkChain(t, chain, p, c.meters); !slices.Equal(counts, c.want) {
				t.Fatalf("%v, %v: %v, not %v", c.numbers, c.meters, counts, c.want)
			}
		}
	})
}

func TestModuleDoCountsNothing(t *testing.T) {
	for n := 1; n <= impl.MaxMeter; n++ {
		eachFullPacket(func(p impl.Packet) { checkStops(t, meterOf(n), p, impl.DoPass) })
	}
}

// randomModule is as likely as not to find the addresses of p.
func randomModule(source *rand.Rand, p impl.Packet, kind int) impl.Module {
	ends := endsOf(p)
	size := source.Intn(bitCount(p.Ver) + 1)
	some := func(a impl.Addr) impl.Prefix {
		if source.Intn(2) == 0 {
			return netMasked(flipped(a, source.Intn(bitCount(p.Ver))), size)
		}
		return netMasked(a, size)
	}
	m := impl.Module{Kind: kind}
	switch kind {
	case impl.ModAcl:
		m = wallOf()
		if source.Intn(2) == 0 {
			m.From, m.To = some(ends.src), some(ends.dst)
		}
		if source.Intn(2) == 0 {
			m.Proto = []int{1, 6, 17, 58, 0, 255}[source.Intn(6)]
		}
		if source.Intn(2) == 0 {
			m.Lo = source.Intn(65536)
			m.Hi = m.Lo + source.Intn(65536-m.Lo)
		}
	case impl.ModSnat:
		m.From, m.To = some(ends.src), netMasked(randomAddr(source, p.Ver), size)
	case impl.ModDnat:
		m.From, m.To = some(ends.dst), netMasked(randomAddr(source, p.Ver), size)
	case impl.ModDscp:
		m.N = source.Intn(64)
	case impl.ModMeter:
		m.N = 1 + source.Intn(impl.MaxMeter)
	}
	return m
}

func TestRandomChains(t *testing.T) {
	source := rand.New(rand.NewSource(102))
	seen := map[int]int{}
	for range 4000 {
		p := randomPacket(source, bothKinds()[source.Intn(2)], upperKinds()[source.Intn(4)])
		p = withHops(p, source.Intn(6))
		var chain []impl.Module
		now := p
		for range source.Intn(impl.MaxMods + 1) {
			m := randomModule(source, now, moduleKinds()[source.Intn(7)])
			chain = append(chain, m)
			if next, code := expectedDo(m, now); code == impl.DoPass {
				now = next
			}
		}
		meters := noMeters()
		for i := range meters {
			meters[i] = []int{0, source.Intn(impl.MaxCount), impl.MaxCount - source.Intn(2000), impl.MaxCount}[source.Intn(4)]
		}
		checkChain(t, chain, p, meters)
		_, _, code := expectedChain(chain, p, meters)
		seen[code]++
	}
	for _, code := range []int{impl.DoPass, impl.DoAcl, impl.DoTtl} {
		if seen[code] < 300 {
			t.Errorf("code %d was seen %d times", code, seen[code])
		}
	}
}

func addrWords(a impl.Addr) []int {
	var words []int
	for data := netAddr(a).AsSlice(); len(data) > 0; data = data[2:] {
		words = append(words, int(binary.BigEndian.Uint16(data)))
	}
	return words
}

// frameSums are the header checksum of a frame of Ver 4 and the checksum of its
// Upper, or -1 where there is none.
func frameSums(p impl.Packet) (int, int) {
	data := impl.PacketBytes(p)[headSize(p.Ether.Tag):]
	head, start := -1, sixStart+expectedExtsSize(p.Six.Exts)
	if p.Ver == 4 {
		head, start = wordAt(data, 5), fourStart+len(p.Four.Options)
	}
	if p.Upper.Kind == impl.UpOther {
		return head, -1
	}
	return head, wordAt(data[start:], sumPlace(p.Upper.Kind)/2)
}

// P11: the header checksum is updated by SumSwap for a hop, which is no part of
// the checksum of what is inside.
func checkHopSums(t *testing.T, p impl.Packet) {
	t.Helper()
	q, code := impl.ModuleDo(hopModule(), p)
	if code != impl.DoPass {
		t.Fatalf("%+v: %d", p, code)
	}
	head, inside := frameSums(p)
	if p.Ver == 4 {
		head = impl.SumSwap(head, 256*p.Four.Ttl+p.Four.Proto, 256*(p.Four.Ttl-1)+p.Four.Proto)
	}
	if gotHead, gotInside := frameSums(q); gotHead != head || gotInside != inside {
		t.Fatalf("%+v: checksums %d and %d, not %d and %d", p, gotHead, gotInside, head, inside)
	}
}

func TestHopChecksums(t *testing.T) {
	eachFullPacket(func(p impl.Packet) {
		for hops := 2; hops < 256; hops++ {
			checkHopSums(t, withHops(p, hops))
		}
	})
	// Checksums of 0 before the hop and after it.
	for _, options := range fourOptions() {
		p := piecePacket(1, 0, 17, nil)
		p.Four = zeroSumFour(options)
		p.Upper, p.Four.Body = impl.Upper{Body: p.Four.Body}, nil
		checkHopSums(t, p)
		p.Four.Id = impl.SumSwap(p.Four.Id, 256, 0)
		checkHopSums(t, p)
		before, _ := frameSums(p)
		q, _ := impl.ModuleDo(hopModule(), p)
		if after, _ := frameSums(q); before == 0 || after != 0 {
			t.Errorf("checksums %d and %d", before, after)
		}
	}
}

// swapped is SumSwaps for the addresses, where a datagram has 65535 in place of
// 0.
func swapped(p impl.Packet, sum int, was []int, is []int) int {
	if sum == -1 || p.Upper.NoSum || p.Ver == 4 && p.Upper.Kind == impl.UpIcmp {
		return sum
	}
	sum = impl.SumSwaps(sum, was, is)
	if p.Upper.Kind == impl.UpUdp && sum == 0 {
		return lastWord
	}
	return sum
}

// P11: the checksums are updated by SumSwaps for a source address, and for a
// destination address as well.
func checkNatSums(t *testing.T, p impl.Packet, m impl.Module) {
	t.Helper()
	q, code := impl.ModuleDo(m, p)
	if code != impl.DoPass || samePacket(p, q) {
		t.Fatalf("%+v, %+v: %+v %d", m, p, q, code)
	}
	was, is := addrWords(endsOf(p).src), addrWords(endsOf(q).src)
	if m.Kind == impl.ModDnat {
		was, is = addrWords(endsOf(p).dst), addrWords(endsOf(q).dst)
	}
	head, inside := frameSums(p)
	if p.Ver == 4 {
		head = impl.SumSwaps(head, was, is)
	}
	inside = swapped(p, inside, was, is)
	if gotHead, gotInside := frameSums(q); gotHead != head || gotInside != inside {
		t.Fatalf("%+v, %+v: checksums %d and %d, not %d and %d", m, p, gotHead, gotInside, head, inside)
	}
}

func TestAddressChecksums(t *testing.T) {
	source := rand.New(rand.NewSource(103))
	eachFullPacket(func(p impl.Packet) {
		for range 40 {
			p = withEnds(p, pair{randomAddr(source, p.Ver), randomAddr(source, p.Ver)})
			size := 1 + source.Intn(bitCount(p.Ver))
			src, dst := netMasked(endsOf(p).src, size), netMasked(endsOf(p).dst, size)
			other := netMasked(flipped(src.Base, source.Intn(size)), size)
			checkNatSums(t, p, impl.Module{Kind: impl.ModSnat, From: src, To: other})
			other = netMasked(flipped(dst.Base, source.Intn(size)), size)
			checkNatSums(t, p, impl.Module{Kind: impl.ModDnat, From: dst, To: other})
		}
	})
	// Checksums that come out as 0 or 65535 before and after.
	for _, ver := range bothKinds() {
		for _, kind := range []int{impl.UpTcp, impl.UpUdp, impl.UpIcmp} {
			for _, want := range []int{0, 1, 65534} {
				p := somePacket(ver, kind)
				whole := impl.Prefix{Base: endsOf(p).src, Len: bitCount(ver)}
				for bit := range bitCount(ver) {
					to := impl.Prefix{Base: flipped(whole.Base, bit), Len: whole.Len}
					p.Upper = summedTo(p.Upper, endsOf(p), want)
					checkNatSums(t, p, impl.Module{Kind: impl.ModSnat, From: whole, To: to})
					p.Upper = summedTo(p.Upper, pair{to.Base, endsOf(p).dst}, want)
					checkNatSums(t, p, impl.Module{Kind: impl.ModSnat, From: whole, To: to})
				}
			}
		}
	}
}

// A datagram without a checksum has none after a translation either.
func TestNatWithoutSum(t *testing.T) {
	p := somePacket(4, impl.UpUdp)
	p.Upper.NoSum = true
	for _, kind := range natKinds() {
		q := checkModule(t, someModule(kind, 4), p)
		if _, sum := frameSums(q); sum != 0 || !q.Upper.NoSum || samePacket(p, q) {
			t.Errorf("%+v", q)
		}
	}
}

// expectedBack turns the chain around by an index.
func expectedBack(chain []impl.Module) []impl.Module {
	var back []impl.Module
	for i := range chain {
		m := chain[len(chain)-1-i]
		if isNat(m.Kind) {
			back = append(back, impl.Module{Kind: impl.ModSnat + impl.ModDnat - m.Kind, From: m.To, To: m.From})
		}
	}
	return back
}

func checkBack(t *testing.T, chain []impl.Module) []impl.Module {
	t.Helper()
	before := slices.Clone(chain)
	back := impl.BackChain(chain)
	if !slices.Equal(back, expectedBack(chain)) || !impl.ChainOk(back) || !slices.Equal(chain, before) {
		t.Fatalf("%+v: back by %+v", chain, back)
	}
	return back
}

func TestBackChain(t *testing.T) {
	source, target := natOf(impl.ModSnat, "10.0.0.0/8", "11.0.0.0/8"), natOf(impl.ModDnat, "2001:db8::/32", "fe80::/32")
	for _, c := range []struct{ chain, want []impl.Module }{
		{nil, nil},
		{[]impl.Module{hopModule(), meterOf(1), dscpOf(2), ecnModule(), wallOf()}, nil},
		{[]impl.Module{source}, []impl.Module{natOf(impl.ModDnat, "11.0.0.0/8", "10.0.0.0/8")}},
		{[]impl.Module{target}, []impl.Module{natOf(impl.ModSnat, "fe80::/32", "2001:db8::/32")}},
		{[]impl.Module{source, target}, []impl.Module{natOf(impl.ModSnat, "fe80::/32", "2001:db8::/32"), natOf(impl.ModDnat, "11.0.0.0/8", "10.0.0.0/8")}},
		{exampleChain(), []impl.Module{natOf(impl.ModDnat, "192.168.0.0/24", "10.0.0.0/24")}},
	} {
		if back := checkBack(t, c.chain); !slices.Equal(back, c.want) {
			t.Errorf("%+v: %+v", c.chain, back)
		}
	}
	for _, kind := range natKinds() {
		checkBack(t, slices.Repeat([]impl.Module{someModule(kind, 6)}, impl.MaxMods))
	}
}

func turnedPacket(p impl.Packet) impl.Packet {
	p = withEnds(p, endsOf(p).turned())
	p.Upper.SPort, p.Upper.DPort = p.Upper.DPort, p.Upper.SPort
	return p
}

// P11: if all address modules find their address, the reply reaches the
// original ones.
func checkReply(t *testing.T, chain []impl.Module, p impl.Packet) {
	t.Helper()
	q, _ := checkChain(t, chain, p, noMeters())
	back, counts := checkChain(t, checkBack(t, chain), turnedPacket(q), noMeters())
	if endsOf(back).turned() != endsOf(p) || !slices.Equal(counts, noMeters()) {
		t.Fatalf("%+v: from %v to %v, back to %v", chain, endsOf(p), endsOf(q), endsOf(back))
	}
	if impl.KeyOf(back) != impl.Turned(impl.KeyOf(p)) {
		t.Fatalf("%+v: %+v", chain, impl.KeyOf(back))
	}
}

// findingModule finds the address of p. Its prefixes may be the same ones as
// those of the module before it, the other way round.
func findingModule(source *rand.Rand, p impl.Packet, kind int, last impl.Module) impl.Module {
	a := endsOf(p).src
	if kind == impl.ModDnat {
		a = endsOf(p).dst
	}
	if isNat(last.Kind) && expectedContains(last.To, a) && source.Intn(2) == 0 {
		return impl.Module{Kind: kind, From: last.To, To: last.From}
	}
	size := source.Intn(bitCount(p.Ver) + 1)
	return impl.Module{Kind: kind, From: netMasked(a, size), To: netMasked(randomAddr(source, p.Ver), size)}
}

func TestRepliesReachTheOriginalAddresses(t *testing.T) {
	source := rand.New(rand.NewSource(104))
	for round := range 1500 {
		p := withHops(randomPacket(source, bothKinds()[source.Intn(2)], upperKinds()[source.Intn(4)]), 255)
		var chain []impl.Module
		now := p
		var last impl.Module
		for range round % (impl.MaxMods + 1) {
			m := randomModule(source, now, impl.ModTtl+source.Intn(4))
			if source.Intn(3) > 0 {
				m = findingModule(source, now, natKinds()[source.Intn(2)], last)
			}
			chain, last = append(chain, m), m
			now, _ = expectedDo(m, now)
		}
		checkReply(t, chain, p)
	}
}

// Every list of MaxMods modules of the two Kinds, which all find their address.
func TestRepliesAfterEightTranslations(t *testing.T) {
	source := rand.New(rand.NewSource(105))
	for choice := range 1 << impl.MaxMods {
		for _, ver := range bothKinds() {
			p := somePacket(ver, upperKinds()[choice%4])
			var chain []impl.Module
			now := p
			for i := range impl.MaxMods {
				m := findingModule(source, now, natKinds()[choice>>i&1], impl.Module{})
				chain = append(chain, m)
				now, _ = expectedDo(m, now)
			}
			checkReply(t, chain, p)
		}
	}
}

// widePacket is the packet with spare capacity behind each list, all of it
// filled with 91.
func widePacket(p impl.Packet) impl.Packet {
	widen := func(part []byte) []byte {
		return joined(part, bytes.Repeat([]byte{91}, 8))[:len(part)]
	}
	p.Ether.Body, p.Four.Body, p.Six.Body = widen(nil), widen(nil), widen(nil)
	p.Four.Options, p.Upper.Options = widen(p.Four.Options), widen(p.Upper.Options)
	p.Upper.Body, p.Pad = widen(p.Upper.Body), widen(p.Pad)
	exts := append(slices.Clone(p.Six.Exts), impl.Ext{Kind: 91, Body: []byte{91}}, impl.Ext{Kind: 91})
	for i, e := range p.Six.Exts {
		exts[i].Body = widen(e.Body)
	}
	p.Six.Exts = exts[:len(p.Six.Exts)]
	return p
}

// wholeParts is a copy of all that the lists of a packet have room for.
func wholeParts(p impl.Packet) [][]byte {
	var parts [][]byte
	for _, part := range packetParts(p) {
		parts = append(parts, bytes.Clone(part))
	}
	for _, e := range p.Six.Exts[:cap(p.Six.Exts)] {
		parts = append(parts, []byte{byte(e.Kind)}, bytes.Clone(e.Body))
	}
	return parts
}

func sameParts(a [][]byte, b [][]byte) bool { return slices.EqualFunc(a, b, bytes.Equal) }

// checkPartsAreOwn writes into all that a result has room for: that must change
// neither the packet p, nor another part of the result.
func checkPartsAreOwn(t *testing.T, name any, q impl.Packet, p impl.Packet) {
	t.Helper()
	before := wholeParts(p)
	parts := packetParts(q)
	for i, part := range parts {
		fill(part, byte(100+i))
	}
	for i, part := range parts {
		if !bytes.Equal(part, bytes.Repeat([]byte{byte(100 + i)}, len(part))) {
			t.Fatalf("%v: part %d changes with another one", name, i)
		}
	}
	exts := q.Six.Exts[:cap(q.Six.Exts)]
	for i := range exts {
		exts[i] = impl.Ext{Kind: 200, Body: []byte{200}}
	}
	if !sameParts(wholeParts(p), before) {
		t.Fatalf("%v: the packet changes with the result", name)
	}
}

// checkOwnMemory asks for the result twice: the first one is overwritten, and
// the second one must be left as it was when the packet is overwritten, too.
func checkOwnMemory(t *testing.T, name any, p impl.Packet, do func(p impl.Packet) impl.Packet) {
	t.Helper()
	given := widePacket(p)
	before := wholeParts(given)
	first, second := do(given), do(given)
	if !sameParts(wholeParts(given), before) {
		t.Fatalf("%v: the packet is changed", name)
	}
	want := ownPacket(second)
	checkPartsAreOwn(t, name, first, given)
	if !samePacket(second, want) {
		t.Fatalf("%v: a result changes with another one", name)
	}
	checkPartsAreOwn(t, name, given, second)
	if !samePacket(second, want) {
		t.Fatalf("%v: a result changes with the packet", name)
	}
}

func TestModuleResultsAreNew(t *testing.T) {
	eachFullPacket(func(p impl.Packet) {
		for _, kind := range moduleKinds() {
			m := someModule(kind, p.Ver)
			checkOwnMemory(t, kind, p, func(p impl.Packet) impl.Packet {
				q, _ := impl.ModuleDo(m, p)
				return q
			})
		}
		for _, chain := range [][]impl.Module{nil, {hopModule()}, {meterOf(1), ecnModule(), someModule(impl.ModSnat, p.Ver)}, slices.Repeat([]impl.Module{hopModule()}, 8)} {
			checkOwnMemory(t, chain, p, func(p impl.Packet) impl.Packet {
				q, _, _ := impl.ChainDo(chain, p, noMeters())
				return q
			})
		}
		for mark := range 4 {
			checkOwnMemory(t, "Marked", withMark(p, mark), func(p impl.Packet) impl.Packet {
				q, _ := impl.Marked(p)
				return q
			})
		}
	})
}

// The meters and the chain are neither changed nor shared, and what lies behind
// them is neither read nor changed.
func TestMetersAndChainsAreLeftAlone(t *testing.T) {
	p := withHops(somePacket(4, impl.UpTcp), 3)
	for _, chain := range [][]impl.Module{
		nil, {meterOf(1)}, {meterOf(4), hopModule(), meterOf(4)}, {meterOf(2), wallOf()}, slices.Repeat([]impl.Module{hopModule()}, 8), exampleChain(),
		{someModule(impl.ModSnat, 4), someModule(impl.ModDnat, 4), someModule(impl.ModSnat, 6)},
	} {
		meters := []int{1, 2, 3, 4, -5, -6, -7}
		modules := append(slices.Clone(chain), impl.Module{Kind: 99}, impl.Module{N: 99})
		before := slices.Clone(modules)
		chain = modules[:len(chain)]
		_, counts, _ := impl.ChainDo(chain, p, meters[:4])
		_, again, _ := impl.ChainDo(chain, p, meters[:4])
		back, backAgain := impl.BackChain(chain), impl.BackChain(chain)
		if _, want, _ := expectedChain(chain, p, meters[:4]); !slices.Equal(counts, want) || !slices.Equal(back, expectedBack(chain)) || !impl.ChainOk(chain) {
			t.Fatalf("%+v: %v, back by %+v", chain, counts, back)
		}
		want, wantBack := slices.Clone(again), slices.Clone(backAgain)
		counts, back = counts[:cap(counts)], back[:cap(back)]
		for i := range counts {
			counts[i] = 77
		}
		for i := range back {
			back[i] = impl.Module{Kind: 77}
		}
		if !slices.Equal(meters, []int{1, 2, 3, 4, -5, -6, -7}) || !slices.Equal(modules, before) {
			t.Fatalf("%+v: an argument is changed, or changes with a result", chain)
		}
		fillModules(modules, impl.Module{Kind: 78})
		copy(meters, []int{78, 78, 78, 78})
		if !slices.Equal(again, want) || !slices.Equal(backAgain, wantBack) {
			t.Fatalf("%+v: a result changes with an argument or another result", chain)
		}
	}
}

func fillModules(list []impl.Module, m impl.Module) {
	for i := range list {
		list[i] = m
	}
}

// With a code other than DoPass the meters are new, too.
func TestMetersOfADroppedPacketAreNew(t *testing.T) {
	for _, chain := range [][]impl.Module{{wallOf()}, {hopModule()}} {
		meters := []int{1, 2, 3, 4}
		_, counts, code := impl.ChainDo(chain, withHops(somePacket(6, impl.UpTcp), 1), meters)
		counts[0] = 99
		if code == impl.DoPass || meters[0] != 1 {
			t.Errorf("%v %d", meters, code)
		}
	}
}
