package tests

import (
	"fmt"
	"math"
	"math/rand"
	"net/netip"
	"regexp"
	"slices"
	"strconv"
	"strings"
	"testing"

	"loop.example/g00655/impl"
)

const ruleExample = "10 from 10.0.0.0/8 to any proto 6 sport 0-65535 dport 80-443 tenant 1 weight 2 chain 3"

func addrFrom(s string) impl.Addr { return fromNet(netip.MustParseAddr(s)) }

func prefixFrom(s string) impl.Prefix {
	if s == "any" {
		return impl.Prefix{}
	}
	n := netip.MustParsePrefix(s)
	return impl.Prefix{Base: fromNet(n.Addr()), Len: n.Bits()}
}

// rulePrefixes are of both kinds and of either one, many of them in others. Two
// of Kind 6 have the last bits of addresses of Kind 4.
func rulePrefixes() []impl.Prefix {
	var list []impl.Prefix
	for _, s := range []string{
		"any", "0.0.0.0/0", "0.0.0.0/32", "10.0.0.0/8", "10.0.0.0/24", "10.0.0.1/32", "255.255.255.255/32",
		"::/0", "::/96", "::a00:1/128", "2001:db8::/32", "2001:db8::1/128",
	} {
		list = append(list, prefixFrom(s))
	}
	return list
}

// ruleAddrs has for each of those prefixes addresses in it and outside.
func ruleAddrs(kind int) []impl.Addr {
	var list []impl.Addr
	for _, s := range []string{
		"0.0.0.0", "0.0.0.1", "9.255.255.255", "10.0.0.0", "10.0.0.1", "10.0.0.255", "10.0.1.0", "10.255.255.255", "11.0.0.0", "255.255.255.255",
		"::", "::1", "::a00:1", "::ffff:ffff", "::1:0:0", "2001:db8::", "2001:db8::1", "2001:db8:ffff::", "2001:db9::", "ffff::",
	} {
		if a := addrFrom(s); a.Kind == kind {
			list = append(list, a)
		}
	}
	return list
}

// wideRule matches every key.
func wideRule(prio int) impl.Rule {
	return impl.Rule{Prio: prio, Proto: -1, SHi: 65535, DHi: 65535, Tenant: 1, Weight: 1, Chain: 1}
}

func exampleRule() impl.Rule {
	return impl.Rule{Prio: 10, Src: prefixFrom("10.0.0.0/8"), Proto: 6, SHi: 65535, DLo: 80, DHi: 443, Tenant: 1, Weight: 2, Chain: 3}
}

// narrowRule has no field alike another one, and its key in the middle of each
// range.
func narrowRule(kind int) (impl.Rule, impl.Key) {
	r := impl.Rule{Prio: 700, Proto: 17, SLo: 1000, SHi: 2000, DLo: 53, DHi: 80, Tenant: 3, Weight: 4, Chain: 5}
	k := impl.Key{Proto: 17, SPort: 1500, DPort: 60}
	if kind == 4 {
		r.Src, r.Dst = prefixFrom("10.0.0.0/8"), prefixFrom("192.168.0.0/16")
		k.Src, k.Dst = addrFrom("10.1.2.3"), addrFrom("192.168.1.2")
	} else {
		r.Src, r.Dst = prefixFrom("2001:db8::/32"), prefixFrom("fe80::/10")
		k.Src, k.Dst = addrFrom("2001:db8::5"), addrFrom("fe80::6")
	}
	return r, k
}

// pointRule matches only that key.
func pointRule(k impl.Key) impl.Rule {
	size := bitCount(k.Src.Kind)
	r := impl.Rule{Prio: 1, Src: impl.Prefix{Base: k.Src, Len: size}, Dst: impl.Prefix{Base: k.Dst, Len: size}, Proto: k.Proto, Tenant: 1, Weight: 1, Chain: 1}
	r.SLo, r.SHi, r.DLo, r.DHi = k.SPort, k.SPort, k.DPort, k.DPort
	return r
}

func turnedRule(r impl.Rule) impl.Rule {
	r.Src, r.Dst = r.Dst, r.Src
	r.SLo, r.SHi, r.DLo, r.DHi = r.DLo, r.DHi, r.SLo, r.SHi
	return r
}

// A ruleField is a number of a rule with a range of its own.
type ruleField struct {
	least int
	most  int
	set   func(r *impl.Rule, n int)
}

func ruleFields() []ruleField {
	return []ruleField{
		{1, impl.MaxPrio, func(r *impl.Rule, n int) { r.Prio = n }},
		{-1, 255, func(r *impl.Rule, n int) { r.Proto = n }},
		{1, impl.MaxTenant, func(r *impl.Rule, n int) { r.Tenant = n }},
		{1, impl.MaxWeight, func(r *impl.Rule, n int) { r.Weight = n }},
		{1, impl.MaxChain, func(r *impl.Rule, n int) { r.Chain = n }},
	}
}

// wideRules has rules alike but for a Prio of 10, 20 and so on.
func wideRules(count int) []impl.Rule {
	var list []impl.Rule
	for i := range count {
		list = append(list, wideRule(10*i+10))
	}
	return list
}

// randomRule leaves each condition out every other time, so that it matches
// some of the keys of randomKey.
func randomRule(source *rand.Rand) impl.Rule {
	r := wideRule(1 + source.Intn(impl.MaxPrio))
	r.Tenant, r.Weight, r.Chain = 1+source.Intn(impl.MaxTenant), 1+source.Intn(impl.MaxWeight), 1+source.Intn(impl.MaxChain)
	prefixes := rulePrefixes()
	ports := [][2]int{{80, 80}, {0, 0}, {65535, 65535}, {80, 443}, {0, 80}, {443, 65535}}
	if source.Intn(2) == 0 {
		r.Src = prefixes[source.Intn(len(prefixes))]
	}
	if source.Intn(2) == 0 {
		r.Dst = prefixes[source.Intn(len(prefixes))]
	}
	if source.Intn(2) == 0 {
		r.Proto = []int{0, 6, 17, 255}[source.Intn(4)]
	}
	if source.Intn(2) == 0 {
		s := ports[source.Intn(len(ports))]
		r.SLo, r.SHi = s[0], s[1]
	}
	if source.Intn(2) == 0 {
		d := ports[source.Intn(len(ports))]
		r.DLo, r.DHi = d[0], d[1]
	}
	return r
}

func randomRules(source *rand.Rand, count int) []impl.Rule {
	prios := source.Perm(impl.MaxPrio)[:count]
	slices.Sort(prios)
	var list []impl.Rule
	for _, prio := range prios {
		r := randomRule(source)
		r.Prio = prio + 1
		list = append(list, r)
	}
	return list
}

func randomKey(source *rand.Rand) impl.Key {
	addrs := ruleAddrs(bothKinds()[source.Intn(2)])
	ports := []int{0, 1, 79, 80, 81, 200, 442, 443, 444, 65534, 65535}
	protos := []int{0, 6, 17, 255}
	return impl.Key{
		Src: addrs[source.Intn(len(addrs))], Dst: addrs[source.Intn(len(addrs))],
		Proto: protos[source.Intn(len(protos))],
		SPort: ports[source.Intn(len(ports))], DPort: ports[source.Intn(len(ports))],
	}
}

// badKeys has keys with one thing wrong each.
func badKeys() []impl.Key {
	list := []impl.Key{{}}
	for _, kind := range bothKinds() {
		for _, n := range []int{-1, 65536, math.MinInt, math.MaxInt} {
			k, l, m := someKey(kind), someKey(kind), someKey(kind)
			k.SPort, l.DPort, m.Proto = n, n, n
			list = append(list, k, l, m)
		}
		k := someKey(kind)
		k.Proto = 256
		list = append(list, k)
	}
	for _, p := range badPairs() {
		k := someKey(4)
		k.Src, k.Dst = p.src, p.dst
		list = append(list, k)
	}
	return list
}

func expectedContains(p impl.Prefix, a impl.Addr) bool {
	return p == (impl.Prefix{}) || netPrefix(p).Contains(netAddr(a))
}

func expectedHas(r impl.Rule, k impl.Key) bool {
	return expectedContains(r.Src, k.Src) && expectedContains(r.Dst, k.Dst) &&
		(r.Proto < 0 || r.Proto == k.Proto) &&
		!(k.SPort < r.SLo || k.SPort > r.SHi || k.DPort < r.DLo || k.DPort > r.DHi)
}

func expectedWithin(p impl.Prefix, q impl.Prefix) bool {
	if p == (impl.Prefix{}) || q == (impl.Prefix{}) {
		return q == (impl.Prefix{})
	}
	return p.Len >= q.Len && expectedContains(q, p.Base)
}

func expectedCovers(r impl.Rule, s impl.Rule) bool {
	return expectedWithin(s.Src, r.Src) && expectedWithin(s.Dst, r.Dst) &&
		(r.Proto < 0 || r.Proto == s.Proto) &&
		!(r.SLo > s.SLo || r.SHi < s.SHi || r.DLo > s.DLo || r.DHi < s.DHi)
}

// expectedMatches are the indices of all matching rules.
func expectedMatches(list []impl.Rule, k impl.Key) []int {
	var found []int
	for i, r := range list {
		if expectedHas(r, k) {
			found = append(found, i)
		}
	}
	return found
}

func expectedShadowed(list []impl.Rule) []int {
	var dark []int
	for i, s := range list {
		for _, r := range list[:i] {
			if expectedCovers(r, s) {
				dark = append(dark, i)
				break
			}
		}
	}
	return dark
}

func expectedRuleText(r impl.Rule) string {
	proto := fmt.Sprint(r.Proto)
	if r.Proto == -1 {
		proto = "any"
	}
	return fmt.Sprintf("%d from %s to %s proto %s sport %d-%d dport %d-%d tenant %d weight %d chain %d",
		r.Prio, impl.PrefixText(r.Src), impl.PrefixText(r.Dst), proto, r.SLo, r.SHi, r.DLo, r.DHi, r.Tenant, r.Weight, r.Chain)
}

// checkRuleRecovered also holds the last part of P10.
func checkRuleRecovered(t *testing.T, r impl.Rule) {
	t.Helper()
	if !impl.RuleOk(r) || !impl.RulesOk([]impl.Rule{r}) || !impl.RuleCovers(r, r) {
		t.Fatalf("not valid: %+v", r)
	}
	text := impl.RuleText(r)
	if want := expectedRuleText(r); text != want {
		t.Fatalf("%+v: text %q, not %q", r, text, want)
	}
	if back, ok := impl.RuleRead(text); !ok || back != r {
		t.Fatalf("%q: read as %+v %v", text, back, ok)
	}
}

// checkRuleInvalid calls every function that is given a rule, with a key that
// the rule matches but for its fault.
func checkRuleInvalid(t *testing.T, r impl.Rule, k impl.Key) {
	t.Helper()
	if impl.RuleOk(r) {
		t.Errorf("valid: %+v", r)
	}
	if impl.RuleHas(r, k) {
		t.Errorf("%+v matches %+v", r, k)
	}
	if impl.RuleCovers(r, r) || impl.RuleCovers(wideRule(1), r) || impl.RuleCovers(r, wideRule(1)) || impl.RuleCovers(r, pointRule(k)) {
		t.Errorf("covers or is covered: %+v", r)
	}
	if text := impl.RuleText(r); text != "" {
		t.Errorf("%+v: text %q", r, text)
	}
	if back, ok := impl.RuleRead(expectedRuleText(r)); ok || back != (impl.Rule{}) {
		t.Errorf("%q: read as %+v %v", expectedRuleText(r), back, ok)
	}
	if list, code := impl.RuleAdd(nil, r); list != nil || code != impl.RuleForm {
		t.Errorf("%+v added: %v %d", r, list, code)
	}
	checkRulesInvalid(t, []impl.Rule{r}, k)
}

func checkRulesInvalid(t *testing.T, list []impl.Rule, k impl.Key) {
	t.Helper()
	if impl.RulesOk(list) {
		t.Errorf("valid: %+v", list)
	}
	if i := impl.RuleFor(list, k); i != -1 {
		t.Errorf("%+v: rule %d for %+v", list, i, k)
	}
	if dark := impl.Shadowed(list); dark != nil {
		t.Errorf("%+v: shadowed %v", list, dark)
	}
	for _, prio := range []int{0, 1, 10, list[0].Prio, list[len(list)-1].Prio, impl.MaxPrio} {
		if out, code := impl.RuleAdd(list, wideRule(impl.Clip(prio, 1, impl.MaxPrio))); out != nil || code != impl.RuleForm {
			t.Errorf("%+v: added %d: %v %d", list, prio, out, code)
		}
		if out, code := impl.RuleDrop(list, prio); out != nil || code != impl.RuleForm {
			t.Errorf("%+v: dropped %d: %v %d", list, prio, out, code)
		}
	}
}

func TestRuleFieldsAtTheirEdges(t *testing.T) {
	for _, kind := range bothKinds() {
		for _, field := range ruleFields() {
			for _, n := range []int{field.least, field.least + 1, field.most - 1, field.most} {
				r, _ := narrowRule(kind)
				field.set(&r, n)
				checkRuleRecovered(t, r)
			}
			for _, n := range []int{field.least - 1, field.most + 1, field.least - 2, field.most + 1<<32, field.least - 1<<32, math.MinInt, math.MaxInt} {
				r, k := narrowRule(kind)
				field.set(&r, n)
				checkRuleInvalid(t, r, k)
			}
		}
	}
}

// The fields that RuleOk checks one after the other are at their least and at
// their greatest together, too.
func TestRuleWithAllFieldsAtAnEdge(t *testing.T) {
	least, most := wideRule(1), wideRule(impl.MaxPrio)
	least.Proto, least.SHi, least.DHi = 0, 0, 0
	most.Proto, most.SLo, most.DLo = 255, 65535, 65535
	most.Tenant, most.Weight, most.Chain = impl.MaxTenant, impl.MaxWeight, impl.MaxChain
	checkRuleRecovered(t, least)
	checkRuleRecovered(t, most)
	checkRuleInvalid(t, impl.Rule{}, someKey(4))
}

func TestRulePortsAtTheirEdges(t *testing.T) {
	ports := []int{math.MinInt, -65535, -1, 0, 1, 79, 80, 81, 65534, 65535, 65536, 80 + 1<<32, math.MaxInt}
	for _, lo := range ports {
		for _, hi := range ports {
			r, k := narrowRule(4)
			s, l := r, k
			r.SLo, r.SHi, k.SPort = lo, hi, lo
			s.DLo, s.DHi, l.DPort = lo, hi, hi
			if 0 <= lo && lo <= hi && hi < 65536 {
				checkRuleRecovered(t, r)
				checkRuleRecovered(t, s)
			} else {
				checkRuleInvalid(t, r, k)
				checkRuleInvalid(t, s, l)
			}
		}
	}
}

func TestRuleWithEveryPrefixIsRecovered(t *testing.T) {
	for _, p := range append(samplePrefixes(), rulePrefixes()...) {
		r, _ := narrowRule(4)
		r.Src = p
		checkRuleRecovered(t, r)
		r.Dst = p
		checkRuleRecovered(t, r)
		r.Src = impl.Prefix{}
		checkRuleRecovered(t, r)
	}
}

func TestRuleWithABadPrefix(t *testing.T) {
	for _, p := range badPrefixes() {
		r, k := narrowRule(4)
		s := r
		r.Src, k.Src = p, p.Base
		checkRuleInvalid(t, r, k)
		s.Dst = p
		checkRuleInvalid(t, s, k)
	}
}

// P10: a valid rule is recovered from its text.
func TestRuleOfEveryValueIsRecovered(t *testing.T) {
	for _, field := range ruleFields() {
		r := exampleRule()
		for n := field.least; n <= field.most; n++ {
			field.set(&r, n)
			checkRuleRecovered(t, r)
		}
	}
	source := rand.New(rand.NewSource(91))
	for range 3000 {
		r := randomRule(source)
		r.SLo, r.DLo = source.Intn(65536), source.Intn(65536)
		r.SHi, r.DHi = r.SLo+source.Intn(65536-r.SLo), r.DLo+source.Intn(65536-r.DLo)
		checkRuleRecovered(t, r)
	}
}

func TestRuleText(t *testing.T) {
	most := impl.Rule{Prio: 9999, Src: prefixFrom("2001:db8::/32"), Dst: prefixFrom("ffff::1/128"), Proto: 255, SLo: 65535, SHi: 65535, DLo: 65535, DHi: 65535, Tenant: 8, Weight: 10, Chain: 8}
	for _, c := range []struct {
		r    impl.Rule
		text string
	}{
		{exampleRule(), ruleExample},
		{wideRule(1), "1 from any to any proto any sport 0-65535 dport 0-65535 tenant 1 weight 1 chain 1"},
		{impl.Rule{Prio: 5, Dst: prefixFrom("0.0.0.0/0"), Tenant: 2, Weight: 3, Chain: 4}, "5 from any to 0.0.0.0/0 proto 0 sport 0-0 dport 0-0 tenant 2 weight 3 chain 4"},
		{most, "9999 from 2001:db8:0:0:0:0:0:0/32 to ffff:0:0:0:0:0:0:1/128 proto 255 sport 65535-65535 dport 65535-65535 tenant 8 weight 10 chain 8"},
	} {
		if text := impl.RuleText(c.r); text != c.text {
			t.Errorf("%+v: %q, not %q", c.r, text, c.text)
		}
		if r, ok := impl.RuleRead(c.text); !ok || r != c.r {
			t.Errorf("%q: %+v %v", c.text, r, ok)
		}
	}
}

var ruleForm = regexp.MustCompile(strings.ReplaceAll(
	`\A# from ([^ ]+) to ([^ ]+) proto (any|#) sport #-# dport #-# tenant # weight # chain #\z`, "#", `(0|[1-9][0-9]{0,11})`))

// onlyRuleText is a second reader. It reads the prefixes by PrefixRead.
func onlyRuleText(s string) bool {
	parts := ruleForm.FindStringSubmatch(s)
	if parts == nil {
		return false
	}
	_, src := impl.PrefixRead(parts[2])
	_, dst := impl.PrefixRead(parts[3])
	numbers := map[int]int{}
	for i, part := range parts {
		numbers[i], _ = strconv.Atoi(part)
	}
	return src && dst && numbers[1] >= 1 && numbers[1] <= 9999 && numbers[5] <= 255 &&
		numbers[6] <= numbers[7] && numbers[7] <= 65535 && numbers[8] <= numbers[9] && numbers[9] <= 65535 &&
		numbers[10] >= 1 && numbers[10] <= 8 && numbers[11] >= 1 && numbers[11] <= 10 && numbers[12] >= 1 && numbers[12] <= 8
}

func checkRuleRefused(t *testing.T, s string) {
	t.Helper()
	if r, ok := impl.RuleRead(s); ok || r != (impl.Rule{}) {
		t.Errorf("%q: %+v %v", s, r, ok)
	}
}

// Texts beside a valid one, with a byte changed, left out or put in.
func TestRuleReadAcceptsOnlyTexts(t *testing.T) {
	for _, text := range []string{ruleExample, impl.RuleText(wideRule(1)), "9999 from 0:0:0:0:0:0:0:0/0 to any proto 255 sport 10-10 dport 1-2 tenant 8 weight 10 chain 8"} {
		for _, s := range neighbours(text) {
			r, ok := impl.RuleRead(s)
			if want := onlyRuleText(s); ok != want || ok && impl.RuleText(r) != s || !ok && r != (impl.Rule{}) {
				t.Fatalf("%q: %+v %v", s, r, ok)
			}
		}
	}
}

// exampleWith is the example with another word in one place.
func exampleWith(at int, word string) string {
	words := strings.Split(ruleExample, " ")
	words[at] = word
	return strings.Join(words, " ")
}

func TestRuleReadOfOtherWords(t *testing.T) {
	words := strings.Split(ruleExample, " ")
	for at, word := range words {
		checkRuleRefused(t, strings.Join(slices.Delete(slices.Clone(words), at, at+1), " "))
		for _, more := range append(slices.Clone(words), "", "x", "0") {
			checkRuleRefused(t, strings.Join(slices.Insert(slices.Clone(words), at, more), " "))
			checkRuleRefused(t, ruleExample+" "+more)
		}
		for other := range words[:at] {
			swapped := slices.Clone(words)
			swapped[at], swapped[other] = swapped[other], swapped[at]
			if s := strings.Join(swapped, " "); s != ruleExample && !onlyRuleText(s) {
				checkRuleRefused(t, s)
			}
		}
		for _, s := range []string{"", " ", word + " ", " " + word, "\t" + word, word + "\n", "x" + word, word + "x", "\"" + word + "\""} {
			checkRuleRefused(t, exampleWith(at, s))
		}
		if at%2 == 1 {
			for _, s := range []string{strings.ToUpper(word), word[1:], "any", "0", "from", "to", "proto", "sport", "dport", "tenant", "weight", "chain"} {
				if s != word {
					checkRuleRefused(t, exampleWith(at, s))
				}
			}
		}
		checkRuleRefused(t, strings.Join(words[:at], " "))
		checkRuleRefused(t, strings.Join(words[:at], " ")+strings.Repeat(" ", 17-at))
	}
	for _, s := range []string{"", " ", "any", "\n", strings.Repeat(" ", 16), ruleExample + "\n" + ruleExample, ruleExample + " " + ruleExample, strings.ReplaceAll(ruleExample, " ", "\n"), strings.ReplaceAll(ruleExample, " ", "  "), strings.ReplaceAll(ruleExample, " ", "\u00a0"), strings.Repeat("1 ", 70000)} {
		checkRuleRefused(t, s)
	}
}

func TestRuleReadOfOtherValues(t *testing.T) {
	for _, at := range []int{0, 6, 12, 14, 16} {
		for _, s := range []string{"-1", "-0", "+1", "01", "00", "001", "1.0", "1e0", "0x1", "1_0", "a", "1000000000000", "18446744073709551617", "4294967297", "10000", "\u0661", "\uff11", "1-1", "Any", "ANY", "an", "anyany", "*"} {
			checkRuleRefused(t, exampleWith(at, s))
		}
	}
	for at, outside := range map[int][]string{0: {"0", "10000", "any"}, 6: {"256", "999", "-1"}, 12: {"0", "9", "any"}, 14: {"0", "11", "any"}, 16: {"0", "9", "any"}} {
		for _, s := range outside {
			checkRuleRefused(t, exampleWith(at, s))
		}
	}
	for _, at := range []int{8, 10} {
		for _, s := range []string{
			"443-80", "1-0", "65535-0", "65535-65534", "0-65536", "65536-65536", "80-1000000000000", "80-18446744073709551700",
			"80", "-", "--", "80-", "-80", "-80-443", "80--443", "80-443-", "80-443-500", "80-80-80", "080-443", "80-0443", "00-80", "0-00", "-0-80", "0--0", "+80-443", "80-+443", "80:443", "80_443", "80/443", "80\u2013443", "any", "any-any", "0-any", "a-b", "80 - 443", "80- 443", "80 -443",
		} {
			checkRuleRefused(t, exampleWith(at, s))
		}
	}
	for _, at := range []int{2, 4} {
		for _, s := range []string{"10.0.0.0", "10.0.0.1/8", "10.0.0.0/08", "10.0.0.0/33", "10.0.0.0/-8", "010.0.0.0/8", "10.0.0/8", "256.0.0.0/8", "2001:db8::/32", "2001:DB8:0:0:0:0:0:0/32", "2001:db8:0:0:0:0:0:1/32", "0:0:0:0:0:0:0:0/129", "Any", "ANY", "any/0", "an", "*", "-1", "0", "/", "4/0"} {
			checkRuleRefused(t, exampleWith(at, s))
		}
	}
}

// Each condition by itself, just inside and just outside.
func TestRuleHasOfEachCondition(t *testing.T) {
	for _, kind := range bothKinds() {
		r, fits := narrowRule(kind)
		first, last := r.Src.Base, lastAddress(r.Src)
		check := func(want bool, change func(k *impl.Key)) {
			t.Helper()
			k := fits
			change(&k)
			if got := impl.RuleHas(r, k); got != want {
				t.Errorf("%+v matches %+v: %v", r, k, got)
			}
		}
		check(true, func(k *impl.Key) {})
		check(true, func(k *impl.Key) { k.Src = first })
		check(true, func(k *impl.Key) { k.Src = last })
		check(false, func(k *impl.Key) { k.Src = flipped(first, r.Src.Len-1) })
		check(false, func(k *impl.Key) { k.Src = flipped(last, 0) })
		check(true, func(k *impl.Key) { k.Dst = r.Dst.Base })
		check(true, func(k *impl.Key) { k.Dst = lastAddress(r.Dst) })
		check(false, func(k *impl.Key) { k.Dst = flipped(k.Dst, r.Dst.Len-1) })
		check(false, func(k *impl.Key) { k.Src, k.Dst = k.Dst, k.Src })
		check(false, func(k *impl.Key) { k.SPort, k.DPort = k.DPort, k.SPort })
		for _, proto := range []int{0, 6, 16, 18, 255} {
			check(false, func(k *impl.Key) { k.Proto = proto })
		}
		for port, want := range map[int]bool{0: false, 999: false, 1000: true, 1001: true, 1999: true, 2000: true, 2001: false, 65535: false} {
			check(want, func(k *impl.Key) { k.SPort = port })
		}
		for port, want := range map[int]bool{0: false, 52: false, 53: true, 54: true, 79: true, 80: true, 81: false, 65535: false} {
			check(want, func(k *impl.Key) { k.DPort = port })
		}
	}
}

func TestRuleHasOfOnePortAndOfAll(t *testing.T) {
	for _, n := range []int{0, 1, 80, 65534, 65535} {
		for _, port := range []int{0, 1, 79, 80, 81, 65534, 65535} {
			r, s, wide := wideRule(1), wideRule(1), wideRule(1)
			r.SLo, r.SHi, s.DLo, s.DHi = n, n, n, n
			k := someKey(4)
			k.SPort, k.DPort = port, 7
			l := someKey(6)
			l.SPort, l.DPort = 7, port
			if impl.RuleHas(r, k) != (port == n) || impl.RuleHas(s, l) != (port == n) || !impl.RuleHas(wide, k) || !impl.RuleHas(wide, l) {
				t.Errorf("port %d, rules for %d", port, n)
			}
		}
	}
}

func TestRuleHasOfEveryProto(t *testing.T) {
	for n := -1; n <= 255; n++ {
		for proto := range 256 {
			r, k := wideRule(1), someKey(4)
			r.Proto, k.Proto = n, proto
			if got := impl.RuleHas(r, k); got != (n == -1 || n == proto) {
				t.Fatalf("%d, rule for %d: %v", proto, n, got)
			}
		}
	}
}

// A rule with a prefix of one kind matches only keys of that kind, one with a
// prefix of each kind none, and one with any for both all.
func TestRuleOfPrefixesOfBothKinds(t *testing.T) {
	kinds := map[string]int{"any": 0, "0.0.0.0/0": 4, "::/0": 6}
	for src, srcKind := range kinds {
		for dst, dstKind := range kinds {
			r := wideRule(1)
			r.Src, r.Dst = prefixFrom(src), prefixFrom(dst)
			checkRuleRecovered(t, r)
			for _, kind := range bothKinds() {
				want := (srcKind == 0 || srcKind == kind) && (dstKind == 0 || dstKind == kind)
				for _, a := range ruleAddrs(kind) {
					k := impl.Key{Src: a, Dst: ruleAddrs(kind)[0], Proto: 6}
					if impl.RuleHas(r, k) != want || impl.RuleHas(r, impl.Turned(k)) != want || (impl.RuleFor([]impl.Rule{r}, k) == 0) != want {
						t.Errorf("from %s to %s matches %+v: %v", src, dst, k, !want)
					}
				}
			}
		}
	}
}

// Addresses of Kind 4 are not the last bits of those of Kind 6.
func TestRuleKeepsTheKindsApart(t *testing.T) {
	for _, c := range []struct {
		prefix, addr string
		want         bool
	}{
		{"10.0.0.1/32", "10.0.0.1", true}, {"10.0.0.1/32", "::a00:1", false}, {"::a00:1/128", "::a00:1", true}, {"::a00:1/128", "10.0.0.1", false},
		{"::/96", "10.0.0.1", false}, {"::ffff:0:0/96", "10.0.0.1", false}, {"0.0.0.0/0", "::a00:1", false},
		{"any", "10.0.0.1", true}, {"any", "::a00:1", true},
	} {
		a := addrFrom(c.addr)
		r, s := wideRule(1), wideRule(1)
		r.Src, s.Dst = prefixFrom(c.prefix), prefixFrom(c.prefix)
		k := impl.Key{Src: a, Dst: impl.Addr{Kind: a.Kind}}
		if impl.RuleHas(r, k) != c.want || impl.RuleHas(s, impl.Turned(k)) != c.want {
			t.Errorf("%s and %s", c.prefix, c.addr)
		}
	}
}

func TestRuleHasOfABadKey(t *testing.T) {
	for _, k := range badKeys() {
		if impl.RuleHas(wideRule(1), k) {
			t.Errorf("%+v is matched", k)
		}
		for _, list := range [][]impl.Rule{nil, wideRules(1), wideRules(impl.MaxRules)} {
			if i := impl.RuleFor(list, k); i != -1 {
				t.Errorf("rule %d for %+v", i, k)
			}
		}
	}
}

func TestRandomRuleHas(t *testing.T) {
	source := rand.New(rand.NewSource(92))
	found := 0
	for range 30000 {
		r, k := randomRule(source), randomKey(source)
		want := expectedHas(r, k)
		if got := impl.RuleHas(r, k); got != want {
			t.Fatalf("%+v matches %+v: %v", r, k, got)
		}
		if got := impl.RuleHas(turnedRule(r), impl.Turned(k)); got != want {
			t.Fatalf("%+v matches %+v: %v, both turned", r, k, got)
		}
		if want {
			found++
		}
	}
	if found < 1000 {
		t.Errorf("only %d matches", found)
	}
}

// A rule for one key alone matches and covers just as the key itself does.
func TestRuleOfOneKey(t *testing.T) {
	source := rand.New(rand.NewSource(98))
	for range 3000 {
		r, k, l := randomRule(source), randomKey(source), randomKey(source)
		point := pointRule(k)
		checkRuleRecovered(t, point)
		if !impl.RuleHas(point, k) || impl.RuleHas(point, l) != (k == l) || impl.RuleCovers(r, point) != impl.RuleHas(r, k) {
			t.Fatalf("%+v and %+v", r, k)
		}
	}
}

func TestRulesOk(t *testing.T) {
	for count := range impl.MaxRules + 3 {
		list := wideRules(count)
		if count > impl.MaxRules {
			checkRulesInvalid(t, list, someKey(4))
			continue
		}
		if !impl.RulesOk(list) {
			t.Errorf("%d rules are not valid", count)
		}
		for i := range list {
			fault := slices.Clone(list)
			fault[i].Weight = 0
			checkRulesInvalid(t, fault, someKey(4))
		}
		for i := 1; i < count; i++ {
			fault := slices.Clone(list)
			fault[i].Prio = fault[i-1].Prio
			checkRulesInvalid(t, fault, someKey(4))
			fault[i].Prio--
			checkRulesInvalid(t, fault, someKey(4))
			fault[i].Prio += 2
			if !impl.RulesOk(fault) {
				t.Errorf("Prio one after that of rule %d", i-1)
			}
		}
	}
	if !impl.RulesOk(nil) || !impl.RulesOk([]impl.Rule{}) || !impl.RulesOk([]impl.Rule{wideRule(1), wideRule(impl.MaxPrio)}) {
		t.Error("not valid")
	}
	checkRulesInvalid(t, []impl.Rule{wideRule(impl.MaxPrio), wideRule(1)}, someKey(4))
	// The order counts also where the rules are not neighbours.
	checkRulesInvalid(t, []impl.Rule{wideRule(10), wideRule(20), wideRule(10)}, someKey(4))
}

func TestRuleFor(t *testing.T) {
	r, k := narrowRule(4)
	other, six := narrowRule(6)
	r.Prio, other.Prio = 5, 6
	wide := wideRule(7)
	for _, c := range []struct {
		list []impl.Rule
		k    impl.Key
		want int
	}{
		{nil, k, -1}, {[]impl.Rule{}, k, -1},
		{[]impl.Rule{r}, k, 0}, {[]impl.Rule{r}, six, -1}, {[]impl.Rule{other}, k, -1}, {[]impl.Rule{other}, six, 0},
		{[]impl.Rule{r, other}, k, 0}, {[]impl.Rule{r, other}, six, 1}, {[]impl.Rule{r, other}, someKey(4), -1},
		{[]impl.Rule{r, other, wide}, k, 0}, {[]impl.Rule{r, other, wide}, six, 1}, {[]impl.Rule{r, other, wide}, someKey(4), 2}, {[]impl.Rule{r, other, wide}, someKey(6), 2},
		{[]impl.Rule{wideRule(1), r, other}, k, 0}, {[]impl.Rule{wide, r}, k, -1}, {[]impl.Rule{r, r}, k, -1},
		{wideRules(impl.MaxRules), k, 0}, {wideRules(impl.MaxRules + 1), k, -1},
	} {
		if got := impl.RuleFor(c.list, c.k); got != c.want {
			t.Errorf("%+v, %+v: rule %d, not %d", c.list, c.k, got, c.want)
		}
	}
}

// In a list of MaxRules rules each one is selected for a key of its own.
func TestRuleForOfEachRule(t *testing.T) {
	list := wideRules(impl.MaxRules)
	for i := range list {
		list[i].DLo, list[i].DHi = 100*i, 100*i+99
	}
	for port := range 100*len(list) + 50 {
		k := someKey(6)
		k.DPort = port
		want := port / 100
		if want == len(list) {
			want = -1
		}
		if got := impl.RuleFor(list, k); got != want {
			t.Fatalf("port %d: rule %d", port, got)
		}
	}
}

// P10: without its rule a key gets the next rule that matches.
func checkRulesInTurn(t *testing.T, list []impl.Rule, k impl.Key) {
	t.Helper()
	matches := expectedMatches(list, k)
	left := list
	for dropped, i := range matches {
		at := impl.RuleFor(left, k)
		if at != i-dropped || left[at] != list[i] {
			t.Fatalf("%+v, %+v: rule %d, not %d", left, k, at, i-dropped)
		}
		var code int
		left, code = impl.RuleDrop(left, list[i].Prio)
		if code != impl.RuleFine {
			t.Fatalf("dropped %d: %d", list[i].Prio, code)
		}
	}
	if at := impl.RuleFor(left, k); at != -1 || len(left) != len(list)-len(matches) {
		t.Fatalf("%+v, %+v: rule %d", left, k, at)
	}
}

// P10: a covered rule is never selected.
func checkNoneShadowed(t *testing.T, list []impl.Rule, k impl.Key) {
	t.Helper()
	at := impl.RuleFor(list, k)
	if slices.Contains(impl.Shadowed(list), at) {
		t.Fatalf("%+v: rule %d is covered and selected for %+v", list, at, k)
	}
}

func TestRandomRulesInTurn(t *testing.T) {
	source := rand.New(rand.NewSource(93))
	for _, count := range []int{0, 1, 2, 3, 8, impl.MaxRules - 1, impl.MaxRules} {
		for range 60 {
			list := randomRules(source, count)
			for range 40 {
				k := randomKey(source)
				checkRulesInTurn(t, list, k)
				checkNoneShadowed(t, list, k)
			}
		}
	}
	checkRulesInTurn(t, wideRules(impl.MaxRules), someKey(4))
	checkRulesInTurn(t, wideRules(impl.MaxRules), someKey(6))
}

func TestRuleCovers(t *testing.T) {
	change := func(set func(r *impl.Rule)) impl.Rule {
		r, _ := narrowRule(4)
		set(&r)
		return r
	}
	base, _ := narrowRule(4)
	for _, c := range []struct {
		r        impl.Rule
		covers   bool
		isInside bool
	}{
		{base, true, true},
		{change(func(r *impl.Rule) { r.Prio, r.Tenant, r.Weight, r.Chain = 1, 8, 10, 8 }), true, true},
		{change(func(r *impl.Rule) { r.Src = prefixFrom("10.0.0.0/7") }), true, false},
		{change(func(r *impl.Rule) { r.Src = prefixFrom("10.0.0.0/9") }), false, true},
		{change(func(r *impl.Rule) { r.Src = prefixFrom("11.0.0.0/8") }), false, false},
		{change(func(r *impl.Rule) { r.Src = impl.Prefix{} }), true, false},
		{change(func(r *impl.Rule) { r.Src = prefixFrom("::/0") }), false, false},
		{change(func(r *impl.Rule) { r.Dst = prefixFrom("192.168.0.0/15") }), true, false},
		{change(func(r *impl.Rule) { r.Dst = prefixFrom("192.168.0.0/17") }), false, true},
		{change(func(r *impl.Rule) { r.Dst = prefixFrom("192.169.0.0/16") }), false, false},
		{change(func(r *impl.Rule) { r.Dst = impl.Prefix{} }), true, false},
		{change(func(r *impl.Rule) { r.Proto = -1 }), true, false},
		{change(func(r *impl.Rule) { r.Proto = 6 }), false, false},
		{change(func(r *impl.Rule) { r.SLo-- }), true, false},
		{change(func(r *impl.Rule) { r.SLo++ }), false, true},
		{change(func(r *impl.Rule) { r.SHi++ }), true, false},
		{change(func(r *impl.Rule) { r.SHi-- }), false, true},
		{change(func(r *impl.Rule) { r.DLo-- }), true, false},
		{change(func(r *impl.Rule) { r.DLo++ }), false, true},
		{change(func(r *impl.Rule) { r.DHi++ }), true, false},
		{change(func(r *impl.Rule) { r.DHi-- }), false, true},
		{change(func(r *impl.Rule) { r.SLo, r.SHi = 999, 1999 }), false, false},
		{change(func(r *impl.Rule) { r.Src, r.Proto = prefixFrom("10.0.0.0/7"), 6 }), false, false},
		{wideRule(9999), true, false},
	} {
		if impl.RuleCovers(c.r, base) != c.covers || impl.RuleCovers(base, c.r) != c.isInside {
			t.Errorf("%+v and %+v: %v %v", c.r, base, impl.RuleCovers(c.r, base), impl.RuleCovers(base, c.r))
		}
	}
}

// The fields are judged one by one: any is not in a prefix of one kind, even
// where the other prefix admits only keys of that kind, and a rule that matches
// no key is covered no more than another one.
func TestRuleCoversFieldByField(t *testing.T) {
	rule := func(src string, dst string) impl.Rule {
		r := wideRule(1)
		r.Src, r.Dst = prefixFrom(src), prefixFrom(dst)
		return r
	}
	for _, c := range []struct {
		r, s impl.Rule
		want bool
	}{
		{rule("any", "any"), rule("0.0.0.0/0", "::/0"), true},
		{rule("0.0.0.0/0", "any"), rule("any", "10.0.0.0/8"), false},
		{rule("0.0.0.0/0", "0.0.0.0/0"), rule("any", "10.0.0.0/8"), false},
		{rule("any", "0.0.0.0/0"), rule("10.0.0.0/8", "any"), false},
		{rule("any", "0.0.0.0/0"), rule("10.0.0.0/8", "10.0.0.0/8"), true},
		{rule("::/0", "any"), rule("2001:db8::/32", "any"), true},
		{rule("::/0", "::/0"), rule("any", "any"), false},
		{rule("0.0.0.0/0", "0.0.0.0/0"), rule("0.0.0.0/0", "::/0"), false},
		{rule("::/0", "::/0"), rule("0.0.0.0/0", "::/0"), false},
		{rule("0.0.0.0/0", "::/0"), rule("10.0.0.0/8", "2001:db8::/32"), true},
	} {
		if got := impl.RuleCovers(c.r, c.s); got != c.want {
			t.Errorf("%+v covers %+v: %v", c.r, c.s, got)
		}
	}
}

func TestRandomRuleCovers(t *testing.T) {
	source := rand.New(rand.NewSource(94))
	var keys []impl.Key
	for range 300 {
		keys = append(keys, randomKey(source))
	}
	found := 0
	for range 20000 {
		r, s := randomRule(source), randomRule(source)
		want := expectedCovers(r, s)
		if got := impl.RuleCovers(r, s); got != want {
			t.Fatalf("%+v covers %+v: %v", r, s, got)
		}
		if !want {
			continue
		}
		found++
		for _, k := range keys {
			if impl.RuleHas(s, k) && !impl.RuleHas(r, k) {
				t.Fatalf("%+v covers %+v, but does not match %+v", r, s, k)
			}
		}
	}
	if found < 100 {
		t.Errorf("only %d covered", found)
	}
}

func TestShadowed(t *testing.T) {
	withPrio := func(r impl.Rule, prio int) impl.Rule {
		r.Prio = prio
		return r
	}
	four, _ := narrowRule(4)
	six, _ := narrowRule(6)
	half := exampleRule()
	for _, c := range []struct {
		list []impl.Rule
		want []int
	}{
		{nil, nil}, {wideRules(1), nil}, {wideRules(2), []int{1}}, {wideRules(4), []int{1, 2, 3}},
		{[]impl.Rule{withPrio(four, 1), wideRule(2)}, nil},
		{[]impl.Rule{wideRule(1), withPrio(four, 2)}, []int{1}},
		{[]impl.Rule{withPrio(four, 1), withPrio(six, 2), withPrio(four, 3)}, []int{2}},
		{[]impl.Rule{withPrio(four, 1), withPrio(six, 2), withPrio(half, 3), withPrio(four, 4), withPrio(six, 5)}, []int{3, 4}},
		{[]impl.Rule{withPrio(four, 1), withPrio(half, 2), wideRule(3), withPrio(six, 4), withPrio(half, 5)}, []int{3, 4}},
		{[]impl.Rule{withPrio(four, 1), wideRule(2), withPrio(six, 3), wideRule(4)}, []int{2, 3}},
	} {
		if got := impl.Shadowed(c.list); !slices.Equal(got, c.want) {
			t.Errorf("%+v: %v, not %v", c.list, got, c.want)
		}
	}
	// Two rules that only together match what a third one does do not cover it.
	low, high := wideRule(1), wideRule(2)
	low.SHi, high.SLo = 999, 1000
	if got := impl.Shadowed([]impl.Rule{low, high, wideRule(3)}); len(got) != 0 {
		t.Error(got)
	}
	full := wideRules(impl.MaxRules)
	if got := impl.Shadowed(full); len(got) != impl.MaxRules-1 || got[0] != 1 || got[30] != 31 {
		t.Error(got)
	}
}

func TestRandomShadowed(t *testing.T) {
	source := rand.New(rand.NewSource(95))
	for range 1000 {
		list := randomRules(source, source.Intn(impl.MaxRules+1))
		if got, want := impl.Shadowed(list), expectedShadowed(list); !slices.Equal(got, want) {
			t.Fatalf("%+v: %v, not %v", list, got, want)
		}
	}
}

// checkRuleAdded holds P10: adding a rule and dropping it restores the list.
func checkRuleAdded(t *testing.T, list []impl.Rule, r impl.Rule, at int) {
	t.Helper()
	more, code := impl.RuleAdd(list, r)
	if code != impl.RuleFine || !slices.Equal(more, slices.Insert(slices.Clone(list), at, r)) || !impl.RulesOk(more) {
		t.Fatalf("%+v added to %+v: %+v %d", r, list, more, code)
	}
	back, code := impl.RuleDrop(more, r.Prio)
	if code != impl.RuleFine || !slices.Equal(back, list) {
		t.Fatalf("%d dropped from %+v: %+v %d", r.Prio, more, back, code)
	}
}

func checkRuleDropped(t *testing.T, list []impl.Rule, at int) {
	t.Helper()
	left, code := impl.RuleDrop(list, list[at].Prio)
	if code != impl.RuleFine || !slices.Equal(left, slices.Delete(slices.Clone(list), at, at+1)) || !impl.RulesOk(left) {
		t.Fatalf("%d dropped from %+v: %+v %d", list[at].Prio, list, left, code)
	}
	checkRuleAdded(t, left, list[at], at)
}

// A rule in each place of a list of each length, in the middle between its
// neighbours and right beside them.
func TestRuleAddAndDrop(t *testing.T) {
	for count := range impl.MaxRules + 1 {
		list := wideRules(count)
		for at := range list {
			list[at].Tenant, list[at].SLo = 1+at%8, at
			checkRuleDropped(t, list, at)
		}
		if count == impl.MaxRules {
			continue
		}
		r, _ := narrowRule(6)
		for at := range count + 1 {
			for _, step := range []int{1, 5, 9} {
				r.Prio = 10*at + step
				checkRuleAdded(t, list, r, at)
			}
		}
		r.Prio = impl.MaxPrio
		checkRuleAdded(t, list, r, count)
	}
	checkRuleAdded(t, []impl.Rule{}, wideRule(1), 0)
}

func TestRandomRuleAddAndDrop(t *testing.T) {
	source := rand.New(rand.NewSource(96))
	for range 300 {
		whole := randomRules(source, 1+source.Intn(impl.MaxRules))
		var list []impl.Rule
		for _, i := range source.Perm(len(whole)) {
			at, _ := slices.BinarySearchFunc(list, whole[i].Prio, func(r impl.Rule, prio int) int { return r.Prio - prio })
			checkRuleAdded(t, list, whole[i], at)
			list, _ = impl.RuleAdd(list, whole[i])
		}
		if !slices.Equal(list, whole) {
			t.Fatalf("%+v, not %+v", list, whole)
		}
		for at := range list {
			checkRuleDropped(t, list, at)
		}
	}
}

func TestRuleAddCodes(t *testing.T) {
	full, over := wideRules(impl.MaxRules), wideRules(impl.MaxRules+1)
	short := wideRules(3)
	broken := wideRules(3)
	broken[1].Chain = 9
	fault := wideRule(20)
	fault.Weight = 11
	newFault := fault
	newFault.Prio = 25
	for _, c := range []struct {
		list []impl.Rule
		r    impl.Rule
		want int
	}{
		{short, wideRule(10), impl.RuleTwice}, {short, wideRule(20), impl.RuleTwice}, {short, wideRule(30), impl.RuleTwice}, {short, exampleRule(), impl.RuleTwice},
		{full, wideRule(15), impl.RuleFull}, {full, wideRule(1), impl.RuleFull}, {full, wideRule(impl.MaxPrio), impl.RuleFull},
		{full[:31], wideRule(310), impl.RuleTwice},
		{full, wideRule(10), impl.RuleTwice}, {full, wideRule(150), impl.RuleTwice}, {full, wideRule(320), impl.RuleTwice},
		{full, fault, impl.RuleForm}, {full, newFault, impl.RuleForm}, {short, fault, impl.RuleForm}, {short, newFault, impl.RuleForm}, {nil, fault, impl.RuleForm},
		{over, wideRule(15), impl.RuleForm}, {over, wideRule(10), impl.RuleForm}, {over, fault, impl.RuleForm},
		{broken, wideRule(15), impl.RuleForm}, {broken, wideRule(10), impl.RuleForm}, {broken, fault, impl.RuleForm},
		{[]impl.Rule{wideRule(2), wideRule(2)}, wideRule(2), impl.RuleForm}, {[]impl.Rule{wideRule(2), wideRule(1)}, wideRule(3), impl.RuleForm},
	} {
		if list, code := impl.RuleAdd(c.list, c.r); code != c.want || list != nil {
			t.Errorf("%+v added to %+v: %+v %d, not %d", c.r, c.list, list, code, c.want)
		}
	}
}

func TestRuleDropCodes(t *testing.T) {
	short := wideRules(3)
	broken := wideRules(3)
	broken[2].Proto = 256
	for _, c := range []struct {
		list []impl.Rule
		prio int
		want int
	}{
		{nil, 10, impl.RuleNone}, {nil, 0, impl.RuleNone}, {[]impl.Rule{}, 1, impl.RuleNone},
		{short, 9, impl.RuleNone}, {short, 11, impl.RuleNone}, {short, 15, impl.RuleNone}, {short, 31, impl.RuleNone},
		{short, 0, impl.RuleNone}, {short, -10, impl.RuleNone}, {short, 10000, impl.RuleNone}, {short, 10 + 1<<32, impl.RuleNone}, {short, math.MaxInt, impl.RuleNone}, {short, math.MinInt, impl.RuleNone},
		{short[:2], 30, impl.RuleNone},
		{broken, 10, impl.RuleForm}, {broken, 15, impl.RuleForm}, {broken, 30, impl.RuleForm}, {broken, 0, impl.RuleForm},
		{wideRules(impl.MaxRules + 1), 10, impl.RuleForm}, {wideRules(impl.MaxRules + 1), 330, impl.RuleForm}, {wideRules(impl.MaxRules + 1), 11, impl.RuleForm},
		{[]impl.Rule{wideRule(2), wideRule(2)}, 2, impl.RuleForm}, {[]impl.Rule{wideRule(2), wideRule(1)}, 3, impl.RuleForm},
	} {
		if list, code := impl.RuleDrop(c.list, c.prio); code != c.want || list != nil {
			t.Errorf("%d dropped from %+v: %+v %d, not %d", c.prio, c.list, list, code, c.want)
		}
	}
}

// No function writes into a list, or reads or writes what lies behind it.
func TestRulesLeaveListsAlone(t *testing.T) {
	source := rand.New(rand.NewSource(97))
	for _, count := range []int{0, 1, 5, impl.MaxRules - 1, impl.MaxRules} {
		whole := append(randomRules(source, count), impl.Rule{Prio: -7}, wideRule(1), impl.Rule{Chain: 99})
		before := slices.Clone(whole)
		list := whole[:count]
		if !impl.RulesOk(list) || !slices.Equal(impl.Shadowed(list), expectedShadowed(list)) {
			t.Errorf("%d rules: spare capacity is read", count)
		}
		for range 20 {
			k, r := randomKey(source), randomRule(source)
			if matches := append(expectedMatches(list, k), -1); impl.RuleFor(list, k) != matches[0] {
				t.Errorf("%d rules: spare capacity is read", count)
			}
			impl.RuleAdd(list, r)
			impl.RuleDrop(list, r.Prio)
			impl.RuleAdd(list, wideRule(1))
			impl.RuleAdd(list, wideRule(impl.MaxPrio))
			impl.RuleAdd(list, impl.Rule{})
		}
		for _, r := range list {
			impl.RuleAdd(list, r)
			impl.RuleDrop(list, r.Prio)
		}
		if !slices.Equal(whole, before) {
			t.Errorf("%d rules: changed", count)
		}
	}
}

func fillRules(list []impl.Rule, r impl.Rule) {
	list = list[:cap(list)]
	for i := range list {
		list[i] = r
	}
}

// What RuleAdd and RuleDrop return shares no memory with the list or with
// another result.
func TestRulesResultsAreNew(t *testing.T) {
	for _, count := range []int{0, 1, 5, impl.MaxRules - 1, impl.MaxRules} {
		for at := range count + 1 {
			list := append(wideRules(count), impl.Rule{}, impl.Rule{})[:count]
			added, _ := impl.RuleAdd(list, wideRule(10*at+5))
			again, _ := impl.RuleAdd(list, wideRule(10*at+5))
			dropped, _ := impl.RuleDrop(list, 10*at+10)
			redropped, _ := impl.RuleDrop(list, 10*at+10)
			wantAdded, wantDropped := slices.Clone(added), slices.Clone(dropped)
			fillRules(again, impl.Rule{Prio: 1})
			fillRules(redropped, impl.Rule{Prio: 2})
			if !slices.Equal(list, wideRules(count)) {
				t.Fatalf("%d rules: the list changes with a result", count)
			}
			fillRules(list, impl.Rule{Prio: 3})
			if !slices.Equal(added, wantAdded) || !slices.Equal(dropped, wantDropped) {
				t.Fatalf("%d rules: a result changes with the list or another one", count)
			}
		}
	}
	list := wideRules(4)
	first := impl.Shadowed(list)
	first[0] = 99
	if second := impl.Shadowed(list); !slices.Equal(second, []int{1, 2, 3}) {
		t.Error(second)
	}
}
