package tests

import (
	"math"
	"math/rand"
	"slices"
	"testing"

	"loop.example/g00655/impl"
)

const maxSeed = 1<<32 - 1
const maxCount = 1000000000000

func tableSizes() []int { return []int{4, 8, 16, 32, 64} }

func edgeSeeds() []int { return []int{0, 1, 7, maxSeed - 1, maxSeed} }

func noSeeds() []int { return []int{-1, maxSeed + 1, math.MinInt, math.MaxInt} }

func edgeVals() []int { return []int{0, 1, maxCount - 1, maxCount} }

func noVals() []int { return []int{-1, maxCount + 1, math.MinInt, math.MaxInt} }

func noTenants() []int { return []int{0, 9, -1, 257, math.MinInt, math.MaxInt} }

// An entry is what a list in place of a table has.
type entry struct {
	key impl.FlowKey
	val int
}

func someFlow(tenant int, kind int) impl.FlowKey {
	return impl.FlowKey{Tenant: tenant, Key: someKey(kind)}
}

// badFlows has keys with one thing wrong each, and with both.
func badFlows() []impl.FlowKey {
	list := []impl.FlowKey{{}}
	for _, tenant := range noTenants() {
		list = append(list, someFlow(tenant, 4), someFlow(tenant, 6))
	}
	for _, k := range badKeys() {
		list = append(list, impl.FlowKey{Tenant: 1, Key: k}, impl.FlowKey{Tenant: 9, Key: k})
	}
	return list
}

func randomFlow(source *rand.Rand) impl.FlowKey {
	return impl.FlowKey{Tenant: 1 + source.Intn(8), Key: randomKey(source)}
}

// hashedBytes lists the bytes by hand, with net/netip for the addresses.
func hashedBytes(k impl.FlowKey) []byte {
	list := []byte{byte(k.Tenant), byte(k.Key.Src.Kind)}
	list = append(list, netAddr(k.Key.Src).AsSlice()...)
	list = append(list, netAddr(k.Key.Dst).AsSlice()...)
	for _, n := range []int{k.Key.Proto, k.Key.SPort / 256, k.Key.SPort % 256, k.Key.DPort / 256, k.Key.DPort % 256} {
		list = append(list, byte(n))
	}
	return list
}

// expectedHash leaves the remainder to the arithmetic of 32 bits.
func expectedHash(seed int, k impl.FlowKey) int {
	h := uint32(seed)
	for _, b := range hashedBytes(k) {
		h ^= uint32(b)
		h *= 16777619
	}
	return int(h ^ h>>16)
}

func homeIn(t impl.Table, k impl.FlowKey) int { return expectedHash(t.Seed, k) % len(t.Cells) }

// probeOf lists the indices of all cells from the home of k on.
func probeOf(t impl.Table, k impl.FlowKey) []int {
	var list []int
	for i := homeIn(t, k); i < len(t.Cells); i++ {
		list = append(list, i)
	}
	for i := range homeIn(t, k) {
		list = append(list, i)
	}
	return list
}

func cellOf(t impl.Table, k impl.FlowKey) int {
	return slices.IndexFunc(t.Cells, func(c impl.Cell) bool { return c.Used && c.Key == k })
}

func emptyTable(seed int, size int) impl.Table {
	return impl.Table{Seed: seed, Cells: make([]impl.Cell, size)}
}

func ownTable(t impl.Table) impl.Table {
	return impl.Table{Seed: t.Seed, Cells: slices.Clone(t.Cells)}
}

func sameTable(t impl.Table, u impl.Table) bool {
	return t.Seed == u.Seed && slices.Equal(t.Cells, u.Cells)
}

func isNoTable(t impl.Table) bool { return t.Seed == 0 && len(t.Cells) == 0 }

func usedCells(t impl.Table) []impl.Cell {
	return slices.DeleteFunc(slices.Clone(t.Cells), func(c impl.Cell) bool { return !c.Used })
}

func entriesIn(t impl.Table) []entry {
	var list []entry
	for _, c := range usedCells(t) {
		list = append(list, entry{c.Key, c.Val})
	}
	return list
}

func expectedPut(t impl.Table, k impl.FlowKey, val int) impl.Table {
	u, at := ownTable(t), cellOf(t, k)
	if at < 0 {
		probe := probeOf(t, k)
		at = probe[slices.IndexFunc(probe, func(i int) bool { return !t.Cells[i].Used })]
	}
	u.Cells[at] = impl.Cell{Used: true, Key: k, Val: val}
	return u
}

func filled(t impl.Table, list []entry) impl.Table {
	for _, e := range list {
		t = expectedPut(t, e.key, e.val)
	}
	return t
}

func expectedDrop(t impl.Table, k impl.FlowKey) impl.Table {
	u, at := ownTable(t), cellOf(t, k)
	order := append(slices.Clone(t.Cells[at:]), t.Cells[:at]...)
	end := slices.IndexFunc(order, func(c impl.Cell) bool { return !c.Used })
	for i := range end {
		u.Cells[(at+i)%len(u.Cells)] = impl.Cell{}
	}
	return filled(u, entriesIn(impl.Table{Cells: order[1:end]}))
}

func expectedGrow(t impl.Table) impl.Table {
	return filled(emptyTable(t.Seed, 2*len(t.Cells)), entriesIn(t))
}

// flowsAt returns keys with the given homes in a table of that seed and size,
// all of them different. Their ports are what makes the difference.
func flowsAt(t *testing.T, seed int, size int, homes ...int) []impl.FlowKey {
	t.Helper()
	empty := emptyTable(seed, size)
	var list []impl.FlowKey
	for i, home := range homes {
		k := someFlow(1+i%8, bothKinds()[i%2])
		for k.Key.SPort = 1000 * i; homeIn(empty, k) != home; k.Key.SPort++ {
			if k.Key.SPort == 1000*i+999 {
				t.Fatalf("no key with the home %d of %d", home, size)
			}
		}
		list = append(list, k)
	}
	return list
}

// layout puts one key after the other into the given cells, whatever their homes.
// The key of index i has the Val 100 + i.
func layout(seed int, size int, keys []impl.FlowKey, cells ...int) impl.Table {
	t := emptyTable(seed, size)
	for i, at := range cells {
		t.Cells[at] = impl.Cell{Used: true, Key: keys[i], Val: 100 + i}
	}
	return t
}

// entriesOf has the entries of a layout of all these keys.
func entriesOf(keys []impl.FlowKey) []entry {
	var list []entry
	for i, k := range keys {
		list = append(list, entry{k, 100 + i})
	}
	return list
}

func randomEntries(source *rand.Rand, count int) []entry {
	var list []entry
	for len(list) < count {
		k := randomFlow(source)
		if !slices.ContainsFunc(list, func(e entry) bool { return e.key == k }) {
			list = append(list, entry{k, source.Intn(maxCount + 1)})
		}
	}
	return list
}

func randomTable(source *rand.Rand, size int, used int) impl.Table {
	return filled(emptyTable(source.Intn(maxSeed+1), size), randomEntries(source, used))
}

// checkHolds compares a table with a list of the keys and Vals in it.
func checkHolds(t *testing.T, u impl.Table, list []entry) {
	t.Helper()
	if !impl.TableOk(u) || impl.TableUsed(u) != len(list) || len(impl.TableKeys(u)) != len(list) {
		t.Fatalf("%+v: valid %v, %d cells of %d Used", u, impl.TableOk(u), impl.TableUsed(u), len(list))
	}
	for _, e := range list {
		if val, ok := impl.TableFind(u, e.key); !ok || val != e.val {
			t.Fatalf("%+v: the Val of %+v: %d %v", u, e, val, ok)
		}
	}
	keys := impl.TableKeys(u)
	for i, c := range usedCells(u) {
		if keys[i] != c.Key {
			t.Fatalf("%+v: the key %d: %+v", u, i, keys[i])
		}
	}
}

func checkPut(t *testing.T, u impl.Table, k impl.FlowKey, val int) impl.Table {
	t.Helper()
	before, want := ownTable(u), expectedPut(u, k, val)
	got, code := impl.TablePut(u, k, val)
	if code != impl.TableFine || !sameTable(got, want) || !sameTable(u, before) {
		t.Fatalf("%+v put into %+v: %+v %d, not %+v", k, before, got, code, want)
	}
	return got
}

func checkDrop(t *testing.T, u impl.Table, k impl.FlowKey) impl.Table {
	t.Helper()
	before, want := ownTable(u), expectedDrop(u, k)
	got, code := impl.TableDrop(u, k)
	if code != impl.TableFine || !sameTable(got, want) || !sameTable(u, before) {
		t.Fatalf("%+v dropped from %+v: %+v %d, not %+v", k, before, got, code, want)
	}
	return got
}

func checkGrow(t *testing.T, u impl.Table) impl.Table {
	t.Helper()
	before, want := ownTable(u), expectedGrow(u)
	got, code := impl.TableGrow(u)
	if code != impl.TableFine || !sameTable(got, want) || !sameTable(u, before) {
		t.Fatalf("%+v grown: %+v %d, not %+v", before, got, code, want)
	}
	return got
}

func checkPutFails(t *testing.T, u impl.Table, k impl.FlowKey, val int, want int) {
	t.Helper()
	if got, code := impl.TablePut(u, k, val); code != want || !isNoTable(got) {
		t.Fatalf("%+v %d put into %+v: %+v %d, not %d", k, val, u, got, code, want)
	}
}

func checkDropFails(t *testing.T, u impl.Table, k impl.FlowKey, want int) {
	t.Helper()
	if got, code := impl.TableDrop(u, k); code != want || !isNoTable(got) {
		t.Fatalf("%+v dropped from %+v: %+v %d, not %d", k, u, got, code, want)
	}
}

func checkGrowFails(t *testing.T, u impl.Table, want int) {
	t.Helper()
	if got, code := impl.TableGrow(u); code != want || !isNoTable(got) {
		t.Fatalf("%+v grown: %+v %d, not %d", u, got, code, want)
	}
}

func checkNotFound(t *testing.T, u impl.Table, k impl.FlowKey) {
	t.Helper()
	if val, ok := impl.TableFind(u, k); val != 0 || ok {
		t.Fatalf("%+v found in %+v: %d %v", k, u, val, ok)
	}
}

// checkTableInvalid asks for keys in the table as well as for others, with
// and without other faults.
func checkTableInvalid(t *testing.T, u impl.Table) {
	t.Helper()
	if impl.TableOk(u) || impl.TableUsed(u) != -1 || len(impl.TableKeys(u)) != 0 {
		t.Fatalf("%+v: valid %v, %d cells Used, the keys %+v", u, impl.TableOk(u), impl.TableUsed(u), impl.TableKeys(u))
	}
	checkGrowFails(t, u, impl.TableForm)
	keys := []impl.FlowKey{someFlow(1, 4), someFlow(8, 6), {}, someFlow(9, 4)}
	if used := usedCells(u); len(used) > 0 {
		keys = append(keys, used[0].Key, used[len(used)/2].Key, used[len(used)-1].Key)
	}
	for _, k := range keys {
		checkNotFound(t, u, k)
		checkDropFails(t, u, k, impl.TableForm)
		checkPutFails(t, u, k, 0, impl.TableForm)
		checkPutFails(t, u, k, -1, impl.TableForm)
	}
}

func TestFlowKeyOk(t *testing.T) {
	source := rand.New(rand.NewSource(1101))
	for range 200 {
		for tenant := 1; tenant <= 8; tenant++ {
			if k := (impl.FlowKey{Tenant: tenant, Key: randomKey(source)}); !impl.FlowKeyOk(k) {
				t.Fatalf("not valid: %+v", k)
			}
		}
	}
	for _, p := range allPairs() {
		k := impl.FlowKey{Tenant: 8, Key: impl.Key{Src: p.src, Dst: p.dst, Proto: 255, SPort: 65535, DPort: 65535}}
		if !impl.FlowKeyOk(k) {
			t.Fatalf("not valid: %+v", k)
		}
	}
	for _, k := range badFlows() {
		if impl.FlowKeyOk(k) {
			t.Errorf("valid: %+v", k)
		}
	}
}

func checkHash(t *testing.T, seed int, k impl.FlowKey) {
	t.Helper()
	if got, want := impl.HashOf(seed, k), expectedHash(seed, k); got != want {
		t.Fatalf("%d %+v: %d, not %d", seed, k, got, want)
	}
}

func TestHashOfEdges(t *testing.T) {
	ports := []int{0, 1, 255, 256, 257, 65280, 65534, 65535}
	for _, seed := range edgeSeeds() {
		for _, kind := range bothKinds() {
			for _, sport := range ports {
				for _, dport := range ports {
					for _, tenant := range []int{1, 8} {
						k := someFlow(tenant, kind)
						k.Key.SPort, k.Key.DPort = sport, dport
						checkHash(t, seed, k)
					}
				}
			}
		}
	}
}

func TestHashOfEveryAddressAndProto(t *testing.T) {
	for _, seed := range edgeSeeds() {
		for _, p := range allPairs() {
			checkHash(t, seed, impl.FlowKey{Tenant: 3, Key: impl.Key{Src: p.src, Dst: p.dst, Proto: 17, SPort: 258}})
		}
		for proto := range 256 {
			k := someFlow(1+proto%8, bothKinds()[proto%2])
			k.Key.Proto = proto
			checkHash(t, seed, k)
		}
	}
}

func TestHashOfRandomKeys(t *testing.T) {
	source := rand.New(rand.NewSource(1102))
	for range 5000 {
		k := randomFlow(source)
		k.Key.SPort, k.Key.DPort, k.Key.Proto = source.Intn(65536), source.Intn(65536), source.Intn(256)
		checkHash(t, source.Intn(maxSeed+1), k)
	}
}

// The numbers were calculated apart from the program, from the bytes in the comments.
func TestHashOfKnownKeys(t *testing.T) {
	four := impl.FlowKey{Tenant: 1, Key: impl.Key{Src: impl.Addr{Kind: 4, D: 1}, Dst: impl.Addr{Kind: 4, D: 2}, Proto: 6, SPort: 1, DPort: 80}}
	six := impl.FlowKey{Tenant: 8, Key: impl.Key{Src: impl.Addr{Kind: 6, A: 536939960, D: 1}, Dst: impl.Addr{Kind: 6}, Proto: 17, SPort: 65535, DPort: 256}}
	for _, c := range []struct {
		seed int
		k    impl.FlowKey
		want int
	}{
		// 01 04 00000001 00000002 06 0001 0050
		{0, four, 1221515735}, {1, four, 2529947861}, {maxSeed, four, 3718052324},
		// 08 06 20010db8000000000000000000000001 00000000000000000000000000000000 11 ffff 0100
		{0, six, 2046006606}, {1, six, 1062033159}, {maxSeed, six, 2687460095},
	} {
		if got := impl.HashOf(c.seed, c.k); got != c.want {
			t.Errorf("%d %+v: %d", c.seed, c.k, got)
		}
	}
}

func TestHashOfRejects(t *testing.T) {
	for _, seed := range noSeeds() {
		if got := impl.HashOf(seed, someFlow(1, 4)); got != -1 {
			t.Errorf("seed %d: %d", seed, got)
		}
	}
	for _, k := range badFlows() {
		for _, seed := range []int{0, 1, maxSeed, -1, maxSeed + 1} {
			if got := impl.HashOf(seed, k); got != -1 {
				t.Errorf("seed %d %+v: %d", seed, k, got)
			}
		}
	}
}

func TestTableNew(t *testing.T) {
	for _, seed := range edgeSeeds() {
		for _, size := range tableSizes() {
			u := impl.TableNew(seed, size)
			if !sameTable(u, emptyTable(seed, size)) {
				t.Fatalf("%d %d: %+v", seed, size, u)
			}
			checkHolds(t, u, nil)
			checkNotFound(t, u, someFlow(1, 4))
			checkDropFails(t, u, someFlow(1, 4), impl.TableNone)
		}
	}
}

func noTableSizes() []int {
	list := []int{math.MinInt, math.MaxInt, -4, -64, 1 << 32, 1<<32 + 4, 1 << 62, 96, 127, 128, 129, 256}
	for size := range 66 {
		if !slices.Contains(tableSizes(), size) {
			list = append(list, size)
		}
	}
	return list
}

func TestTableNewRejects(t *testing.T) {
	if u := impl.TableNew(7, 5); !isNoTable(u) {
		t.Error(u)
	}
	for _, size := range noTableSizes() {
		for _, seed := range []int{0, 7, maxSeed, -1, maxSeed + 1} {
			if u := impl.TableNew(seed, size); !isNoTable(u) {
				t.Errorf("%d %d: %+v", seed, size, u)
			}
		}
	}
	for _, seed := range noSeeds() {
		for _, size := range tableSizes() {
			if u := impl.TableNew(seed, size); !isNoTable(u) {
				t.Errorf("%d %d: %+v", seed, size, u)
			}
		}
	}
}

func TestTableExample(t *testing.T) {
	u := impl.TableNew(7, 4)
	keys := flowsAt(t, 7, 4, 2, 0, 2, 1)
	for i, k := range keys[:3] {
		u = checkPut(t, u, k, 100+i)
	}
	if want := layout(7, 4, keys, 2, 0, 3); !sameTable(u, want) {
		t.Fatalf("%+v", u)
	}
	checkPutFails(t, u, keys[3], 5, impl.TableFull)
	for _, val := range edgeVals() {
		for i := range 3 {
			v := checkPut(t, u, keys[i], val)
			list := entriesOf(keys[:3])
			list[i].val = val
			checkHolds(t, v, list)
		}
	}
}

func TestTenantsAndValsAtTheirEdges(t *testing.T) {
	for _, seed := range edgeSeeds() {
		for _, size := range tableSizes() {
			for _, kind := range bothKinds() {
				for _, val := range edgeVals() {
					u := checkPut(t, impl.TableNew(seed, size), someFlow(1, kind), val)
					u = checkPut(t, u, someFlow(8, kind), maxCount-val)
					checkHolds(t, u, []entry{{someFlow(1, kind), val}, {someFlow(8, kind), maxCount - val}})
					checkNotFound(t, u, someFlow(2, kind))
				}
			}
		}
	}
}

// Keys that differ in one field only are different keys.
func TestKeysThatDifferInOneField(t *testing.T) {
	for _, kind := range bothKinds() {
		k := someFlow(4, kind)
		others := slices.Repeat([]impl.FlowKey{k}, 6)
		others[0].Tenant++
		others[1].Key.Src.D++
		others[2].Key.Dst.D++
		others[3].Key.Proto++
		others[4].Key.SPort++
		others[5].Key.DPort++
		if kind == 6 {
			others = append(others, k, k)
			others[6].Key.Src.A++
			others[7].Key.Dst.B++
		}
		for _, size := range tableSizes() {
			u := checkPut(t, impl.TableNew(9, size), k, 1)
			for _, other := range others {
				checkNotFound(t, u, other)
				checkDropFails(t, u, other, impl.TableNone)
				checkHolds(t, checkPut(t, u, other, 2), []entry{{k, 1}, {other, 2}})
			}
		}
	}
}

func TestThreeQuartersUsed(t *testing.T) {
	source := rand.New(rand.NewSource(1103))
	for _, size := range tableSizes() {
		list := randomEntries(source, size/4*3+1)
		u := impl.TableNew(source.Intn(maxSeed+1), size)
		for i, e := range list[:size/4*3] {
			u = checkPut(t, u, e.key, e.val)
			checkHolds(t, u, list[:i+1])
		}
		last := list[size/4*3]
		checkPutFails(t, u, last.key, last.val, impl.TableFull)
		checkNotFound(t, u, last.key)
		checkDropFails(t, u, last.key, impl.TableNone)
		for _, e := range list[:size/4*3] {
			checkPut(t, u, e.key, 5)
			v := checkDrop(t, u, e.key)
			checkPut(t, v, last.key, last.val)
			checkPutFails(t, checkPut(t, v, last.key, last.val), e.key, e.val, impl.TableFull)
		}
	}
}

// One fault counts before a table that is full.
func TestFullTableWithAnotherFault(t *testing.T) {
	source := rand.New(rand.NewSource(1104))
	for _, size := range tableSizes() {
		list := randomEntries(source, size/4*3+1)
		u := filled(emptyTable(3, size), list[:size/4*3])
		for _, val := range noVals() {
			checkPutFails(t, u, list[0].key, val, impl.TableForm)
			checkPutFails(t, u, list[size/4*3].key, val, impl.TableForm)
			checkPutFails(t, u, someFlow(9, 4), val, impl.TableForm)
		}
		for _, k := range badFlows() {
			checkPutFails(t, u, k, 0, impl.TableForm)
		}
		for _, seed := range noSeeds() {
			v := ownTable(u)
			v.Seed = seed
			checkPutFails(t, v, list[size/4*3].key, 0, impl.TableForm)
			checkGrowFails(t, v, impl.TableForm)
		}
	}
}

func TestBadKeysAndVals(t *testing.T) {
	source := rand.New(rand.NewSource(1105))
	for _, size := range tableSizes() {
		for _, used := range []int{0, 1, size / 2} {
			u := randomTable(source, size, used)
			for _, k := range badFlows() {
				checkNotFound(t, u, k)
				checkDropFails(t, u, k, impl.TableForm)
				checkPutFails(t, u, k, 0, impl.TableForm)
				checkPutFails(t, u, k, -1, impl.TableForm)
			}
			for _, val := range noVals() {
				checkPutFails(t, u, someFlow(1, 4), val, impl.TableForm)
			}
		}
	}
}

// A probeCase has keys that are put one after the other into an empty table: their
// homes, the cells that they get, and the cells after the drop of each of them. A
// letter is a key, in the order in which they were put; - is a cell not Used.
type probeCase struct {
	homes []int
	cells string
	drops []string
}

func probeCases() []probeCase {
	return []probeCase{
		{[]int{3, 3, 3}, "bc-a", []string{"c--b", "c--a", "b--a"}},
		{[]int{3, 0, 3}, "bc-a", []string{"b--c", "c--a", "b--a"}},
		{[]int{2, 2, 2}, "c-ab", []string{"--bc", "--ac", "--ab"}},
		{[]int{1, 1, 1}, "-abc", []string{"-bc-", "-ac-", "-ab-"}},
		{[]int{0, 3, 3}, "ac-b", []string{"c--b", "a--c", "a--b"}},
		{[]int{6, 6, 6, 6}, "cd----ab", []string{"d-----bc", "d-----ac", "d-----ab", "c-----ab"}},
		{[]int{7, 7, 0, 1}, "bcd----a", []string{"cd-----b", "cd-----a", "bd-----a", "bc-----a"}},
		{[]int{7, 0, 7, 0}, "bcd----a", []string{"bd-----c", "cd-----a", "bd-----a", "bc-----a"}},
		{[]int{0, 1, 2, 0, 5}, "abcd-e--", []string{"dbc--e--", "adc--e--", "abd--e--", "abc--e--", "abcd----"}},
		{[]int{2, 3, 2, 4, 3, 7}, "--abcdef", []string{"--cbde-f", "--acde-f", "--abde-f", "--abce-f", "--abcd-f", "--abcde-"}},
	}
}

// drawn makes a table of such letters.
func drawn(seed int, keys []impl.FlowKey, letters string) impl.Table {
	t := emptyTable(seed, len(letters))
	for at, letter := range letters {
		if letter != '-' {
			t.Cells[at] = impl.Cell{Used: true, Key: keys[letter-'a'], Val: 100 + int(letter-'a')}
		}
	}
	return t
}

func TestProbeSequences(t *testing.T) {
	for _, c := range probeCases() {
		for _, seed := range edgeSeeds() {
			keys := flowsAt(t, seed, len(c.cells), c.homes...)
			u := impl.TableNew(seed, len(c.cells))
			for i, k := range keys {
				u = checkPut(t, u, k, 100+i)
			}
			if !sameTable(u, drawn(seed, keys, c.cells)) {
				t.Fatalf("%+v: %+v", c, u)
			}
			checkHolds(t, u, entriesOf(keys))
			for i, k := range keys {
				if v := checkDrop(t, u, k); !sameTable(v, drawn(seed, keys, c.drops[i])) {
					t.Fatalf("%+v: without the key %d: %+v", c, i, v)
				}
				if v := checkPut(t, u, k, 7); cellOf(v, k) != cellOf(u, k) {
					t.Fatalf("%+v: the key %d is in another cell: %+v", c, i, v)
				}
			}
		}
	}
}

// A run of Used cells over the end of a table of every size: every key has the
// home of the first, and the last one is dropped from a cell before its home.
func TestRunsThatWrapAround(t *testing.T) {
	for _, size := range tableSizes() {
		for start := size - 3; start < size; start++ {
			homes := slices.Repeat([]int{start}, min(size/4*3, 6))
			keys := flowsAt(t, 77, size, homes...)
			u := impl.TableNew(77, size)
			for i, k := range keys {
				u = checkPut(t, u, k, 100+i)
				if at := cellOf(u, k); at != (start+i)%size {
					t.Fatalf("%d cells: the key %d is in the cell %d", size, i, at)
				}
			}
			for i, k := range keys {
				v := checkDrop(t, u, k)
				for j, l := range slices.Delete(slices.Clone(keys), i, i+1) {
					if at := cellOf(v, l); at != (start+j)%size {
						t.Fatalf("%d cells: without the key %d, one behind is in the cell %d", size, i, at)
					}
				}
			}
		}
	}
}

func TestKeysAreInTheOrderOfTheirCells(t *testing.T) {
	for _, size := range tableSizes() {
		keys := flowsAt(t, 5, size, size-1, size-1, 1)
		u := filled(emptyTable(5, size), entriesOf(keys))
		if got := impl.TableKeys(u); !slices.Equal(got, []impl.FlowKey{keys[1], keys[2], keys[0]}) {
			t.Fatalf("%d cells: %+v", size, got)
		}
	}
}

// The keys are put in the order of their cells, not in that in which they were
// put before, so the first one is the last one now.
func TestTableGrowOrder(t *testing.T) {
	for _, size := range tableSizes()[:4] {
		for _, seed := range edgeSeeds() {
			last := 2*size - 1
			keys := flowsAt(t, seed, 2*size, last, last, last)
			u := filled(emptyTable(seed, size), entriesOf(keys))
			if !sameTable(u, layout(seed, size, keys, size-1, 0, 1)) {
				t.Fatalf("%+v", u)
			}
			v := checkGrow(t, u)
			if !sameTable(v, layout(seed, 2*size, keys, 1, last, 0)) {
				t.Fatalf("%+v", v)
			}
		}
	}
}

func TestTableGrow(t *testing.T) {
	source := rand.New(rand.NewSource(1106))
	for range 50 {
		for _, used := range []int{0, 1, 2, 3} {
			list := randomEntries(source, used)
			u := filled(emptyTable(source.Intn(maxSeed+1), 4), list)
			for len(u.Cells) < 64 {
				u = checkGrow(t, u)
				checkHolds(t, u, list)
				for _, e := range randomEntries(source, len(u.Cells)/4*3) {
					if cellOf(u, e.key) < 0 && len(list) < len(u.Cells)/4*3 {
						u, list = checkPut(t, u, e.key, e.val), append(list, e)
					}
				}
				checkHolds(t, u, list)
			}
			checkGrowFails(t, u, impl.TableFull)
		}
	}
	for _, used := range []int{0, 1, 47, 48} {
		checkGrowFails(t, randomTable(source, 64, used), impl.TableFull)
	}
}

// A tableModel is a table and a list of what must be in it.
type tableModel struct {
	table impl.Table
	list  []entry
}

func (m tableModel) find(k impl.FlowKey) int {
	return slices.IndexFunc(m.list, func(e entry) bool { return e.key == k })
}

func (m *tableModel) put(t *testing.T, k impl.FlowKey, val int) {
	t.Helper()
	at := m.find(k)
	if at < 0 && len(m.list) == len(m.table.Cells)/4*3 {
		checkPutFails(t, m.table, k, val, impl.TableFull)
		return
	}
	m.table = checkPut(t, m.table, k, val)
	if at < 0 {
		m.list = append(m.list, entry{k, val})
		return
	}
	m.list[at].val = val
}

func (m *tableModel) drop(t *testing.T, k impl.FlowKey) {
	t.Helper()
	at := m.find(k)
	if at < 0 {
		checkDropFails(t, m.table, k, impl.TableNone)
		return
	}
	m.table = checkDrop(t, m.table, k)
	m.list = slices.Delete(m.list, at, at+1)
}

func (m *tableModel) grow(t *testing.T) {
	t.Helper()
	if len(m.table.Cells) == 64 {
		checkGrowFails(t, m.table, impl.TableFull)
		return
	}
	m.table = checkGrow(t, m.table)
}

func (m *tableModel) check(t *testing.T, pool []impl.FlowKey) {
	t.Helper()
	checkHolds(t, m.table, m.list)
	for _, k := range pool {
		if m.find(k) < 0 {
			checkNotFound(t, m.table, k)
		}
	}
}

func TestWhateverIsPutDroppedAndGrown(t *testing.T) {
	source := rand.New(rand.NewSource(1107))
	for _, size := range tableSizes() {
		for range 6 {
			m := tableModel{table: impl.TableNew(source.Intn(maxSeed+1), size)}
			var pool []impl.FlowKey
			for range size + 2 {
				pool = append(pool, randomFlow(source))
			}
			for range 6 * size {
				k := pool[source.Intn(len(pool))]
				switch source.Intn(40) {
				case 0:
					m.grow(t)
				case 1, 2, 3, 4, 5, 6, 7, 8, 9, 10, 11, 12, 13, 14:
					m.drop(t, k)
				default:
					m.put(t, k, source.Intn(maxCount+1))
				}
				m.check(t, pool)
			}
		}
	}
}

// Keys of few homes make long runs, also over the end of the table.
func TestWhateverIsPutAndDroppedInARun(t *testing.T) {
	source := rand.New(rand.NewSource(1108))
	for _, size := range tableSizes() {
		for start := range size {
			var homes []int
			for i := range size {
				homes = append(homes, (start+i%3)%size)
			}
			pool := flowsAt(t, 31, size, homes...)
			m := tableModel{table: impl.TableNew(31, size)}
			for range 3 * size {
				k := pool[source.Intn(len(pool))]
				if source.Intn(5) < 2 {
					m.drop(t, k)
				} else {
					m.put(t, k, source.Intn(100))
				}
			}
			m.check(t, pool)
		}
	}
}

func checkRestored(t *testing.T, u impl.Table, k impl.FlowKey) {
	t.Helper()
	v, code := impl.TablePut(u, k, 3)
	w, next := impl.TableDrop(v, k)
	if code != impl.TableFine || next != impl.TableFine || sameTable(u, v) || !sameTable(u, w) {
		t.Fatalf("%+v put into and dropped from %+v: %+v %d, then %+v %d", k, u, v, code, w, next)
	}
}

// A new key of every home is put and dropped, so it also joins two runs.
func TestPutAndDropRestoresTheTable(t *testing.T) {
	source := rand.New(rand.NewSource(1109))
	for _, size := range tableSizes() {
		for used := range size / 4 * 3 {
			for range 6 {
				u := randomTable(source, size, used)
				for home := range size {
					k := flowsAt(t, u.Seed, size, home)[0]
					if cellOf(u, k) < 0 {
						checkRestored(t, u, k)
					}
				}
			}
		}
	}
}

func TestPutAndDropInARunRestoresTheTable(t *testing.T) {
	for _, c := range probeCases() {
		keys := flowsAt(t, 4, len(c.cells), append(c.homes, 0, 1, 2, 3, len(c.cells)-1)...)
		for _, cells := range append(c.drops, "----", "--------") {
			for _, k := range keys {
				if u := drawn(4, keys, cells); cellOf(u, k) < 0 {
					checkRestored(t, u, k)
				}
			}
		}
	}
}

// expectedOk follows the chapter's words one by one.
func expectedOk(t impl.Table) bool {
	if t.Seed < 0 || t.Seed > maxSeed || !slices.Contains(tableSizes(), len(t.Cells)) || 4*len(usedCells(t)) > 3*len(t.Cells) {
		return false
	}
	seen := map[impl.FlowKey]bool{}
	for at, c := range t.Cells {
		switch {
		case !c.Used && c != impl.Cell{}:
			return false
		case !c.Used:
		case !impl.FlowKeyOk(c.Key) || c.Val < 0 || c.Val > maxCount || seen[c.Key] || !reached(t, c.Key, at):
			return false
		default:
			seen[c.Key] = true
		}
	}
	return true
}

// reached says whether all cells before at in the probe sequence of k are Used.
func reached(t impl.Table, k impl.FlowKey, at int) bool {
	probe := probeOf(t, k)
	free := func(i int) bool { return !t.Cells[i].Used }
	return !slices.ContainsFunc(probe[:slices.Index(probe, at)], free)
}

func checkTableIs(t *testing.T, u impl.Table, valid bool) {
	t.Helper()
	if expectedOk(u) != valid {
		t.Fatalf("the test is wrong about %+v", u)
	}
	if !valid {
		checkTableInvalid(t, u)
		return
	}
	checkHolds(t, u, entriesIn(u))
}

func TestSeedsAndSizesOfTables(t *testing.T) {
	source := rand.New(rand.NewSource(1110))
	for _, size := range tableSizes() {
		for _, used := range []int{0, 1, size / 4 * 3} {
			u := randomTable(source, size, used)
			checkTableIs(t, u, true)
			for _, seed := range noSeeds() {
				u.Seed = seed
				checkTableIs(t, u, false)
			}
		}
		for _, seed := range edgeSeeds() {
			checkTableIs(t, filled(emptyTable(seed, size), randomEntries(source, 2)), true)
		}
	}
	for _, size := range noTableSizes() {
		if size < 0 || size > 256 {
			continue
		}
		checkTableIs(t, emptyTable(7, size), false)
		if size > 1 {
			checkTableIs(t, filled(emptyTable(7, size), randomEntries(source, 1)), false)
		}
	}
	checkTableIs(t, impl.Table{}, false)
	checkTableIs(t, impl.Table{Cells: make([]impl.Cell, 4)}, true)
}

func TestTooManyCellsUsed(t *testing.T) {
	source := rand.New(rand.NewSource(1111))
	for _, size := range tableSizes() {
		for used := size / 4 * 3; used <= size; used++ {
			checkTableIs(t, randomTable(source, size, used), used == size/4*3)
		}
	}
}

func TestAKeyTwice(t *testing.T) {
	for _, size := range tableSizes() {
		for start := range size {
			keys := flowsAt(t, 1, size, start, start, start)
			next, third, last := (start+1)%size, (start+2)%size, (start+size-1)%size
			checkTableIs(t, layout(1, size, keys, start, next), true)
			for _, cells := range [][]int{{start, next}, {next, start}, {start, third}, {start, last}, {third, next}} {
				twice := []impl.FlowKey{keys[0], keys[0]}
				checkTableIs(t, layout(1, size, twice, cells...), false)
			}
			between := []impl.FlowKey{keys[0], keys[1], keys[0]}
			checkTableIs(t, layout(1, size, between, start, next, third), false)
			checkTableIs(t, layout(1, size, between, third, next, start), false)
			same := layout(1, size, between[1:], start, next)
			same.Cells[next] = same.Cells[start]
			checkTableIs(t, same, false)
		}
	}
}

// One key alone is in its home, and elsewhere behind a cell that is not Used.
func TestKeysBehindAFreeCell(t *testing.T) {
	for _, size := range tableSizes() {
		for home := range size {
			keys := flowsAt(t, 2, size, home, home, home)
			for step := range size {
				at, next, before := (home+step)%size, (home+step+1)%size, (home+step+size-1)%size
				checkTableIs(t, layout(2, size, keys[:1], at), step == 0)
				checkTableIs(t, layout(2, size, keys[:2], at, next), step == 0)
				checkTableIs(t, layout(2, size, keys, before, at, next), step == 1)
			}
		}
	}
}

// A cell of a run is cleared: what is behind it may be reached or not.
func TestRunsWithOneCellCleared(t *testing.T) {
	source := rand.New(rand.NewSource(1112))
	for _, size := range tableSizes() {
		valid := map[bool]int{}
		for range 40 {
			u := randomTable(source, size, size/4*3)
			for at, c := range u.Cells {
				if !c.Used {
					continue
				}
				v := ownTable(u)
				v.Cells[at] = impl.Cell{}
				valid[expectedOk(v)]++
				checkTableIs(t, v, expectedOk(v))
			}
		}
		if valid[true] == 0 || valid[false] == 0 {
			t.Errorf("%d cells: %v", size, valid)
		}
	}
}

// The cells of a valid table in another order.
func TestCellsInAnotherOrder(t *testing.T) {
	source := rand.New(rand.NewSource(1113))
	for _, size := range tableSizes() {
		for range 60 {
			u := randomTable(source, size, 1+source.Intn(size/4*3))
			i, j := source.Intn(size), source.Intn(size)
			u.Cells[i], u.Cells[j] = u.Cells[j], u.Cells[i]
			checkTableIs(t, u, expectedOk(u))
		}
	}
}

// badFreeCells are not Used and not the zero value.
func badFreeCells() []impl.Cell {
	return []impl.Cell{
		{Val: 1}, {Val: -1}, {Val: maxCount},
		{Key: someFlow(1, 4)}, {Key: someFlow(1, 6), Val: 5},
		{Key: impl.FlowKey{Tenant: 1}},
		{Key: impl.FlowKey{Key: impl.Key{Proto: 1}}},
		{Key: impl.FlowKey{Key: impl.Key{SPort: 1}}},
		{Key: impl.FlowKey{Key: impl.Key{DPort: 1}}},
		{Key: impl.FlowKey{Key: impl.Key{Src: impl.Addr{Kind: 4}}}},
		{Key: impl.FlowKey{Key: impl.Key{Dst: impl.Addr{D: 1}}}},
	}
}

// badUsedCells have a Key or a Val that is not valid, or both.
func badUsedCells() []impl.Cell {
	list := []impl.Cell{{Used: true}}
	for _, k := range badFlows() {
		list = append(list, impl.Cell{Used: true, Key: k}, impl.Cell{Used: true, Key: k, Val: -1})
	}
	for _, val := range noVals() {
		list = append(list, impl.Cell{Used: true, Key: someFlow(2, 4), Val: val})
	}
	return list
}

func TestCellsThatAreNotValid(t *testing.T) {
	source := rand.New(rand.NewSource(1114))
	for _, size := range tableSizes() {
		for _, used := range []int{0, size/4*3 - 1} {
			u := randomTable(source, size, used)
			for at, c := range u.Cells {
				for i, bad := range slices.Concat(badFreeCells(), badUsedCells()) {
					if c.Used || size > 4 && i%size != at {
						continue
					}
					v := ownTable(u)
					v.Cells[at] = bad
					checkTableIs(t, v, false)
				}
			}
		}
	}
}

// The Val of a key in its home decides.
func TestValsInCells(t *testing.T) {
	for _, size := range tableSizes() {
		for home := range size {
			u := layout(6, size, flowsAt(t, 6, size, home), home)
			for _, val := range edgeVals() {
				u.Cells[home].Val = val
				checkTableIs(t, u, true)
			}
			for _, val := range noVals() {
				u.Cells[home].Val = val
				checkTableIs(t, u, false)
			}
		}
	}
}

// A field of a Used cell is put out of its range, which its Key's home cannot mend.
func TestKeysInCellsThatAreNotValid(t *testing.T) {
	source := rand.New(rand.NewSource(1115))
	for _, size := range tableSizes() {
		u := randomTable(source, size, size/4*3)
		for at, c := range u.Cells {
			if !c.Used {
				continue
			}
			for _, tenant := range noTenants() {
				v := ownTable(u)
				v.Cells[at].Key.Tenant = tenant
				checkTableIs(t, v, false)
			}
			for _, n := range []int{-1, 65536} {
				v, w, x := ownTable(u), ownTable(u), ownTable(u)
				v.Cells[at].Key.Key.SPort, w.Cells[at].Key.Key.DPort, x.Cells[at].Key.Key.Proto = n, n, n
				checkTableIs(t, v, false)
				checkTableIs(t, w, false)
				checkTableIs(t, x, false)
			}
		}
	}
}

// spareTable has cells behind the length that are not to be read or changed.
func spareTable(t impl.Table) (impl.Table, []impl.Cell) {
	cells := slices.Concat(t.Cells, badFreeCells(), badUsedCells())
	return impl.Table{Seed: t.Seed, Cells: cells[:len(t.Cells)]}, cells
}

func spoilTable(t impl.Table) {
	cells := t.Cells[:cap(t.Cells)]
	for i := range cells {
		cells[i] = impl.Cell{Val: 77}
	}
}

// checkTableIsNew has one result spoilt, then the table given, and compares what
// is left with the second result.
func checkTableIsNew(t *testing.T, name string, u impl.Table, do func(u impl.Table) (impl.Table, int)) {
	t.Helper()
	given, cells := spareTable(u)
	before := slices.Clone(cells)
	first, code := do(given)
	second, _ := do(given)
	want := ownTable(second)
	if code != impl.TableFine || !sameTable(first, want) {
		t.Fatalf("%s: %+v: %+v %d, then %+v", name, u, first, code, want)
	}
	spoilTable(first)
	if !slices.Equal(cells, before) || !sameTable(second, want) {
		t.Fatalf("%s: %+v: changed, or changes with a result", name, u)
	}
	for i := range cells {
		cells[i] = impl.Cell{Val: 78}
	}
	if !sameTable(second, want) {
		t.Fatalf("%s: a result changes with the table", name)
	}
}

func TestTableResultsAreNew(t *testing.T) {
	source := rand.New(rand.NewSource(1116))
	for _, size := range tableSizes() {
		list := randomEntries(source, size/4*3)
		u := filled(emptyTable(8, size), list[1:])
		k, held := list[0].key, list[1]
		checkTableIsNew(t, "new", u, func(impl.Table) (impl.Table, int) { return impl.TableNew(8, size), impl.TableFine })
		checkTableIsNew(t, "put", u, func(u impl.Table) (impl.Table, int) { return impl.TablePut(u, k, 1) })
		checkTableIsNew(t, "put again", u, func(u impl.Table) (impl.Table, int) { return impl.TablePut(u, held.key, held.val) })
		checkTableIsNew(t, "drop", u, func(u impl.Table) (impl.Table, int) { return impl.TableDrop(u, held.key) })
		if size < 64 {
			checkTableIsNew(t, "grow", u, impl.TableGrow)
			checkTableIsNew(t, "grow empty", emptyTable(8, size), impl.TableGrow)
		}
	}
}

// Whatever is asked of a table, and whether or not it is valid, it is left alone,
// with what lies behind it, and the keys are new.
func TestTablesAreLeftAlone(t *testing.T) {
	source := rand.New(rand.NewSource(1117))
	for _, size := range tableSizes() {
		good := randomTable(source, size, size/4*3)
		broken := ownTable(good)
		broken.Cells[source.Intn(size)].Val = -1
		for _, u := range []impl.Table{good, broken, emptyTable(1, size), emptyTable(-1, size)} {
			given, cells := spareTable(u)
			before := slices.Clone(cells)
			valid := impl.TableOk(given)
			if valid != expectedOk(u) || impl.TableUsed(given) != impl.TableUsed(u) {
				t.Fatalf("%+v: valid %v, %d Used", u, valid, impl.TableUsed(given))
			}
			for _, k := range []impl.FlowKey{good.Cells[0].Key, good.Cells[1].Key, good.Cells[size-1].Key, someFlow(3, 4), {}} {
				impl.TableFind(given, k)
				impl.TablePut(given, k, 6)
				impl.TablePut(given, k, -1)
				impl.TableDrop(given, k)
			}
			impl.TableGrow(given)
			keys, again := impl.TableKeys(given), impl.TableKeys(given)
			want := slices.Clone(again)
			keys = keys[:cap(keys)]
			for i := range keys {
				keys[i] = impl.FlowKey{Tenant: 77}
			}
			if !slices.Equal(cells, before) || !slices.Equal(again, want) {
				t.Fatalf("%+v: changed, or changes with the keys", u)
			}
			spoilTable(given)
			if !slices.Equal(again, want) {
				t.Fatalf("%+v: the keys change with the table", u)
			}
		}
	}
}
