package tests

import (
	"bytes"
	"math"
	"math/rand"
	"slices"
	"testing"

	"loop.example/g00655/impl"
)

const lastWord = 65535

// edgeWords holds the words where a carry or a complement goes wrong first.
func edgeWords() []int {
	return []int{0, 1, 2, 255, 256, 257, 32767, 32768, 65279, 65280, 65533, 65534, 65535}
}

func noWords() []int {
	return []int{-1, -2, -65535, -65536, 65536, 65537, 131070, 1 << 32, -(1 << 32), math.MaxInt - 1, math.MaxInt, math.MinInt, math.MinInt + 1, math.MinInt + 65535}
}

// expectedSum does without folding: in ones' complement all multiples of 65535
// but 0 itself are 65535.
func expectedSum(data []byte) int {
	total := 0
	for i := 0; i < len(data); i += 2 {
		total += 256 * int(data[i])
		if i+1 < len(data) {
			total += int(data[i+1])
		}
	}
	if total == 0 {
		return 0
	}
	return (total-1)%lastWord + 1
}

func allZero(data []byte) bool {
	return !slices.ContainsFunc(data, func(b byte) bool { return b != 0 })
}

// mixedData has data of every kind of sum: random, nearly all 0, nearly all
// 255, and two kinds whose sum is 65535.
func mixedData(source *rand.Rand, size int) []byte {
	data := make([]byte, size)
	switch source.Intn(5) {
	case 0:
		source.Read(data)
	case 1:
		for range 2 {
			data[source.Intn(size)] = byte(source.Intn(256))
		}
	case 2:
		copy(data, bytes.Repeat([]byte{255}, size))
		data[source.Intn(size)] = byte(source.Intn(256))
	case 3:
		copy(data, bytes.Repeat([]byte{255}, size))
	case 4:
		source.Read(data)
		completeSum(data, 0)
	}
	return data
}

// completeSum writes into data at an even offset the word that makes its sum
// 65535.
func completeSum(data []byte, at int) {
	data[at], data[at+1] = 0, 0
	copy(data[at:], impl.Put16(impl.Checksum(data)))
}

func wordAt(data []byte, word int) int {
	return int(data[2*word])<<8 | int(data[2*word+1])
}

func withWord(data []byte, word int, n int) []byte {
	changed := bytes.Clone(data)
	changed[2*word], changed[2*word+1] = byte(n>>8), byte(n)
	return changed
}

// P3: SumSwap of the previous checksum is the checksum of the bytes with one
// word exchanged, if they are not all 0 before and after.
func TestSumSwapIsChecksumAfterwards(t *testing.T) {
	source := rand.New(rand.NewSource(2))
	for _, size := range []int{2, 4, 6, 20, 40, 1500, impl.MaxData - 2, impl.MaxData} {
		for range 200 {
			data := mixedData(source, size)
			word := source.Intn(size / 2)
			for _, n := range append(edgeWords(), source.Intn(65536)) {
				changed := withWord(data, word, n)
				if allZero(data) || allZero(changed) {
					continue
				}
				got := impl.SumSwap(impl.Checksum(data), wordAt(data, word), n)
				if want := impl.Checksum(changed); got != want {
					t.Fatalf("%d bytes, word %d from %d to %d: %d, not %d", size, word, wordAt(data, word), n, got, want)
				}
			}
		}
	}
}

// P3: every single word to every edge word and back, in data that is otherwise 0.
func TestSumSwapOfEveryWord(t *testing.T) {
	for was := 1; was <= lastWord; was++ {
		check := impl.Checksum(impl.Put16(was))
		for _, is := range edgeWords()[1:] {
			changed := impl.Checksum(impl.Put16(is))
			if got := impl.SumSwap(check, was, is); got != changed {
				t.Fatalf("from %d to %d: %d, not %d", was, is, got, changed)
			}
			if got := impl.SumSwap(changed, is, was); got != check {
				t.Fatalf("from %d to %d: %d, not %d", is, was, got, check)
			}
		}
	}
}

// P3: exchanging words in another order has the same result.
func TestSumSwapsInAnyOrder(t *testing.T) {
	source := rand.New(rand.NewSource(3))
	for count := range 41 {
		for range 30 {
			check, was, is := sampleSwaps(source, count)
			want := impl.SumSwaps(check, was, is)
			for range 10 {
				source.Shuffle(count, func(i, j int) {
					was[i], was[j] = was[j], was[i]
					is[i], is[j] = is[j], is[i]
				})
				if got := impl.SumSwaps(check, was, is); got != want {
					t.Fatalf("SumSwaps(%d, %v, %v): %d, not %d", check, was, is, got, want)
				}
			}
		}
	}
}

func sampleSwaps(source *rand.Rand, count int) (int, []int, []int) {
	word := func() int {
		if source.Intn(2) == 0 {
			return source.Intn(65536)
		}
		list := edgeWords()
		return list[source.Intn(len(list))]
	}
	was, is := make([]int, count), make([]int, count)
	for i := range count {
		was[i], is[i] = word(), word()
	}
	return word(), was, is
}

// P3: several words exchanged in data, one after the other in any order and
// all at once, give the checksum of the changed data.
func TestSumSwapsIsChecksumAfterwards(t *testing.T) {
	source := rand.New(rand.NewSource(4))
	for range 500 {
		size := 82 + 2*source.Intn(600)
		before := mixedData(source, size)
		before[size-1] = 1
		after := before
		check := impl.Checksum(before)
		var was, is []int
		for _, word := range source.Perm(size/2 - 1)[:source.Intn(41)] {
			n := source.Intn(65536)
			was, is = append(was, wordAt(before, word)), append(is, n)
			after = withWord(after, word, n)
			check = impl.SumSwap(check, was[len(was)-1], n)
		}
		want := impl.Checksum(after)
		if got := impl.SumSwaps(impl.Checksum(before), was, is); got != want || check != want {
			t.Fatalf("%v to %v: %d, step by step %d, not %d", was, is, got, check, want)
		}
	}
}

// P3: a change of one byte in data with a correct sum is detected.
func TestOneChangedByteIsDetected(t *testing.T) {
	source := rand.New(rand.NewSource(5))
	for _, size := range []int{2, 3, 4, 5, 20, 41} {
		for range 10 {
			data := mixedData(source, size)
			completeSum(data, 2*source.Intn(size/2))
			if !impl.SumRight(data) {
				t.Fatal(data)
			}
			detectEveryChange(t, data)
		}
	}
	for _, size := range []int{impl.MaxData - 1, impl.MaxData} {
		data := mixedData(source, size)
		completeSum(data, 0)
		for at := range data {
			data[at] ^= byte(1 + source.Intn(255))
			if impl.SumRight(data) {
				t.Fatalf("%d bytes, change at %d", size, at)
			}
			completeSum(data, 0)
		}
	}
}

func detectEveryChange(t *testing.T, data []byte) {
	for at := range data {
		for change := 1; change < 256; change++ {
			changed := bytes.Clone(data)
			changed[at] ^= byte(change)
			if impl.SumRight(changed) {
				t.Fatalf("%v became %v", data, changed)
			}
		}
	}
}

func TestSumAdd(t *testing.T) {
	for _, c := range []struct{ a, b, want int }{
		{0, 0, 0}, {0, 1, 1}, {1, 2, 3}, {258, 772, 1030},
		{0, 65535, 65535}, {65535, 0, 65535}, {1, 65534, 65535}, {32767, 32768, 65535},
		{1, 65535, 1}, {65535, 1, 1}, {2, 65534, 1}, {32768, 32768, 1},
		{65534, 65535, 65534}, {65534, 65534, 65533}, {65535, 65535, 65535},
	} {
		if got := impl.SumAdd(c.a, c.b); got != c.want {
			t.Errorf("SumAdd(%d, %d): %d", c.a, c.b, got)
		}
	}
	for _, a := range edgeWords() {
		for b := range 65536 {
			want := a + b
			if want > lastWord {
				want -= lastWord
			}
			if got := impl.SumAdd(a, b); got != want {
				t.Fatalf("SumAdd(%d, %d): %d, not %d", a, b, got, want)
			}
			if got := impl.SumAdd(b, a); got != want {
				t.Fatalf("SumAdd(%d, %d): %d, not %d", b, a, got, want)
			}
		}
	}
}

func TestSumAddRejects(t *testing.T) {
	for _, bad := range noWords() {
		for _, word := range append(edgeWords(), noWords()...) {
			if got := impl.SumAdd(bad, word); got != -1 {
				t.Errorf("SumAdd(%d, %d): %d", bad, word, got)
			}
			if got := impl.SumAdd(word, bad); got != -1 {
				t.Errorf("SumAdd(%d, %d): %d", word, bad, got)
			}
		}
	}
}

// sumCase has for its data what OnesSum, Checksum and SumRight return.
type sumCase struct {
	data  []byte
	sum   int
	check int
	right bool
}

func sumCases() []sumCase {
	return []sumCase{
		{nil, 0, 65535, false},
		{[]byte{}, 0, 65535, false},
		{[]byte{0}, 0, 65535, false},
		{[]byte{0, 0}, 0, 65535, false},
		{[]byte{0, 0, 0}, 0, 65535, false},
		{[]byte{1}, 256, 65279, false},
		{[]byte{255}, 65280, 255, false},
		{[]byte{0, 1}, 1, 65534, false},
		{[]byte{1, 2, 3, 4}, 1030, 64505, false},
		{[]byte{1, 2, 3}, 1026, 64509, false},
		{[]byte{1, 2, 3, 0}, 1026, 64509, false},
		{[]byte{255, 254}, 65534, 1, false},
		{[]byte{255, 255}, 65535, 0, true},
		{[]byte{255, 255, 0}, 65535, 0, true},
		{[]byte{0, 0, 255, 255}, 65535, 0, true},
		{[]byte{255, 255, 255, 255}, 65535, 0, true},
		{[]byte{255, 255, 0, 1}, 1, 65534, false},
		{[]byte{255, 255, 0, 0, 0, 1}, 1, 65534, false},
		{[]byte{255, 254, 0, 1}, 65535, 0, true},
		{[]byte{255, 254, 0, 2}, 1, 65534, false},
		{[]byte{0, 255, 255}, 65535, 0, true},
		{[]byte{1, 0, 255}, 1, 65534, false},
		{[]byte{1, 2, 254, 253}, 65535, 0, true},
		{[]byte{1, 2, 254, 252}, 65534, 1, false},
		{[]byte{1, 2, 254, 254}, 1, 65534, false},
		{[]byte{254, 253, 1, 2}, 65535, 0, true},
	}
}

func TestSumsOfBytes(t *testing.T) {
	for _, c := range sumCases() {
		if got := impl.OnesSum(c.data); got != c.sum {
			t.Errorf("OnesSum(%v): %d", c.data, got)
		}
		if got := impl.Checksum(c.data); got != c.check {
			t.Errorf("Checksum(%v): %d", c.data, got)
		}
		if got := impl.SumRight(c.data); got != c.right {
			t.Errorf("SumRight(%v): %v", c.data, got)
		}
	}
}

func TestSumsOfManyBytes(t *testing.T) {
	source := rand.New(rand.NewSource(6))
	for size := 2; size <= impl.MaxData; size++ {
		data := mixedData(source, size)
		want := expectedSum(data)
		if got := impl.OnesSum(data); got != want {
			t.Fatalf("OnesSum of %d bytes: %d, not %d", size, got, want)
		}
		if got := impl.Checksum(data); got != lastWord-want {
			t.Fatalf("Checksum of %d bytes: %d, not %d", size, got, lastWord-want)
		}
		if got := impl.SumRight(data); got != (want == lastWord) {
			t.Fatalf("SumRight of %d bytes: %v, sum %d", size, got, want)
		}
	}
}

func TestSumsLimit(t *testing.T) {
	for _, b := range []byte{0, 255} {
		for _, size := range []int{impl.MaxData - 1, impl.MaxData} {
			data := bytes.Repeat([]byte{b}, size)
			want := expectedSum(data)
			if impl.OnesSum(data) != want || impl.Checksum(data) != lastWord-want || impl.SumRight(data) != (want == lastWord) {
				t.Errorf("%d bytes %d: %d %d %v", size, b, impl.OnesSum(data), impl.Checksum(data), impl.SumRight(data))
			}
		}
		for _, size := range []int{impl.MaxData + 1, impl.MaxData + 2, 3 * impl.MaxData} {
			data := bytes.Repeat([]byte{b}, size)
			if impl.OnesSum(data) != -1 || impl.Checksum(data) != -1 || impl.SumRight(data) {
				t.Errorf("%d bytes %d: %d %d %v", size, b, impl.OnesSum(data), impl.Checksum(data), impl.SumRight(data))
			}
		}
	}
	if impl.MaxData != 2000 {
		t.Error(impl.MaxData)
	}
}

func TestSumsIgnoreSpareCapacity(t *testing.T) {
	data := []byte{1, 2, 254, 253}[:3]
	if impl.OnesSum(data) != 65282 || impl.Checksum(data) != 253 || impl.SumRight(data) {
		t.Error(impl.OnesSum(data), impl.Checksum(data), impl.SumRight(data))
	}
	long := make([]byte, impl.MaxData+1)[:impl.MaxData]
	if impl.OnesSum(long) != 0 || impl.Checksum(long) != 65535 {
		t.Error(impl.OnesSum(long), impl.Checksum(long))
	}
	was, is := make([]int, 41)[:40], make([]int, 50)[:40]
	if got := impl.SumSwaps(7, was, is); got != 7 {
		t.Error(got)
	}
	if got := impl.SumSwaps(7, was[:1], is[:2]); got != -1 {
		t.Error(got)
	}
}

func TestSumSwap(t *testing.T) {
	for _, c := range []struct{ check, was, is, want int }{
		{64505, 258, 0, 64763}, {64505, 258, 258, 64505}, {64505, 772, 65535, 65277},
		{7, 1, 1, 7}, {7, 1, 2, 6}, {7, 2, 1, 8},
		{0, 0, 0, 0}, {0, 0, 1, 65534}, {0, 1, 0, 1}, {0, 65535, 0, 0}, {0, 0, 65535, 0}, {0, 65535, 65535, 0}, {0, 1, 1, 0},
		// 0 and 65535 stand for the same sum; 65535 comes out only where
		// every word that is added is 0
		{65535, 0, 0, 0}, {65535, 0, 5, 65530}, {65535, 0, 65535, 0}, {65535, 65535, 0, 65535}, {65535, 65535, 65535, 0}, {65535, 65535, 1, 65534}, {65535, 1, 0, 1}, {65535, 5, 5, 0},
		{65530, 5, 0, 0}, {65530, 5, 65535, 0}, {65534, 1, 65535, 0}, {1, 65534, 0, 0},
	} {
		if got := impl.SumSwap(c.check, c.was, c.is); got != c.want {
			t.Errorf("SumSwap(%d, %d, %d): %d, not %d", c.check, c.was, c.is, got, c.want)
		}
	}
}

// The formula of the chapter, in its own order.
func TestSumSwapFormula(t *testing.T) {
	for _, check := range edgeWords() {
		for _, was := range edgeWords() {
			for _, is := range edgeWords() {
				want := lastWord - impl.SumAdd(impl.SumAdd(lastWord-check, lastWord-was), is)
				if got := impl.SumSwap(check, was, is); got != want {
					t.Errorf("SumSwap(%d, %d, %d): %d, not %d", check, was, is, got, want)
				}
			}
		}
	}
}

func TestSumSwapRejects(t *testing.T) {
	for _, bad := range noWords() {
		for _, word := range append(edgeWords(), noWords()...) {
			for _, args := range [][3]int{{bad, word, 5}, {word, bad, 5}, {word, 5, bad}, {bad, 5, word}, {5, bad, word}, {5, word, bad}, {bad, word, bad}} {
				if got := impl.SumSwap(args[0], args[1], args[2]); got != -1 {
					t.Errorf("SumSwap%v: %d", args, got)
				}
			}
		}
	}
}

func TestSumSwaps(t *testing.T) {
	for _, c := range []struct {
		check int
		was   []int
		is    []int
		want  int
	}{
		{64505, []int{258, 772}, []int{1, 2}, 65532},
		{64505, []int{258}, []int{0}, 64763},
		{0, nil, nil, 0}, {7, nil, nil, 7}, {7, []int{}, nil, 7}, {65535, nil, []int{}, 65535},
		{65535, []int{0}, []int{0}, 0}, {65535, []int{0, 0}, []int{0, 0}, 0},
		{65535, []int{65535}, []int{0}, 65535}, {65535, []int{65535, 65535}, []int{0, 0}, 65535},
		{65535, []int{65535, 0}, []int{0, 0}, 0},
	} {
		if got := impl.SumSwaps(c.check, c.was, c.is); got != c.want {
			t.Errorf("SumSwaps(%d, %v, %v): %d, not %d", c.check, c.was, c.is, got, c.want)
		}
	}
	for _, word := range edgeWords() {
		if got := impl.SumSwaps(word, nil, nil); got != word {
			t.Errorf("SumSwaps(%d) of no elements: %d", word, got)
		}
	}
}

func TestSumSwapsStepByStep(t *testing.T) {
	source := rand.New(rand.NewSource(7))
	for count := range 41 {
		for range 50 {
			check, was, is := sampleSwaps(source, count)
			want := check
			for i := range was {
				want = impl.SumSwap(want, was[i], is[i])
			}
			if got := impl.SumSwaps(check, was, is); got != want {
				t.Fatalf("SumSwaps(%d, %v, %v): %d, not %d", check, was, is, got, want)
			}
		}
	}
}

func TestSumSwapsLengths(t *testing.T) {
	for _, long := range []int{0, 1, 2, 39, 40, 41, 42, 100} {
		for _, other := range []int{0, 1, 2, 39, 40, 41, 42, 100} {
			want := -1
			if long == other && long <= 40 {
				want = 7
			}
			if got := impl.SumSwaps(7, make([]int, long), make([]int, other)); got != want {
				t.Errorf("%d and %d elements: %d", long, other, got)
			}
		}
	}
}

func TestSumSwapsRejects(t *testing.T) {
	for _, bad := range noWords() {
		for _, count := range []int{0, 1, 2, 3, 40} {
			if got := impl.SumSwaps(bad, make([]int, count), make([]int, count)); got != -1 {
				t.Errorf("check %d, %d elements: %d", bad, count, got)
			}
			for at := range count {
				list := make([]int, count)
				list[at] = bad
				if got := impl.SumSwaps(7, list, make([]int, count)); got != -1 {
					t.Errorf("was %d at %d of %d: %d", bad, at, count, got)
				}
				if got := impl.SumSwaps(7, make([]int, count), list); got != -1 {
					t.Errorf("is %d at %d of %d: %d", bad, at, count, got)
				}
				if got := impl.SumSwaps(bad, list, list); got != -1 {
					t.Errorf("%d everywhere at %d of %d: %d", bad, at, count, got)
				}
			}
		}
	}
}

func TestSumsLeaveArgumentsAlone(t *testing.T) {
	whole := []byte{1, 2, 3, 4, 5, 6, 7, 8}
	impl.OnesSum(whole[:5])
	impl.Checksum(whole[:5])
	impl.SumRight(whole[:5])
	if !bytes.Equal(whole, []byte{1, 2, 3, 4, 5, 6, 7, 8}) {
		t.Error(whole)
	}
	was, is := []int{258, 772, 9, 9, 9, 9, 9, 9}, []int{1, 2, 8, 8, 8, 8, 8, 8}
	impl.SumSwaps(64505, was[:2], is[:2])
	if !slices.Equal(was, []int{258, 772, 9, 9, 9, 9, 9, 9}) || !slices.Equal(is, []int{1, 2, 8, 8, 8, 8, 8, 8}) {
		t.Error(was, is)
	}
}
