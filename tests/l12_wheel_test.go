package tests

import (
	"math"
	"math/rand"
	"slices"
	"testing"

	"loop.example/g00655/impl"
)

const maxNow = 1000000000000
const maxAhead = 1000
const maxTimers = 64
const maxTimerId = 9999

// edgeNows begins in every spoke, at both ends.
func edgeNows() []int {
	list := []int{100, 1000, maxNow / 2}
	for i := range 9 {
		list = append(list, i, maxNow-i, maxNow-maxAhead+4-i)
	}
	return list
}

func noNows() []int { return []int{-1, -8, maxNow + 1, maxNow + 8, math.MinInt, math.MaxInt} }

func edgeIds() []int { return []int{0, 1, 4321, maxTimerId - 1, maxTimerId} }

func noIds() []int { return []int{-1, maxTimerId + 1, -maxTimerId, math.MinInt, math.MaxInt} }

func edgeAts(now int) []int {
	return []int{now + 1, now + 2, now + 7, now + 8, now + 9, now + maxAhead - 1, now + maxAhead}
}

func noAts(now int) []int {
	return []int{now, now - 1, now - 7, now - 8, -1, now + maxAhead + 1, now + maxAhead + 8, math.MinInt, math.MaxInt}
}

func edgeTicks() []int { return []int{0, 1, 2, 7, 8, 9, maxAhead - 1, maxAhead} }

func noTicks() []int { return []int{-1, maxAhead + 1, -maxAhead, math.MinInt, math.MaxInt} }

// wheelAt appends each timer to its spoke, whether it may be there or not.
func wheelAt(now int, timers ...impl.Timer) impl.Wheel {
	w := impl.Wheel{Now: now, Spokes: make([]impl.Spoke, 8)}
	for _, timer := range timers {
		at := (timer.At%8 + 8) % 8
		w.Spokes[at].Timers = append(w.Spokes[at].Timers, timer)
	}
	return w
}

// timersFrom gives one timer the Id first, the next one first + 1, and so on.
func timersFrom(first int, ats ...int) []impl.Timer {
	var list []impl.Timer
	for i, at := range ats {
		list = append(list, impl.Timer{Id: first + i, At: at})
	}
	return list
}

func ownWheel(w impl.Wheel) impl.Wheel {
	own := impl.Wheel{Now: w.Now, Spokes: slices.Clone(w.Spokes)}
	for i, s := range own.Spokes {
		own.Spokes[i].Timers = slices.Clone(s.Timers)
	}
	return own
}

func sameSpoke(s impl.Spoke, r impl.Spoke) bool { return slices.Equal(s.Timers, r.Timers) }

func sameWheel(w impl.Wheel, v impl.Wheel) bool {
	return w.Now == v.Now && slices.EqualFunc(w.Spokes, v.Spokes, sameSpoke)
}

func isNoWheel(w impl.Wheel) bool { return w.Now == 0 && len(w.Spokes) == 0 }

func timersIn(w impl.Wheel) []impl.Timer {
	var list []impl.Timer
	for _, s := range w.Spokes {
		list = append(list, s.Timers...)
	}
	return list
}

func idsOf(list []impl.Timer) []int {
	var ids []int
	for _, timer := range list {
		ids = append(ids, timer.Id)
	}
	return ids
}

// withoutId keeps the order of the others, and with it the order in each spoke.
func withoutId(list []impl.Timer, id int) []impl.Timer {
	return slices.DeleteFunc(slices.Clone(list), func(timer impl.Timer) bool { return timer.Id == id })
}

func expectedSet(w impl.Wheel, id int, at int) impl.Wheel {
	return wheelAt(w.Now, append(withoutId(timersIn(w), id), impl.Timer{Id: id, At: at})...)
}

func expectedUnset(w impl.Wheel, id int) impl.Wheel {
	return wheelAt(w.Now, withoutId(timersIn(w), id)...)
}

// expectedRun needs no ticks: what expires is sorted by At, and timers with the
// same At stay in the order of their spoke.
func expectedRun(w impl.Wheel, n int) (impl.Wheel, []impl.Timer) {
	var gone, left []impl.Timer
	for _, timer := range timersIn(w) {
		if timer.At <= w.Now+n {
			gone = append(gone, timer)
		} else {
			left = append(left, timer)
		}
	}
	slices.SortStableFunc(gone, func(a impl.Timer, b impl.Timer) int { return a.At - b.At })
	return wheelAt(w.Now+n, left...), gone
}

func expectedNext(w impl.Wheel) int {
	list := timersIn(w)
	if len(list) == 0 {
		return -1
	}
	return slices.MinFunc(list, func(a impl.Timer, b impl.Timer) int { return a.At - b.At }).At
}

// expectedWheelOk follows the chapter's words one by one.
func expectedWheelOk(w impl.Wheel) bool {
	list := timersIn(w)
	if w.Now < 0 || w.Now > maxNow || len(w.Spokes) != 8 || len(list) > maxTimers {
		return false
	}
	seen := map[int]bool{}
	for _, timer := range list {
		if timer.Id < 0 || timer.Id > maxTimerId || seen[timer.Id] || timer.At <= w.Now || timer.At > w.Now+maxAhead {
			return false
		}
		seen[timer.Id] = true
	}
	return sameWheel(w, wheelAt(w.Now, list...))
}

func checkSet(t *testing.T, w impl.Wheel, id int, at int) impl.Wheel {
	t.Helper()
	before, want := ownWheel(w), expectedSet(w, id, at)
	got, code := impl.WheelSet(w, id, at)
	if code != impl.WheelFine || !sameWheel(got, want) || !sameWheel(w, before) {
		t.Fatalf("%d set to %d in %+v: %+v %d, not %+v", id, at, before, got, code, want)
	}
	return got
}

func checkUnset(t *testing.T, w impl.Wheel, id int) impl.Wheel {
	t.Helper()
	before, want := ownWheel(w), expectedUnset(w, id)
	got, code := impl.WheelDrop(w, id)
	if code != impl.WheelFine || !sameWheel(got, want) || !sameWheel(w, before) {
		t.Fatalf("%d dropped from %+v: %+v %d, not %+v", id, before, got, code, want)
	}
	return got
}

func checkTick(t *testing.T, w impl.Wheel) (impl.Wheel, []int) {
	t.Helper()
	before := ownWheel(w)
	want, gone := expectedRun(w, 1)
	got, ids := impl.WheelTick(w)
	if !sameWheel(got, want) || !slices.Equal(ids, idsOf(gone)) || !sameWheel(w, before) {
		t.Fatalf("a tick of %+v: %+v %v, not %+v %v", before, got, ids, want, gone)
	}
	return got, ids
}

func checkRun(t *testing.T, w impl.Wheel, n int) (impl.Wheel, []impl.Timer) {
	t.Helper()
	before := ownWheel(w)
	want, expired := expectedRun(w, n)
	got, gone := impl.WheelRun(w, n)
	if !sameWheel(got, want) || !slices.Equal(gone, expired) || !sameWheel(w, before) {
		t.Fatalf("%d ticks of %+v: %+v %v, not %+v %v", n, before, got, gone, want, expired)
	}
	return got, gone
}

// checkRunIsTicks compares a run with its single ticks.
func checkRunIsTicks(t *testing.T, w impl.Wheel, n int) {
	t.Helper()
	got, gone := checkRun(t, w, n)
	var ids []int
	for range n {
		more := []int(nil)
		w, more = impl.WheelTick(w)
		for i, id := range more {
			if at := len(ids) + i; at >= len(gone) || gone[at] != (impl.Timer{Id: id, At: w.Now}) {
				t.Fatalf("the tick to %d removes %v; the run: %v", w.Now, more, gone)
			}
		}
		ids = append(ids, more...)
	}
	if !sameWheel(w, got) || len(ids) != len(gone) {
		t.Fatalf("%d ticks: %+v %v; the run: %+v %v", n, w, ids, got, gone)
	}
}

func checkSetFails(t *testing.T, w impl.Wheel, id int, at int, want int) {
	t.Helper()
	if got, code := impl.WheelSet(w, id, at); code != want || !isNoWheel(got) {
		t.Fatalf("%d set to %d in %+v: %+v %d, not %d", id, at, w, got, code, want)
	}
}

func checkUnsetFails(t *testing.T, w impl.Wheel, id int, want int) {
	t.Helper()
	if got, code := impl.WheelDrop(w, id); code != want || !isNoWheel(got) {
		t.Fatalf("%d dropped from %+v: %+v %d, not %d", id, w, got, code, want)
	}
}

func checkTickFails(t *testing.T, w impl.Wheel) {
	t.Helper()
	if got, ids := impl.WheelTick(w); !isNoWheel(got) || len(ids) != 0 {
		t.Fatalf("a tick of %+v: %+v %v", w, got, ids)
	}
}

func checkRunFails(t *testing.T, w impl.Wheel, n int) {
	t.Helper()
	if got, gone := impl.WheelRun(w, n); !isNoWheel(got) || len(gone) != 0 {
		t.Fatalf("%d ticks of %+v: %+v %v", n, w, got, gone)
	}
}

// checkWheelIs asks a wheel that is not valid for Ids in it as well as for
// others, with and without other faults.
func checkWheelIs(t *testing.T, w impl.Wheel, valid bool) {
	t.Helper()
	if expectedWheelOk(w) != valid {
		t.Fatalf("the test is wrong about %+v", w)
	}
	if impl.WheelOk(w) != valid {
		t.Fatalf("%+v: valid %v", w, impl.WheelOk(w))
	}
	if valid {
		if got := impl.WheelNext(w); got != expectedNext(w) {
			t.Fatalf("%+v: the next %d", w, got)
		}
		return
	}
	if got := impl.WheelNext(w); got != -1 {
		t.Fatalf("%+v: the next %d", w, got)
	}
	checkTickFails(t, w)
	for _, n := range []int{0, 1, 8, maxAhead, -1, maxAhead + 1} {
		checkRunFails(t, w, n)
	}
	for _, id := range append(idsOf(timersIn(w)), 0, 5000, maxTimerId, -1, maxTimerId+1) {
		checkUnsetFails(t, w, id, impl.WheelForm)
		for _, at := range []int{w.Now + 1, w.Now + 8, w.Now, w.Now + maxAhead + 1, 0} {
			checkSetFails(t, w, id, at, impl.WheelForm)
		}
	}
}

// randomWheel has that many timers, none of them further ahead than far.
func randomWheel(source *rand.Rand, now int, count int, far int) impl.Wheel {
	var list []impl.Timer
	for _, id := range source.Perm(maxTimerId + 1)[:count] {
		list = append(list, impl.Timer{Id: id, At: now + 1 + source.Intn(far)})
	}
	return wheelAt(now, list...)
}

func TestWheelNew(t *testing.T) {
	for _, now := range edgeNows() {
		w := impl.WheelNew(now)
		if !sameWheel(w, wheelAt(now)) {
			t.Fatalf("%d: %+v", now, w)
		}
		checkWheelIs(t, w, true)
		for _, id := range append(edgeIds(), noIds()...) {
			checkUnsetFails(t, w, id, impl.WheelNone)
		}
	}
	for _, now := range noNows() {
		if w := impl.WheelNew(now); !isNoWheel(w) {
			t.Errorf("%d: %+v", now, w)
		}
	}
}

func TestWheelExamples(t *testing.T) {
	w := impl.WheelNew(5)
	checkSetFails(t, w, 1, 1006, impl.WheelTime)
	w = checkSet(t, checkSet(t, w, 1, 15), 2, 15)
	checkRunIsTicks(t, w, 10)
	if v, gone := checkRun(t, w, 10); !sameWheel(v, wheelAt(15)) || !slices.Equal(gone, timersFrom(1, 15, 15)) {
		t.Fatalf("%+v %v", v, gone)
	}
	if v, gone := checkRun(t, w, 9); !sameWheel(v, wheelAt(14, timersFrom(1, 15, 15)...)) || len(gone) != 0 {
		t.Fatalf("%+v %v", v, gone)
	}
}

func TestTimesAndIdsAtTheirEdges(t *testing.T) {
	for _, now := range edgeNows() {
		w := impl.WheelNew(now)
		for _, at := range edgeAts(now) {
			for _, id := range edgeIds() {
				v := checkSet(t, w, id, at)
				checkWheelIs(t, v, true)
				checkSet(t, v, (id+1)%10000, at)
				if !sameWheel(checkUnset(t, v, id), w) {
					t.Fatalf("%d %d %d", now, id, at)
				}
			}
			for _, id := range noIds() {
				checkSetFails(t, w, id, at, impl.WheelForm)
			}
		}
		for _, at := range noAts(now) {
			for _, id := range edgeIds() {
				checkSetFails(t, w, id, at, impl.WheelTime)
			}
			for _, id := range noIds() {
				checkSetFails(t, w, id, at, impl.WheelForm)
			}
		}
	}
}

// Each At ahead of a Now has its own spoke.
func TestEveryTimeAhead(t *testing.T) {
	for _, now := range []int{0, 5, maxNow - maxAhead, maxNow} {
		for at := now - 20; at <= now+maxAhead+20; at++ {
			if at <= now || at > now+maxAhead {
				checkSetFails(t, impl.WheelNew(now), 1, at, impl.WheelTime)
				continue
			}
			w := checkSet(t, impl.WheelNew(now), 1, at)
			if list := w.Spokes[at%8].Timers; !slices.Equal(list, timersFrom(1, at)) || impl.WheelNext(w) != at {
				t.Fatalf("%d: %+v", at, w)
			}
		}
	}
}

// spokesAre compares the Ids in the spokes of a wheel with those in a list; the
// spokes behind its end are empty.
func spokesAre(w impl.Wheel, ids ...[]int) bool {
	for i, s := range w.Spokes {
		var want []int
		if i < len(ids) {
			want = ids[i]
		}
		if !slices.Equal(idsOf(s.Timers), want) {
			return false
		}
	}
	return len(w.Spokes) == 8
}

func TestATimerSetTwice(t *testing.T) {
	w := impl.WheelNew(0)
	for _, timer := range timersFrom(1, 17, 17, 9, 18, 2) {
		w = checkSet(t, w, timer.Id, timer.At)
	}
	for _, c := range []struct {
		id, at int
		ids    [][]int
	}{
		{1, 17, [][]int{{}, {2, 3, 1}, {4, 5}}},
		{1, 25, [][]int{{}, {2, 3, 1}, {4, 5}}},
		{1, 1, [][]int{{}, {2, 3, 1}, {4, 5}}},
		{2, 9, [][]int{{}, {1, 3, 2}, {4, 5}}},
		{3, 9, [][]int{{}, {1, 2, 3}, {4, 5}}},
		{3, 1000, [][]int{{3}, {1, 2}, {4, 5}}},
		{1, 18, [][]int{{}, {2, 3}, {4, 5, 1}}},
		{2, 10, [][]int{{}, {1, 3}, {4, 5, 2}}},
		{4, 1, [][]int{{}, {1, 2, 3, 4}, {5}}},
		{5, 997, [][]int{{}, {1, 2, 3}, {4}, {}, {}, {5}}},
		{6, 17, [][]int{{}, {1, 2, 3, 6}, {4, 5}}},
	} {
		v := checkSet(t, w, c.id, c.at)
		if !spokesAre(v, c.ids...) {
			t.Errorf("%d set to %d: %+v", c.id, c.at, v)
		}
		if again := checkSet(t, v, c.id, c.at); !sameWheel(again, v) {
			t.Errorf("%d set to %d twice: %+v", c.id, c.at, again)
		}
		checkRunIsTicks(t, v, maxAhead)
	}
}

// The last At counts, whichever others were set before.
func TestTheLastTimeCounts(t *testing.T) {
	for _, now := range []int{0, 6, maxNow - maxAhead} {
		for _, ats := range [][]int{{3, 11}, {11, 3}, {3, 3}, {3, 4}, {4, 3}, {1, 1000}, {1000, 1}, {8, 16, 8}, {5, 13, 21, 6}, {999, 7, 1000, 15, 7}} {
			w := impl.WheelNew(now)
			for _, at := range ats {
				w = checkSet(t, w, 9, now+at)
			}
			last := ats[len(ats)-1]
			early, gone := checkRun(t, w, last-1)
			if len(gone) != 0 || len(timersIn(early)) != 1 || impl.WheelNext(early) != now+last {
				t.Fatalf("%v: %+v %v", ats, early, gone)
			}
			late, ids := checkTick(t, early)
			if !slices.Equal(ids, []int{9}) || !sameWheel(late, wheelAt(now+last)) {
				t.Fatalf("%v: %+v %v", ats, late, ids)
			}
			checkRunIsTicks(t, w, maxAhead)
		}
	}
}

func TestATimerSetDroppedAndSetAgain(t *testing.T) {
	w := wheelAt(10, timersFrom(1, 12, 12, 20, 13)...)
	for id := 1; id <= 4; id++ {
		v := checkUnset(t, w, id)
		checkUnsetFails(t, v, id, impl.WheelNone)
		if _, gone := checkRun(t, v, maxAhead); slices.Contains(idsOf(gone), id) || len(gone) != 3 {
			t.Fatalf("without the timer %d: %v", id, gone)
		}
		checkRunIsTicks(t, v, maxAhead)
		for _, at := range []int{11, 12, 20, 28, 1010} {
			again := checkSet(t, v, id, at)
			if !sameWheel(again, checkSet(t, w, id, at)) {
				t.Fatalf("%d set to %d again: %+v", id, at, again)
			}
			if _, gone := checkRun(t, again, at-10); gone[len(gone)-1] != (impl.Timer{Id: id, At: at}) {
				t.Fatalf("%d set to %d again: %v", id, at, gone)
			}
			checkUnset(t, again, id)
		}
	}
}

func TestTheOrderAfterDrops(t *testing.T) {
	w := wheelAt(7, timersFrom(0, 8, 16, 8, 9, 24, 8, 17)...)
	for id, ids := range [][][]int{
		{{1, 2, 4, 5}, {3, 6}}, {{0, 2, 4, 5}, {3, 6}}, {{0, 1, 4, 5}, {3, 6}}, {{0, 1, 2, 4, 5}, {6}},
		{{0, 1, 2, 5}, {3, 6}}, {{0, 1, 2, 4}, {3, 6}}, {{0, 1, 2, 4, 5}, {3}},
	} {
		if v := checkUnset(t, w, id); !spokesAre(v, ids...) {
			t.Errorf("without the timer %d: %+v", id, v)
		}
	}
	for _, id := range append(noIds(), 7, 8, maxTimerId) {
		checkUnsetFails(t, w, id, impl.WheelNone)
	}
}

// Timers of one spoke that are 8 apart, and several of each time.
func TestOneSpoke(t *testing.T) {
	w := wheelAt(0, timersFrom(10, 24, 8, 16, 8, 1000, 24, 8, 16)...)
	for _, c := range []struct {
		ticks int
		gone  []int
		left  []int
	}{
		{7, nil, []int{10, 11, 12, 13, 14, 15, 16, 17}},
		{8, []int{11, 13, 16}, []int{10, 12, 14, 15, 17}},
		{15, []int{11, 13, 16}, []int{10, 12, 14, 15, 17}},
		{16, []int{11, 13, 16, 12, 17}, []int{10, 14, 15}},
		{24, []int{11, 13, 16, 12, 17, 10, 15}, []int{14}},
		{999, []int{11, 13, 16, 12, 17, 10, 15}, []int{14}},
		{1000, []int{11, 13, 16, 12, 17, 10, 15, 14}, nil},
	} {
		v, gone := checkRun(t, w, c.ticks)
		if !slices.Equal(idsOf(gone), c.gone) || !spokesAre(v, c.left) {
			t.Errorf("%d ticks: %+v %v", c.ticks, v, gone)
		}
		checkRunIsTicks(t, w, c.ticks)
	}
}

// Spokes of a run are met in the order of time, not in that of their indices.
func TestARunOverTheLastSpoke(t *testing.T) {
	w := wheelAt(5, timersFrom(1, 8, 9, 6, 7, 8, 14, 13)...)
	v, gone := checkRun(t, w, 9)
	if !slices.Equal(idsOf(gone), []int{3, 4, 1, 5, 2, 7, 6}) || !sameWheel(v, wheelAt(14)) {
		t.Fatalf("%+v %v", v, gone)
	}
	checkRunIsTicks(t, w, 9)
}

func TestATickRemovesInTheOrderOfTheSpoke(t *testing.T) {
	w := wheelAt(15, timersFrom(1, 24, 16, 32, 17, 24, 16)...)
	w = checkSet(t, checkSet(t, w, 9, 16), 2, 16)
	v, ids := checkTick(t, w)
	if !slices.Equal(ids, []int{6, 9, 2}) || !spokesAre(v, []int{1, 3, 5}, []int{4}) {
		t.Fatalf("%+v %v", v, ids)
	}
	v, ids = checkTick(t, v)
	if !slices.Equal(ids, []int{4}) || !spokesAre(v, []int{1, 3, 5}) {
		t.Fatalf("%+v %v", v, ids)
	}
}

func TestWheelNext(t *testing.T) {
	for _, now := range edgeNows() {
		for _, ats := range [][]int{{1}, {1000}, {1000, 999}, {9, 8, 16, 8}, {7, 15, 23}, {23, 15, 7}, {8, 7}, {2, 3, 1000, 5}} {
			var list []impl.Timer
			for i, at := range ats {
				list = append(list, impl.Timer{Id: i, At: now + at})
			}
			if got := impl.WheelNext(wheelAt(now, list...)); got != now+slices.Min(ats) {
				t.Errorf("%d %v: %d", now, ats, got)
			}
		}
		if got := impl.WheelNext(wheelAt(now)); got != -1 {
			t.Errorf("%d: %d", now, got)
		}
	}
}

// fullWheels have MaxTimers timers, from Now + 1 on, with the Ids from 100 on:
// as many in each spoke, all in one, and all but one.
func fullWheels(now int) []impl.Wheel {
	var spread, alone, nearly []int
	for i := range maxTimers {
		spread = append(spread, now+1+i)
		alone = append(alone, now+1+8*(i%3))
		nearly = append(nearly, now+1+8*(i%5))
	}
	nearly[maxTimers-1]++
	return []impl.Wheel{
		wheelAt(now, timersFrom(100, spread...)...),
		wheelAt(now, timersFrom(100, alone...)...),
		wheelAt(now, timersFrom(100, nearly...)...),
	}
}

func TestFullWheel(t *testing.T) {
	for _, now := range []int{0, 3, maxNow - 60, maxNow} {
		for _, w := range fullWheels(now) {
			checkWheelIs(t, w, true)
			for _, at := range edgeAts(now) {
				for _, id := range []int{0, 99, 164, maxTimerId} {
					checkSetFails(t, w, id, at, impl.WheelFull)
				}
				for _, id := range []int{100, 131, 163} {
					v := checkSet(t, w, id, at)
					checkWheelIs(t, v, true)
					checkSetFails(t, v, 99, at, impl.WheelFull)
					v = checkUnset(t, v, id)
					checkSetFails(t, checkSet(t, v, 99, at), id, at, impl.WheelFull)
				}
			}
			if now < maxNow {
				v, ids := checkTick(t, w)
				for i := range ids {
					v = checkSet(t, v, i, now+10)
				}
				checkSetFails(t, v, 99, now+10, impl.WheelFull)
			}
		}
	}
}

// WheelForm counts before WheelTime, and WheelTime before WheelFull.
func TestFirstErrors(t *testing.T) {
	for _, now := range []int{0, 3, maxNow} {
		for _, w := range fullWheels(now) {
			for _, at := range noAts(now) {
				for _, id := range []int{99, 100, 163, maxTimerId} {
					checkSetFails(t, w, id, at, impl.WheelTime)
				}
				for _, id := range noIds() {
					checkSetFails(t, w, id, at, impl.WheelForm)
				}
			}
			for _, id := range noIds() {
				checkSetFails(t, w, id, now+1, impl.WheelForm)
				checkUnsetFails(t, w, id, impl.WheelNone)
			}
		}
	}
}

func TestTicksNearTheLastNow(t *testing.T) {
	w := wheelAt(maxNow-2, timersFrom(1, maxNow-1, maxNow, maxNow+1, maxNow+8, maxNow+998)...)
	w, ids := checkTick(t, w)
	if !slices.Equal(ids, []int{1}) {
		t.Fatal(ids)
	}
	w, ids = checkTick(t, w)
	if !slices.Equal(ids, []int{2}) || w.Now != maxNow || impl.WheelNext(w) != maxNow+1 {
		t.Fatalf("%+v %v", w, ids)
	}
	checkWheelIs(t, w, true)
	checkTickFails(t, w)
	checkTickFails(t, impl.WheelNew(maxNow))
	checkSet(t, checkUnset(t, w, 3), 3, maxNow+maxAhead)
}

func TestRunsUpToTheLastNow(t *testing.T) {
	source := rand.New(rand.NewSource(1201))
	for _, n := range edgeTicks() {
		for _, count := range []int{0, 1, 20, maxTimers} {
			w := randomWheel(source, maxNow-n, count, maxAhead)
			checkRunIsTicks(t, w, n)
			for _, more := range []int{n + 1, n + 8, maxAhead} {
				if more > n {
					checkRunFails(t, w, more)
				}
			}
			if v, _ := checkRun(t, w, n); v.Now != maxNow {
				t.Fatalf("%d: %+v", n, v)
			}
		}
	}
}

func TestRunsOfNoAndOfTooManyTicks(t *testing.T) {
	source := rand.New(rand.NewSource(1202))
	for _, now := range edgeNows() {
		for _, count := range []int{0, 1, maxTimers} {
			w := randomWheel(source, now, count, maxAhead)
			if v, gone := checkRun(t, w, 0); !sameWheel(v, w) || len(gone) != 0 {
				t.Fatalf("%+v: %+v %v", w, v, gone)
			}
			for _, n := range noTicks() {
				checkRunFails(t, w, n)
			}
			if now > maxNow-maxAhead {
				checkRunFails(t, w, maxAhead)
				continue
			}
			v, gone := checkRun(t, w, maxAhead)
			if len(gone) != count || !sameWheel(v, wheelAt(now+maxAhead)) {
				t.Fatalf("%+v: %+v %v", w, v, gone)
			}
		}
	}
}

func TestRunsAreTicks(t *testing.T) {
	source := rand.New(rand.NewSource(1203))
	for range 60 {
		for _, far := range []int{1, 4, 8, 30, 200, maxAhead} {
			w := randomWheel(source, source.Intn(3000), source.Intn(maxTimers+1), far)
			checkRunIsTicks(t, w, source.Intn(far+1))
			checkRunIsTicks(t, w, far)
		}
	}
	for _, n := range edgeTicks() {
		checkRunIsTicks(t, randomWheel(source, 77, maxTimers, maxAhead), n)
	}
}

// A run in two parts is the whole run.
func TestRunsInParts(t *testing.T) {
	source := rand.New(rand.NewSource(1204))
	for range 300 {
		w := randomWheel(source, source.Intn(maxNow-2*maxAhead), source.Intn(maxTimers+1), 1+source.Intn(maxAhead))
		n := source.Intn(maxAhead + 1)
		part := source.Intn(n + 1)
		whole, gone := checkRun(t, w, n)
		first, before := checkRun(t, w, part)
		second, after := checkRun(t, first, n-part)
		if !sameWheel(whole, second) || !slices.Equal(gone, append(before, after...)) {
			t.Fatalf("%d and %d ticks of %+v: %+v, not %+v", part, n-part, w, second, whole)
		}
	}
}

// Timers are set up to three times and some are dropped; then each of the
// others expires once, at the At that was set last.
func TestEveryTimerExpiresOnce(t *testing.T) {
	source := rand.New(rand.NewSource(1205))
	for range 60 {
		now := source.Intn(maxNow - 2*maxAhead)
		w, last := impl.WheelNew(now), map[int]int{}
		for range 3 * maxTimers {
			id, at := source.Intn(maxTimers), now+1+source.Intn(maxAhead)
			if source.Intn(4) > 0 {
				w, last[id] = checkSet(t, w, id, at), at
			} else if last[id] > 0 {
				w = checkUnset(t, w, id)
				delete(last, id)
			}
		}
		for w.Now < now+maxAhead {
			if w.Now+1 < impl.WheelNext(w) && source.Intn(2) == 0 {
				w, _ = checkRun(t, w, impl.WheelNext(w)-w.Now-1)
			}
			after, ids := checkTick(t, w)
			for _, id := range ids {
				if last[id] != after.Now {
					t.Fatalf("the timer %d expires at %d, not %d", id, after.Now, last[id])
				}
				delete(last, id)
			}
			w = after
		}
		if len(last) != 0 || len(timersIn(w)) != 0 {
			t.Fatalf("%+v: not expired: %v", w, last)
		}
	}
}

// A wheelModel is a wheel and a list of its timers in the order in which they
// were set.
type wheelModel struct {
	wheel impl.Wheel
	list  []impl.Timer
}

func (m *wheelModel) has(id int) bool { return slices.Contains(idsOf(m.list), id) }

func (m *wheelModel) set(t *testing.T, id int, at int) {
	t.Helper()
	if !m.has(id) && len(m.list) == maxTimers {
		checkSetFails(t, m.wheel, id, at, impl.WheelFull)
		return
	}
	m.wheel = checkSet(t, m.wheel, id, at)
	m.list = append(withoutId(m.list, id), impl.Timer{Id: id, At: at})
}

func (m *wheelModel) drop(t *testing.T, id int) {
	t.Helper()
	if !m.has(id) {
		checkUnsetFails(t, m.wheel, id, impl.WheelNone)
		return
	}
	m.wheel = checkUnset(t, m.wheel, id)
	m.list = withoutId(m.list, id)
}

func (m *wheelModel) run(t *testing.T, n int) {
	t.Helper()
	var gone []impl.Timer
	m.wheel, gone = checkRun(t, m.wheel, n)
	for _, timer := range gone {
		if !slices.Contains(m.list, timer) || timer.At > m.wheel.Now || timer.At <= m.wheel.Now-n {
			t.Fatalf("%+v expires in the %d ticks to %d", timer, n, m.wheel.Now)
		}
		m.list = withoutId(m.list, timer.Id)
	}
}

func TestWhateverIsSetDroppedAndRun(t *testing.T) {
	source := rand.New(rand.NewSource(1206))
	for _, far := range []int{1, 8, 40, maxAhead} {
		for _, ids := range []int{5, maxTimers, maxTimers + 3, maxTimerId + 1} {
			m := wheelModel{wheel: impl.WheelNew(source.Intn(maxNow / 2))}
			for range 500 {
				id := source.Intn(ids)
				switch source.Intn(8) {
				case 0:
					m.run(t, source.Intn(1+far/4))
				case 1, 2:
					m.drop(t, id)
				default:
					m.set(t, id, m.wheel.Now+1+source.Intn(far))
				}
				if !sameWheel(m.wheel, wheelAt(m.wheel.Now, m.list...)) || !impl.WheelOk(m.wheel) {
					t.Fatalf("%+v, not %+v", m.wheel, m.list)
				}
			}
		}
	}
}

func TestWheelsOfAnyNow(t *testing.T) {
	for _, now := range edgeNows() {
		checkWheelIs(t, wheelAt(now), true)
		checkWheelIs(t, wheelAt(now, impl.Timer{Id: 3, At: now + 5}), true)
	}
	for _, now := range noNows() {
		checkWheelIs(t, wheelAt(now), false)
		if now < math.MaxInt-maxAhead {
			checkWheelIs(t, wheelAt(now, impl.Timer{Id: 3, At: now + 9}), false)
		}
	}
}

// The timers are in spokes that are there, whatever their number.
func TestWheelsOfAnyNumberOfSpokes(t *testing.T) {
	for spokes := range 20 {
		w := impl.Wheel{Now: 16, Spokes: make([]impl.Spoke, spokes)}
		checkWheelIs(t, w, spokes == 8)
		for at := range min(spokes, 8) {
			v := ownWheel(w)
			v.Spokes[at].Timers = timersFrom(1, 24+at)
			checkWheelIs(t, v, spokes == 8)
		}
		if spokes == 9 {
			w.Spokes[8].Timers = timersFrom(1, 24)
			checkWheelIs(t, w, false)
		}
	}
	checkWheelIs(t, impl.Wheel{}, false)
	checkWheelIs(t, impl.Wheel{Spokes: make([]impl.Spoke, 800)}, false)
}

func TestWheelsOfAnyNumberOfTimers(t *testing.T) {
	source := rand.New(rand.NewSource(1207))
	for _, far := range []int{1, 8, maxAhead} {
		for _, count := range []int{0, 1, maxTimers - 1, maxTimers, maxTimers + 1, maxTimers + 2, 8 * maxTimers, maxTimerId + 1} {
			checkWheelIs(t, randomWheel(source, source.Intn(maxNow), count, far), count <= maxTimers)
		}
	}
	for _, w := range fullWheels(4) {
		for at := 5; at < 13; at++ {
			v := ownWheel(w)
			v.Spokes[at%8].Timers = append(v.Spokes[at%8].Timers, impl.Timer{Id: 5, At: at})
			checkWheelIs(t, v, false)
		}
	}
}

// One timer of a wheel gets another Id, in each spoke and at each place in it.
func TestWheelsOfAnyIds(t *testing.T) {
	w := wheelAt(2, timersFrom(20, 3, 4, 5, 6, 7, 8, 9, 10, 11, 12, 13, 14, 15, 16, 17, 18, 3, 4)...)
	for at, s := range w.Spokes {
		for i, timer := range s.Timers {
			for _, id := range append(edgeIds(), 19, 38) {
				v := ownWheel(w)
				v.Spokes[at].Timers[i].Id = id
				checkWheelIs(t, v, true)
			}
			for _, id := range append(noIds(), idsOf(timersIn(w))...) {
				v := ownWheel(w)
				v.Spokes[at].Timers[i].Id = id
				checkWheelIs(t, v, id == timer.Id)
			}
		}
	}
}

func TestAnIdTwice(t *testing.T) {
	for _, ats := range [][]int{{9, 9}, {9, 17}, {17, 9}, {9, 10}, {10, 9}, {16, 9}, {1008, 9}, {9, 10, 9}, {9, 9, 9}} {
		for _, id := range edgeIds() {
			var list []impl.Timer
			for _, at := range ats {
				list = append(list, impl.Timer{Id: id, At: at})
			}
			checkWheelIs(t, wheelAt(8, list...), false)
			checkWheelIs(t, wheelAt(8, append(timersFrom(30, 9, 10), list...)...), false)
			checkWheelIs(t, wheelAt(8, append(list[:1:1], timersFrom(30, 9, 10)...)...), true)
		}
	}
	full := fullWheels(0)[0]
	full.Spokes[7].Timers[0].Id = full.Spokes[0].Timers[0].Id
	checkWheelIs(t, full, false)
}

// The spoke agrees with an At that is out of its range.
func TestWheelsOfAnyTimes(t *testing.T) {
	for _, now := range edgeNows() {
		others := timersFrom(10, now+1, now+8, now+500)
		for _, at := range edgeAts(now) {
			checkWheelIs(t, wheelAt(now, impl.Timer{Id: 5, At: at}), true)
			checkWheelIs(t, wheelAt(now, append(others, impl.Timer{Id: 5, At: at})...), true)
		}
		for _, at := range noAts(now) {
			checkWheelIs(t, wheelAt(now, impl.Timer{Id: 5, At: at}), false)
			checkWheelIs(t, wheelAt(now, append(others, impl.Timer{Id: 5, At: at})...), false)
			checkWheelIs(t, wheelAt(now, append(timersFrom(5, at), others...)...), false)
		}
	}
}

func TestATimerInTheWrongSpoke(t *testing.T) {
	for _, now := range []int{0, 3, maxNow} {
		for at := now + 1; at <= now+17; at++ {
			for spoke := range 8 {
				w := wheelAt(now, impl.Timer{Id: 10, At: now + 1}, impl.Timer{Id: 11, At: now + 8})
				w.Spokes[spoke].Timers = append(w.Spokes[spoke].Timers, impl.Timer{Id: 5, At: at})
				checkWheelIs(t, w, spoke == at%8)
			}
		}
	}
	turned := fullWheels(0)[0]
	turned.Spokes = append(turned.Spokes[1:], turned.Spokes[0])
	checkWheelIs(t, turned, false)
}

// spareWheel has spokes and timers behind the length, which are not to be read
// or changed. All of its timers, and those behind them, are in one list each.
func spareWheel(w impl.Wheel) (impl.Wheel, []impl.Spoke) {
	spare := timersFrom(99, 1, w.Now+1, 0, w.Now+8)
	var spokes []impl.Spoke
	for _, s := range w.Spokes {
		list := slices.Concat(s.Timers, spare)
		spokes = append(spokes, impl.Spoke{Timers: list[:len(s.Timers)]})
	}
	spokes = append(spokes, impl.Spoke{Timers: timersFrom(1, w.Now+1)}, impl.Spoke{}, impl.Spoke{Timers: spare})
	return impl.Wheel{Now: w.Now, Spokes: spokes[:len(w.Spokes)]}, spokes
}

// wholeSpokes copies spokes with what is behind the length of their timers.
func wholeSpokes(spokes []impl.Spoke) [][]impl.Timer {
	var list [][]impl.Timer
	for _, s := range spokes {
		list = append(list, slices.Clone(s.Timers[:cap(s.Timers)]))
	}
	return list
}

func spoilTimers(list []impl.Timer) {
	list = list[:cap(list)]
	for i := range list {
		list[i] = impl.Timer{Id: 8888, At: 7777}
	}
}

func spoilWheel(w impl.Wheel) {
	for _, s := range w.Spokes[:cap(w.Spokes)] {
		spoilTimers(s.Timers)
	}
	for i := range w.Spokes[:cap(w.Spokes)] {
		w.Spokes[:cap(w.Spokes)][i] = impl.Spoke{Timers: timersFrom(1, 1)}
	}
}

// eachWheelCall makes every call that returns a wheel, with what else it returns.
func eachWheelCall() map[string]func(w impl.Wheel) (impl.Wheel, []int, []impl.Timer) {
	calls := map[string]func(w impl.Wheel) (impl.Wheel, []int, []impl.Timer){
		"new": func(w impl.Wheel) (impl.Wheel, []int, []impl.Timer) { return impl.WheelNew(w.Now), nil, nil },
		"tick": func(w impl.Wheel) (impl.Wheel, []int, []impl.Timer) {
			v, ids := impl.WheelTick(w)
			return v, ids, nil
		},
	}
	for name, id := range map[string]int{"drop the first": 100, "drop another": 131, "drop none": 99} {
		calls[name] = func(w impl.Wheel) (impl.Wheel, []int, []impl.Timer) {
			v, _ := impl.WheelDrop(w, id)
			return v, nil, nil
		}
	}
	for name, timer := range map[string]impl.Timer{
		"set again":     {Id: 100, At: 1},
		"set elsewhere": {Id: 131, At: 5},
		"set the last":  {Id: 163, At: 8},
		"set a new one": {Id: 99, At: 3},
		"set too far":   {Id: 100, At: 1001},
	} {
		calls[name] = func(w impl.Wheel) (impl.Wheel, []int, []impl.Timer) {
			v, _ := impl.WheelSet(w, timer.Id, w.Now+timer.At)
			return v, nil, nil
		}
	}
	for name, n := range map[string]int{"run 0": 0, "run 1": 1, "run 9": 9, "run 1000": 1000, "run 1001": 1001} {
		calls[name] = func(w impl.Wheel) (impl.Wheel, []int, []impl.Timer) {
			v, gone := impl.WheelRun(w, n)
			return v, nil, gone
		}
	}
	return calls
}

func memoryWheels() []impl.Wheel {
	list := append(fullWheels(0), fullWheels(maxNow-3)...)
	for _, w := range fullWheels(5) {
		list = append(list, expectedUnset(w, 140))
	}
	return append(list, wheelAt(3), wheelAt(6, timersFrom(100, 7)...), impl.Wheel{}, impl.Wheel{Now: 4, Spokes: make([]impl.Spoke, 9)})
}

// A call is made for a wheel with spare elements, which stay what they were.
func TestWheelsGivenStayAsTheyAre(t *testing.T) {
	for name, call := range eachWheelCall() {
		for _, w := range memoryWheels() {
			given, spokes := spareWheel(w)
			before := wholeSpokes(spokes)
			plain, plainIds, plainGone := call(w)
			got, ids, gone := call(given)
			impl.WheelOk(given)
			impl.WheelNext(given)
			if !sameWheel(got, plain) || !slices.Equal(ids, plainIds) || !slices.Equal(gone, plainGone) {
				t.Fatalf("%s %+v: %+v %v %v", name, w, got, ids, gone)
			}
			if !sameWheel(given, w) || !slices.EqualFunc(wholeSpokes(spokes), before, slices.Equal) {
				t.Fatalf("%s %+v: now %+v", name, w, spokes)
			}
		}
	}
}

// One result is spoilt, then the wheel given: a second result stays as it is.
func TestWheelsReturnedAreNew(t *testing.T) {
	for name, call := range eachWheelCall() {
		for _, w := range memoryWheels() {
			given := ownWheel(w)
			first, ids, gone := call(given)
			second, otherIds, otherGone := call(given)
			want, wantIds, wantGone := ownWheel(second), slices.Clone(otherIds), slices.Clone(otherGone)
			spoilWheel(first)
			spoilTimers(gone)
			for i := range ids {
				ids[i] = -5
			}
			if !sameWheel(given, w) {
				t.Fatalf("%s: the wheel given is now %+v, not %+v", name, given, w)
			}
			spoilWheel(given)
			if !sameWheel(second, want) || !slices.Equal(otherIds, wantIds) || !slices.Equal(otherGone, wantGone) {
				t.Fatalf("%s %+v: %+v %v %v", name, w, second, otherIds, otherGone)
			}
		}
	}
}

// A timer appended to one spoke of a result, or written into one, is in no other
// spoke and not in the list of what was removed.
func TestSpokesReturnedAreApart(t *testing.T) {
	for name, call := range eachWheelCall() {
		for _, w := range memoryWheels() {
			want, _, wantGone := call(w)
			for at := range want.Spokes {
				got, _, gone := call(w)
				spoilTimers(append(got.Spokes[at].Timers, impl.Timer{Id: 1, At: 2}))
				spoilTimers(got.Spokes[at].Timers)
				got.Spokes[at] = want.Spokes[at]
				if !sameWheel(got, want) || !slices.Equal(gone, wantGone) {
					t.Fatalf("%s: changed with the spoke %d: %+v %v", name, at, got, gone)
				}
			}
		}
	}
}
