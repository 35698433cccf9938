package timer_test

import (
	"cmp"
	"maps"
	"math"
	"math/rand"
	"slices"
	"testing"

	"bilge/api"
	"bilge/timer"
)

// times are what a queue should hold: when each number is due.
type times map[int]int

// compare orders numbers by their times, those of one time by themselves.
func (m times) compare(a, b int) int { return cmp.Or(cmp.Compare(m[a], m[b]), cmp.Compare(a, b)) }

// order is the numbers in order.
func (m times) order() []int { return slices.SortedFunc(maps.Keys(m), m.compare) }

// first is the first number in order, where there is one.
func (m times) first() int { return slices.MinFunc(slices.Collect(maps.Keys(m)), m.compare) }

// set is what Set says and does, word by word.
func (m times) set(id, at int) api.Errno {
	_, there := m[id]
	switch {
	case id < 0, at < 0, at > 1099511627776:
		return api.ErrArg
	case !there && len(m) == 256:
		return api.ErrFull
	}
	m[id] = at
	return api.OK
}

// drop is what Drop says and does.
func (m times) drop(id int) bool {
	_, there := m[id]
	delete(m, id)
	return there
}

// due is what Due says and does.
func (m times) due(now int) []int {
	var l []int
	for _, id := range m.order() {
		if m[id] <= now {
			l = append(l, id)
		}
	}
	for _, id := range l {
		delete(m, id)
	}
	return l
}

// checkHolds asks a queue for all that it holds, without changing it.
func checkHolds(t *testing.T, q *timer.Queue, want times) {
	t.Helper()
	if got := q.Len(); got != len(want) {
		t.Fatalf("Len() = %d, want %d", got, len(want))
	}
	id, at, ok := q.First()
	if len(want) == 0 {
		if id != 0 || at != 0 || ok {
			t.Fatalf("First() = %d, %d, %v where nothing is due", id, at, ok)
		}
	} else if first := want.first(); id != first || at != want[first] || !ok {
		t.Fatalf("First() = %d, %d, %v, want %d, %d", id, at, ok, first, want[first])
	}
	for id, at := range want {
		if got, ok := q.When(id); got != at || !ok {
			t.Fatalf("When(%d) = %d, %v, want %d", id, got, ok, at)
		}
	}
}

// checkNotDue asks for numbers that aren't due.
func checkNotDue(t *testing.T, q *timer.Queue, ids ...int) {
	t.Helper()
	for _, id := range ids {
		if at, ok := q.When(id); at != 0 || ok {
			t.Fatalf("When(%d) = %d, %v, want 0, false", id, at, ok)
		}
	}
}

// checkSet sets a number, and what should be held too.
func checkSet(t *testing.T, q *timer.Queue, m times, id, at int) {
	t.Helper()
	if got, want := q.Set(id, at), m.set(id, at); got != want {
		t.Fatalf("Set(%d, %d) = %v, want %v", id, at, got, want)
	}
}

// checkDrop drops a number, from what should be held too.
func checkDrop(t *testing.T, q *timer.Queue, m times, id int) {
	t.Helper()
	if got, want := q.Drop(id), m.drop(id); got != want {
		t.Fatalf("Drop(%d) = %v, want %v", id, got, want)
	}
}

// checkDue asks what is due, from what should be held too.
func checkDue(t *testing.T, q *timer.Queue, m times, now int) {
	t.Helper()
	if got, want := q.Due(now), m.due(now); !slices.Equal(got, want) {
		t.Fatalf("Due(%d) = %v, want %v", now, got, want)
	}
}

// queueOf is a queue in which these are due, and what it should hold.
func queueOf(t *testing.T, m times) (*timer.Queue, times) {
	t.Helper()
	q := timer.New()
	for id, at := range m {
		if err := q.Set(id, at); err != api.OK {
			t.Fatalf("Set(%d, %d) = %v", id, at, err)
		}
	}
	return q, maps.Clone(m)
}

// full is a queue in which as many are due as may be: 0 to 255, the last one first, each two at one time.
func full(t *testing.T) (*timer.Queue, times) {
	t.Helper()
	m := times{}
	for id := range api.MaxTimers {
		m[id] = 1000 - id/2
	}
	return queueOf(t, m)
}

// The sentence above the rules: a nil queue, and one that no call made.

func checkUnmade(t *testing.T, q *timer.Queue) {
	t.Helper()
	for _, at := range []int{math.MinInt, -1, 0, 1, api.MaxTime, math.MaxInt} {
		for _, id := range []int{math.MinInt, -1, 0, 1, 300, math.MaxInt} {
			if err := q.Set(id, at); err != api.ErrArg {
				t.Errorf("Set(%d, %d) = %v, want %v", id, at, err, api.ErrArg)
			}
			if q.Drop(id) {
				t.Errorf("Drop(%d) = true", id)
			}
			checkNotDue(t, q, id)
		}
		if l := q.Due(at); len(l) != 0 {
			t.Errorf("Due(%d) = %v", at, l)
		}
	}
	checkHolds(t, q, times{})
}

func TestNilQueue(t *testing.T) {
	var q *timer.Queue
	checkUnmade(t, q)
	checkUnmade(t, q.Clone())
	checkUnmade(t, q.Clone().Clone())
}

func TestQueueThatNoCallMade(t *testing.T) {
	q := &timer.Queue{}
	checkUnmade(t, q)
	c := q.Clone()
	checkUnmade(t, c)
	checkUnmade(t, c.Clone())
	checkUnmade(t, q)
	var plain timer.Queue
	checkUnmade(t, &plain)
	checkUnmade(t, new(timer.Queue))
}

// TI1: New.

func TestNewHasNothingDue(t *testing.T) {
	q := timer.New()
	checkHolds(t, q, times{})
	checkNotDue(t, q, math.MinInt, -1, 0, 1, 255, 256, math.MaxInt)
	for _, now := range []int{math.MinInt, -1, 0, 1, api.MaxTime, math.MaxInt} {
		if l := q.Due(now); len(l) != 0 {
			t.Errorf("Due(%d) = %v", now, l)
		}
	}
	if q.Drop(0) {
		t.Error("Drop(0) = true")
	}
	checkHolds(t, q, times{})
}

func TestNewQueuesAreApart(t *testing.T) {
	a, b := timer.New(), timer.New()
	a.Set(1, 5)
	checkHolds(t, b, times{})
	checkNotDue(t, b, 1)
	b.Set(1, 7)
	checkHolds(t, a, times{1: 5})
	checkHolds(t, b, times{1: 7})
}

// TI1: Set.

func TestSetTakesItsBoundsAndNoneBeyond(t *testing.T) {
	for _, c := range []struct {
		id, at int
		err    api.Errno
	}{
		{0, 0, api.OK},
		{1, 1, api.OK},
		{256, 9, api.OK},
		{1 << 41, 9, api.OK}, // a number is no time
		{math.MaxInt, 0, api.OK},
		{0, 1099511627775, api.OK},
		{0, 1099511627776, api.OK},
		{math.MaxInt, 1099511627776, api.OK},

		{-1, 0, api.ErrArg},
		{-1, 1099511627776, api.ErrArg},
		{math.MinInt, 5, api.ErrArg},
		{0, -1, api.ErrArg},
		{0, math.MinInt, api.ErrArg},
		{0, 1099511627777, api.ErrArg},
		{0, math.MaxInt, api.ErrArg},
		{-1, -1, api.ErrArg},
		{-1, 1099511627777, api.ErrArg},
		{math.MinInt, math.MinInt, api.ErrArg},
	} {
		q := timer.New()
		if err := q.Set(c.id, c.at); err != c.err {
			t.Errorf("Set(%d, %d) = %v, want %v", c.id, c.at, err, c.err)
		}
		if c.err != api.OK {
			checkHolds(t, q, times{})
			checkNotDue(t, q, c.id)
			continue
		}
		checkHolds(t, q, times{c.id: c.at})
		if l := q.Due(c.at - 1); len(l) != 0 {
			t.Errorf("Due(%d) = %v, ahead of %d", c.at-1, l, c.at)
		}
		if l := q.Due(c.at); !slices.Equal(l, []int{c.id}) {
			t.Errorf("Due(%d) = %v, want %d", c.at, l, c.id)
		}
	}
}

func TestSetAgainIsDueAtNoOtherTime(t *testing.T) {
	for _, ats := range [][]int{{5, 9}, {9, 5}, {5, 5}, {0, api.MaxTime}, {api.MaxTime, 0}, {5, 9, 5}, {9, 5, 7}, {1, 2, 3, 4, 5, 6}} {
		q, m := queueOf(t, times{2: 6, 3: 7, 4: 4})
		for _, at := range ats {
			checkSet(t, q, m, 1, at)
			checkHolds(t, q, m)
		}
		last := ats[len(ats)-1]
		checkDue(t, q, m, last-1)
		checkHolds(t, q, m)
		checkDue(t, q, m, last)
		checkNotDue(t, q, 1)
		checkDue(t, q, m, api.MaxTime)
		checkHolds(t, q, times{})
	}
}

func TestSetWithAnErrorChangesNothing(t *testing.T) {
	q, m := queueOf(t, times{0: 3, 1: 5, 2: 5})
	for _, c := range []struct{ id, at int }{{1, -1}, {0, api.MaxTime + 1}, {2, math.MinInt}, {2, math.MaxInt}, {-1, 5}, {7, -1}, {math.MinInt, 5}} {
		checkSet(t, q, m, c.id, c.at)
		checkHolds(t, q, times{0: 3, 1: 5, 2: 5})
	}
	checkNotDue(t, q, -1, 7, math.MinInt)
	checkDue(t, q, m, api.MaxTime)
}

func TestSetOfAsManyAsMayBeAndOneBeyond(t *testing.T) {
	q, m := full(t)
	checkHolds(t, q, m)
	if q.Len() != 256 {
		t.Fatalf("Len() = %d, want 256", q.Len())
	}
	for _, id := range []int{256, 257, 100000, math.MaxInt} {
		for _, at := range []int{0, 900, api.MaxTime} {
			if err := q.Set(id, at); err != api.ErrFull {
				t.Errorf("Set(%d, %d) = %v, want %v", id, at, err, api.ErrFull)
			}
		}
	}
	checkHolds(t, q, m)
	checkNotDue(t, q, 256, 257, 100000, math.MaxInt)
	checkDue(t, q, m, api.MaxTime)
	checkHolds(t, q, times{})
}

func TestSetOfOneThatIsDueWhereNoMoreMayBe(t *testing.T) {
	q, m := full(t)
	for id := range api.MaxTimers {
		checkSet(t, q, m, id, id*7%31)
		if q.Len() != 256 {
			t.Fatalf("Len() = %d, want 256", q.Len())
		}
	}
	checkHolds(t, q, m)
	checkDue(t, q, m, 15)
	checkDue(t, q, m, 31)
	checkHolds(t, q, times{})
}

func TestSetTellsErrArgAheadOfErrFull(t *testing.T) {
	q, m := full(t)
	for _, c := range []struct{ id, at int }{{-1, 5}, {math.MinInt, 5}, {256, -1}, {256, api.MaxTime + 1}, {256, math.MaxInt}, {0, -1}, {-1, -1}} {
		if err := q.Set(c.id, c.at); err != api.ErrArg {
			t.Errorf("Set(%d, %d) = %v, want %v", c.id, c.at, err, api.ErrArg)
		}
	}
	checkHolds(t, q, m)
}

func TestSetHasRoomAgain(t *testing.T) {
	q, m := full(t)
	checkDrop(t, q, m, 77)
	checkSet(t, q, m, 1000, 950)
	checkSet(t, q, m, 77, 950)    // there is no more room
	checkDue(t, q, m, 1000-255/2) // the first two
	checkSet(t, q, m, 77, 950)
	checkSet(t, q, m, 78, 2) // it is due: it takes no room
	checkSet(t, q, m, 1001, 3)
	checkSet(t, q, m, 1002, 3)
	if q.Len() != 256 {
		t.Errorf("Len() = %d, want 256", q.Len())
	}
	checkHolds(t, q, m)
	checkNotDue(t, q, 254, 255, 1002)
	checkDue(t, q, m, api.MaxTime)
}

// TI1: Drop.

func TestDropTellsWhetherItWasDue(t *testing.T) {
	q, m := queueOf(t, times{0: 9, 3: 5, 8: 5, math.MaxInt: 7})
	for _, id := range []int{math.MinInt, -1, 1, 2, 4, 9, math.MaxInt - 1} {
		if q.Drop(id) {
			t.Errorf("Drop(%d) = true", id)
		}
		checkHolds(t, q, m)
	}
	for _, id := range []int{3, math.MaxInt, 0, 8} {
		if !q.Drop(id) {
			t.Errorf("Drop(%d) = false", id)
		}
		delete(m, id)
		checkHolds(t, q, m)
		checkNotDue(t, q, id)
		if q.Drop(id) {
			t.Errorf("Drop(%d) = true once more", id)
		}
		checkHolds(t, q, m)
	}
	checkDue(t, q, m, api.MaxTime)
}

func TestDropOfOneThatWasTold(t *testing.T) {
	q, m := queueOf(t, times{1: 5, 2: 6})
	checkDue(t, q, m, 5)
	if q.Drop(1) {
		t.Error("Drop(1) = true, though it was told")
	}
	checkHolds(t, q, times{2: 6})
}

func TestDropOfEachOfMany(t *testing.T) {
	for id := range api.MaxTimers {
		q, m := full(t)
		checkDrop(t, q, m, id)
		checkHolds(t, q, m)
		checkNotDue(t, q, id)
		checkDue(t, q, m, 940)
		checkHolds(t, q, m)
		checkDue(t, q, m, api.MaxTime)
	}
}

// TI1: When.

func TestWhen(t *testing.T) {
	q, m := queueOf(t, times{0: 0, 1: 5, 2: api.MaxTime, 7: 5, math.MaxInt: 1})
	for id, at := range m {
		if got, ok := q.When(id); got != at || !ok {
			t.Errorf("When(%d) = %d, %v, want %d", id, got, ok, at)
		}
	}
	checkNotDue(t, q, math.MinInt, -1, 3, 5, 8, math.MaxInt-1)
	checkDue(t, q, m, 1)
	checkNotDue(t, q, 0, math.MaxInt)
	checkHolds(t, q, times{1: 5, 2: api.MaxTime, 7: 5})
}

// TI2: First.

func TestFirstIsOfTheLeastTimeAndThenTheLeastNumber(t *testing.T) {
	for _, c := range []struct {
		m      times
		id, at int
	}{
		{times{0: 0}, 0, 0},
		{times{4: 7}, 4, 7},
		{times{1: 9, 2: 8}, 2, 8},
		{times{1: 8, 2: 9}, 1, 8},
		{times{3: 5, 2: 5, 9: 5}, 2, 5},
		{times{3: 5, 2: 5, 9: 4}, 9, 4},
		{times{0: api.MaxTime, math.MaxInt: api.MaxTime - 1}, math.MaxInt, api.MaxTime - 1},
		{times{0: api.MaxTime, math.MaxInt: api.MaxTime}, 0, api.MaxTime},
		{times{math.MaxInt: 0, math.MaxInt - 1: 0}, math.MaxInt - 1, 0},
	} {
		q, _ := queueOf(t, c.m)
		for range 3 { // it changes nothing
			if id, at, ok := q.First(); id != c.id || at != c.at || !ok {
				t.Errorf("of %v: First() = %d, %d, %v, want %d, %d", c.m, id, at, ok, c.id, c.at)
			}
		}
		checkHolds(t, q, c.m)
	}
}

func TestFirstOfNothing(t *testing.T) {
	q, m := queueOf(t, times{4: 7, 5: 8})
	checkDrop(t, q, m, 4)
	checkDue(t, q, m, 8)
	if id, at, ok := q.First(); id != 0 || at != 0 || ok {
		t.Errorf("First() = %d, %d, %v", id, at, ok)
	}
}

// TI2: Due.

func TestDueOfTheExample(t *testing.T) {
	q := timer.New()
	for _, c := range []struct{ id, at int }{{3, 9}, {1, 5}, {2, 5}} {
		if err := q.Set(c.id, c.at); err != api.OK {
			t.Fatalf("Set(%d, %d) = %v", c.id, c.at, err)
		}
	}
	if l := q.Due(8); !slices.Equal(l, []int{1, 2}) {
		t.Errorf("Due(8) = %v, want 1, 2", l)
	}
	checkHolds(t, q, times{3: 9})
	checkNotDue(t, q, 1, 2)
}

func TestDueUpToATimeAndNoneBehind(t *testing.T) {
	m := times{9: 0, 3: 0, 8: 4, 1: 5, 2: 5, 0: 5, 6: 6, 5: api.MaxTime - 1, 7: api.MaxTime, 4: api.MaxTime}
	for _, c := range []struct {
		now  int
		want []int
	}{
		{math.MinInt, nil},
		{-1, nil},
		{0, []int{3, 9}},
		{3, []int{3, 9}},
		{4, []int{3, 9, 8}},
		{5, []int{3, 9, 8, 0, 1, 2}},
		{6, []int{3, 9, 8, 0, 1, 2, 6}},
		{api.MaxTime - 2, []int{3, 9, 8, 0, 1, 2, 6}},
		{api.MaxTime - 1, []int{3, 9, 8, 0, 1, 2, 6, 5}},
		{api.MaxTime, []int{3, 9, 8, 0, 1, 2, 6, 5, 4, 7}},
		{api.MaxTime + 1, []int{3, 9, 8, 0, 1, 2, 6, 5, 4, 7}},
		{math.MaxInt, []int{3, 9, 8, 0, 1, 2, 6, 5, 4, 7}},
	} {
		q, left := queueOf(t, m)
		if l := q.Due(c.now); !slices.Equal(l, c.want) {
			t.Errorf("Due(%d) = %v, want %v", c.now, l, c.want)
		}
		for _, id := range c.want {
			delete(left, id)
		}
		checkHolds(t, q, left)
		checkNotDue(t, q, c.want...)
		if l := q.Due(c.now); len(l) != 0 {
			t.Errorf("Due(%d) = %v once more", c.now, l)
		}
		checkHolds(t, q, left)
	}
}

func TestDueOfAnEarlierTimeThanTheOneAhead(t *testing.T) {
	q, m := queueOf(t, times{1: 5, 2: 9})
	checkDue(t, q, m, 7)
	checkSet(t, q, m, 3, 2) // ahead of what was told
	checkDue(t, q, m, 1)
	checkHolds(t, q, times{2: 9, 3: 2})
	checkDue(t, q, m, 2)
	checkHolds(t, q, times{2: 9})
}

func TestDueTellsNewMemory(t *testing.T) {
	q, m := queueOf(t, times{1: 1, 2: 2, 3: 3, 4: 4, 5: 5, 6: 6})
	a := q.Due(2)
	b := q.Due(4)
	m.due(4)
	for i := range a {
		a[i] = 99
	}
	a = append(a, 98, 97, 96)
	if !slices.Equal(b, []int{3, 4}) {
		t.Errorf("a change of what was told ahead makes it %v", b)
	}
	checkHolds(t, q, m)
	for i := range b {
		b[i] = 95
	}
	_ = append(b, 94, 93, 92)
	if !slices.Equal(a, []int{99, 99, 98, 97, 96}) {
		t.Errorf("a change of what was told behind makes it %v", a)
	}
	checkHolds(t, q, m)
	checkDue(t, q, m, 9)
}

// TI2: Len.

func TestLenGoesUpAndDown(t *testing.T) {
	q := timer.New()
	check := func(want int) {
		t.Helper()
		if got := q.Len(); got != want {
			t.Fatalf("Len() = %d, want %d", got, want)
		}
	}
	for n := range 256 {
		check(n)
		q.Set(n, 500-n)
	}
	check(256)
	q.Set(3, 1) // due already
	q.Set(999, 1)
	check(256)
	q.Drop(3)
	check(255)
	q.Drop(3)
	check(255)
	q.Due(245 + 10) // those from 245 to 255
	check(244)
	q.Set(0, -1)
	check(244)
	q.Due(api.MaxTime)
	check(0)
}

// TI2: Clone.

func TestCloneIsTheSame(t *testing.T) {
	q, m := full(t)
	c := q.Clone()
	checkHolds(t, c, m)
	checkHolds(t, q, m)
	if err := c.Set(256, 1); err != api.ErrFull {
		t.Errorf("Set(256, 1) of the clone = %v, want %v", err, api.ErrFull)
	}
	for _, now := range []int{-1, 900, 950, api.MaxTime} {
		left := maps.Clone(m)
		checkDue(t, c, left, now)
		checkDue(t, q, m, now)
		checkHolds(t, c, m)
		checkHolds(t, q, m)
	}
}

func TestCloneOfNothing(t *testing.T) {
	q := timer.New()
	c := q.Clone()
	checkHolds(t, c, times{})
	if err := c.Set(1, 5); err != api.OK {
		t.Fatalf("Set(1, 5) of the clone = %v", err)
	}
	checkHolds(t, c, times{1: 5})
	checkHolds(t, q, times{})
	checkNotDue(t, q, 1)
}

func TestCloneIsApart(t *testing.T) {
	start := times{0: 9, 1: 5, 2: 5, 3: 7, 4: 1}
	for name, change := range map[string]func(q *timer.Queue){
		"Set of a new one":     func(q *timer.Queue) { q.Set(7, 2) },
		"Set of new ones":      func(q *timer.Queue) { q.Set(7, 0); q.Set(8, 0); q.Set(9, 0); q.Set(10, 0) },
		"Set to be earlier":    func(q *timer.Queue) { q.Set(0, 0) },
		"Set to be later":      func(q *timer.Queue) { q.Set(4, 100) },
		"Drop of the first":    func(q *timer.Queue) { q.Drop(4) },
		"Drop of the last":     func(q *timer.Queue) { q.Drop(0) },
		"Drop, and Set anew":   func(q *timer.Queue) { q.Drop(1); q.Set(7, 3) },
		"Due of some":          func(q *timer.Queue) { q.Due(5) },
		"Due, and Set anew":    func(q *timer.Queue) { q.Due(5); q.Set(7, 3); q.Set(8, 1) },
		"Due of all":           func(q *timer.Queue) { q.Due(api.MaxTime) },
		"Clone, and Set there": func(q *timer.Queue) { q.Clone().Set(7, 0) },
	} {
		q, _ := queueOf(t, start)
		c := q.Clone()
		change(q)
		checkHolds(t, c, start)
		checkNotDue(t, c, 7, 8, 9, 10)
		checkDue(t, c, maps.Clone(start), api.MaxTime)

		q, _ = queueOf(t, start)
		c = q.Clone()
		change(c)
		checkHolds(t, q, start)
		checkNotDue(t, q, 7, 8, 9, 10)
		checkDue(t, q, maps.Clone(start), api.MaxTime)
		if t.Failed() {
			t.Fatalf("by %s", name)
		}
	}
}

func TestCloneAndItsQueueGoOnEachByItself(t *testing.T) {
	q, m := queueOf(t, times{1: 5, 2: 6, 3: 7})
	q.Due(6) // there is room behind what is left, which both could take
	m.due(6)
	c, n := q.Clone(), maps.Clone(m)
	for i := range 40 {
		checkSet(t, q, m, 10+i, 8+i)
		checkSet(t, c, n, 50+i, 7-i%5)
		checkHolds(t, q, m)
		checkHolds(t, c, n)
	}
	checkDue(t, q, m, 30)
	checkDue(t, c, n, 5)
	checkHolds(t, q, m)
	checkHolds(t, c, n)
}

// TI3: what follows.

func TestEachOrderOfSettingTellsTheSame(t *testing.T) {
	ids := []int{0, 1, 2, 3, 4, 5}
	at := []int{2, 0, 2, 1, 0, 2}
	var each func(k int)
	each = func(k int) {
		if k < len(ids) {
			for i := k; i < len(ids); i++ {
				ids[k], ids[i] = ids[i], ids[k]
				each(k + 1)
				ids[k], ids[i] = ids[i], ids[k]
			}
			return
		}
		q := timer.New()
		for _, id := range ids {
			q.Set(id, at[id])
		}
		for now, want := range [][]int{{1, 4}, {3}, {0, 2, 5}, {}} {
			if l := q.Due(now); !slices.Equal(l, want) {
				t.Fatalf("set in the order %v: Due(%d) = %v, want %v", ids, now, l, want)
			}
		}
	}
	each(0)
}

func TestAllTimesOfAFew(t *testing.T) {
	const n = 5
	for code := range 1024 { // five numbers, of four times each
		start := times{}
		for id := range n {
			start[id] = code >> (2 * id) & 3
		}
		for id := range n {
			q, m := queueOf(t, start)
			checkDrop(t, q, m, id)
			checkHolds(t, q, m)
			checkDue(t, q, m, 1)
			checkDue(t, q, m, 3)
			for at := range 4 {
				q, m := queueOf(t, start)
				checkSet(t, q, m, id, at)
				checkHolds(t, q, m)
				checkDue(t, q, m, 0)
				checkDue(t, q, m, 2)
				checkDue(t, q, m, 3)
				checkHolds(t, q, times{})
			}
		}
	}
}

func TestLongRunsOfAllCalls(t *testing.T) {
	for _, c := range []struct{ steps, ids, span, seed int }{
		{20000, 6, 4, 1},
		{20000, 40, 9, 2},
		{20000, 300, 1000, 3},
		{20000, 600, 20, 4}, // often full
		{4000, 1 << 40, api.MaxTime, 5},
	} {
		r := rand.New(rand.NewSource(int64(c.seed)))
		q, m := timer.New(), times{}
		for range c.steps {
			id, at := r.Intn(c.ids+2)-1, r.Intn(c.span+3)-1
			switch r.Intn(20) {
			case 0:
				checkDue(t, q, m, r.Intn(c.span/8+2)-1)
			case 1:
				q, m = q.Clone(), maps.Clone(m)
			case 2, 3, 4, 5:
				checkDrop(t, q, m, id)
				checkNotDue(t, q, id)
			case 6:
				if l := m.order(); len(l) > 0 {
					checkDrop(t, q, m, l[r.Intn(len(l))])
				}
			case 7, 8:
				if l := m.order(); len(l) > 0 {
					checkSet(t, q, m, l[r.Intn(len(l))], at)
				}
			default:
				checkSet(t, q, m, id, at)
			}
			checkHolds(t, q, m)
		}
		checkDue(t, q, m, math.MaxInt)
		checkHolds(t, q, times{})
	}
}

func TestEachIsToldOnceInOrderAndNotAheadOfItsTime(t *testing.T) {
	r := rand.New(rand.NewSource(6))
	q := timer.New()
	want, told := times{}, times{} // when each is due, and was told
	now, next := 0, 0
	step := func() {
		lastAt, lastID := -1, -1
		for _, id := range q.Due(now) {
			at, there := want[id]
			if _, twice := told[id]; !there || twice || at > now {
				t.Fatalf("Due(%d) told %d, which is due at %d (%v), or was told ahead", now, id, at, there)
			}
			if at < lastAt || at == lastAt && id <= lastID {
				t.Fatalf("Due(%d) told %d of %d behind %d of %d", now, id, at, lastID, lastAt)
			}
			lastAt, lastID, told[id] = at, id, now
		}
		for id, at := range want {
			if _, ok := told[id]; at <= now && !ok {
				t.Fatalf("Due(%d) told nothing of %d, which is due at %d", now, id, at)
			}
		}
	}
	for range 3000 {
		for range r.Intn(6) {
			at := now + r.Intn(200)
			if err := q.Set(next, at); err != api.OK {
				t.Fatalf("Set(%d, %d) = %v", next, at, err)
			}
			want[next] = at
			if r.Intn(5) == 0 && q.Drop(next) {
				delete(want, next)
			}
			next++
		}
		now += r.Intn(40)
		step()
	}
	now += 200
	step()
	if q.Len() != 0 || len(told) != len(want) {
		t.Errorf("%d are left; %d were told, want %d", q.Len(), len(told), len(want))
	}
}
