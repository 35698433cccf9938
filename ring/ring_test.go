package ring_test

import (
	"math"
	"math/rand"
	"slices"
	"testing"

	"bilge/ring"
)

// most is the most room that a log may have.
const most = 64

// newLog is an empty log with that room.
func newLog(t *testing.T, room int) *ring.Log {
	t.Helper()
	l := ring.New(room)
	if l == nil {
		t.Fatalf("New(%d) = nil", room)
	}
	return l
}

// logOf is a log with that room to which these were put, one by one.
func logOf(t *testing.T, room int, put ...byte) *ring.Log {
	t.Helper()
	l := newLog(t, room)
	for _, b := range put {
		l.Put(b)
	}
	return l
}

// upTo is the bytes from 1 to n, which begin anew behind 255.
func upTo(n int) []byte {
	b := make([]byte, n)
	for i := range b {
		b[i] = byte(1 + i)
	}
	return b
}

// listed is what a log with that room should list when these were put: no more than there is room for, the other way round.
func listed(room int, put []byte) []byte {
	l := slices.Clone(put[max(0, len(put)-room):])
	slices.Reverse(l)
	return l
}

// checkHolds asks a log for all that it holds, twice: the asking changes nothing.
func checkHolds(t *testing.T, l *ring.Log, want ...byte) {
	t.Helper()
	for range 2 {
		if got := l.List(); !slices.Equal(got, want) {
			t.Fatalf("List() = %v, want %v", got, want)
		}
		if got := l.Len(); got != len(want) {
			t.Fatalf("Len() = %d, want %d", got, len(want))
		}
		last, ok := l.Last()
		switch {
		case len(want) == 0 && (last != 0 || ok):
			t.Fatalf("Last() = %d, %v where there is none", last, ok)
		case len(want) > 0 && (last != want[0] || !ok):
			t.Fatalf("Last() = %d, %v, want %d", last, ok, want[0])
		}
	}
}

// checkRoom puts as many as there should be room for, and one beyond.
func checkRoom(t *testing.T, l *ring.Log, room int) {
	t.Helper()
	put := upTo(room + 1)
	for i, b := range put {
		l.Put(b)
		checkHolds(t, l, listed(room, put[:i+1])...)
	}
}

// The sentence above the rules: a nil log, and one that no call made.

func checkUnmade(t *testing.T, l *ring.Log) {
	t.Helper()
	checkHolds(t, l)
	for _, b := range []byte{0, 1, 255} {
		l.Put(b)
		checkHolds(t, l)
	}
	l.Clear()
	checkHolds(t, l)
	l.Put(9)
	checkHolds(t, l)
}

func TestNilLog(t *testing.T) {
	var l *ring.Log
	checkUnmade(t, l)
	if c := l.Clone(); c != nil {
		t.Errorf("Clone() = %v, want nil", c)
	}
	checkUnmade(t, l.Clone())
}

func TestLogThatNoCallMade(t *testing.T) {
	var plain ring.Log
	for _, l := range []*ring.Log{{}, new(ring.Log), &plain} {
		checkUnmade(t, l)
		c := l.Clone()
		if c == nil || c == l {
			t.Fatalf("Clone() of %p = %p, want another one", l, c)
		}
		checkUnmade(t, c)
		checkUnmade(t, c.Clone())
		checkUnmade(t, l)
	}
}

// RI1: New.

func TestNewOfEachRoomThatMayBe(t *testing.T) {
	for room := 1; room <= most; room++ {
		l := newLog(t, room)
		checkHolds(t, l)
		checkRoom(t, l, room)
	}
}

func TestNewOfRoomsThatMayNotBe(t *testing.T) {
	for _, room := range []int{math.MinInt, math.MinInt + 1, -65, -64, -2, -1, 0, most + 1, most + 2, 128, 255, 256, 257, 65537, 1<<32 + 1, math.MaxInt - 1, math.MaxInt} {
		if l := ring.New(room); l != nil {
			t.Errorf("New(%d) = %v, want nil", room, l)
		}
	}
}

func TestNewLogsAreApart(t *testing.T) {
	a, b := newLog(t, 3), newLog(t, 3)
	a.Put(1)
	checkHolds(t, b)
	b.Put(2)
	b.Put(3)
	checkHolds(t, a, 1)
	checkHolds(t, b, 3, 2)
	a.Clear()
	checkHolds(t, a)
	checkHolds(t, b, 3, 2)
}

// RI1: Put.

func TestPutOfTheExample(t *testing.T) {
	checkHolds(t, logOf(t, 2, 1, 2, 3), 3, 2)
}

func TestPutOfSome(t *testing.T) {
	for _, c := range []struct {
		room      int
		put, want []byte
	}{
		{1, []byte{5}, []byte{5}},
		{1, []byte{5, 6}, []byte{6}},
		{1, []byte{5, 6, 5, 7}, []byte{7}},
		{2, []byte{5}, []byte{5}},
		{2, []byte{5, 6}, []byte{6, 5}},
		{2, []byte{5, 6, 7, 8}, []byte{8, 7}},
		{2, []byte{5, 6, 7, 8, 9}, []byte{9, 8}},
		{3, []byte{5, 6}, []byte{6, 5}},
		{3, []byte{5, 6, 7}, []byte{7, 6, 5}},
		{3, []byte{5, 6, 7, 8}, []byte{8, 7, 6}},
		{3, []byte{5, 6, 7, 8, 9, 10, 11}, []byte{11, 10, 9}},
		{most, []byte{1, 2, 3}, []byte{3, 2, 1}},
	} {
		checkHolds(t, logOf(t, c.room, c.put...), c.want...)
	}
}

func TestPutOfEachByte(t *testing.T) {
	l := newLog(t, 3)
	for b := range 256 {
		l.Put(byte(b))
		if got, ok := l.Last(); got != byte(b) || !ok {
			t.Fatalf("Last() = %d, %v, want %d", got, ok, b)
		}
	}
	checkHolds(t, l, 255, 254, 253)
}

func TestPutOfTheSameByteIsOneMore(t *testing.T) {
	l := newLog(t, 4)
	for n := range 9 {
		checkHolds(t, l, slices.Repeat([]byte{7}, min(n, 4))...)
		l.Put(7)
	}
}

func TestPutOfNoughtsIsOneMore(t *testing.T) {
	l := newLog(t, 3)
	for n := range 8 {
		checkHolds(t, l, make([]byte, min(n, 3))...)
		l.Put(0)
	}
	l.Put(1)
	checkHolds(t, l, 1, 0, 0)
	l.Put(0)
	checkHolds(t, l, 0, 1, 0)
}

func TestPutOfAsManyAsThereIsRoomForAndOneBeyond(t *testing.T) {
	for _, room := range []int{1, 2, 3, 7, 8, 31, 32, 33, 63, 64} {
		for _, n := range []int{room - 1, room, room + 1, 2*room - 1, 2 * room, 2*room + 1, 5*room + 3} {
			put := upTo(n)
			l := logOf(t, room, put...)
			checkHolds(t, l, listed(room, put)...)
			if got, want := l.Len(), min(n, room); got != want {
				t.Errorf("room %d: Len() behind %d = %d, want %d", room, n, got, want)
			}
		}
	}
}

// RI1: Clear.

func TestClearAtEachFill(t *testing.T) {
	for _, room := range []int{1, 2, 3, 5, 63, 64} {
		for n := range 2*room + 2 {
			l := logOf(t, room, upTo(n)...)
			l.Clear()
			checkHolds(t, l)
			l.Clear()
			checkHolds(t, l)
			checkRoom(t, l, room) // it is as new, and its room is the same
		}
	}
}

func TestClearLeavesNothingOfWhatWasAhead(t *testing.T) {
	l := logOf(t, 4, 1, 2, 3, 4, 5, 6)
	l.Clear()
	l.Put(0)
	checkHolds(t, l, 0)
	l.Put(9)
	checkHolds(t, l, 9, 0)
	l.Clear()
	l.Put(8)
	checkHolds(t, l, 8)
}

// RI2: List.

func TestListIsNewMemory(t *testing.T) {
	l := logOf(t, 4, 1, 2, 3, 4, 5)
	a, b := l.List(), l.List()
	for i := range a {
		a[i] = 99
	}
	_ = append(a, 98, 97)
	checkHolds(t, l, 5, 4, 3, 2)
	if !slices.Equal(b, []byte{5, 4, 3, 2}) {
		t.Errorf("a change of one list makes another one %v", b)
	}
	l.Put(6)
	l.Put(7)
	if !slices.Equal(b, []byte{5, 4, 3, 2}) {
		t.Errorf("Put makes what was listed %v", b)
	}
	l.Clear()
	if !slices.Equal(b, []byte{5, 4, 3, 2}) {
		t.Errorf("Clear makes what was listed %v", b)
	}
}

func TestListHandsOutNothingBehindItsLength(t *testing.T) {
	for _, n := range []int{0, 1, 3, 5, 9} {
		l := logOf(t, 5, upTo(n)...)
		l.Clear()
		l.Put(200)
		list := l.List()
		for _, b := range list[:cap(list)][len(list):] {
			if b != 0 {
				t.Errorf("behind the list stands %d", b)
			}
		}
	}
}

// RI2: Len and Last.

func TestLenGoesUpToTheRoom(t *testing.T) {
	for room := 1; room <= most; room++ {
		l := newLog(t, room)
		for n := range 3*room + 1 {
			if got, want := l.Len(), min(n, room); got != want {
				t.Fatalf("room %d: Len() behind %d = %d, want %d", room, n, got, want)
			}
			l.Put(byte(n))
		}
	}
}

func TestLastTellsANoughtApartFromNone(t *testing.T) {
	l := newLog(t, 2)
	check := func(b byte, ok bool) {
		t.Helper()
		if got, is := l.Last(); got != b || is != ok {
			t.Errorf("Last() = %d, %v, want %d, %v", got, is, b, ok)
		}
	}
	check(0, false)
	l.Put(0)
	check(0, true)
	l.Put(4)
	check(4, true)
	l.Put(0)
	check(0, true)
	l.Put(5)
	l.Clear()
	check(0, false)
}

func TestLastTakesNothingAway(t *testing.T) {
	l := logOf(t, 3, 1, 2, 3, 4)
	for range 5 {
		if b, ok := l.Last(); b != 4 || !ok {
			t.Errorf("Last() = %d, %v, want 4", b, ok)
		}
	}
	checkHolds(t, l, 4, 3, 2)
}

// RI2: Clone.

func TestCloneIsTheSame(t *testing.T) {
	for _, room := range []int{1, 2, 3, 17, 63, 64} {
		for n := range 2*room + 2 {
			put := upTo(n)
			l := logOf(t, room, put...)
			c := l.Clone()
			if c == nil || c == l {
				t.Fatalf("Clone() of %p = %p, want another one", l, c)
			}
			checkHolds(t, c, listed(room, put)...)
			for range room + 1 { // it has as much room, and what goes first is the same
				put = append(put, byte(100+len(put)))
				c.Put(put[len(put)-1])
				checkHolds(t, c, listed(room, put)...)
			}
			checkHolds(t, l, listed(room, put[:n])...)
		}
	}
}

func TestCloneIsApart(t *testing.T) {
	for name, change := range map[string]func(l *ring.Log){
		"Put":              func(l *ring.Log) { l.Put(9) },
		"Put of many":      func(l *ring.Log) { l.Put(9); l.Put(8); l.Put(7); l.Put(6); l.Put(5) },
		"Clear":            func(l *ring.Log) { l.Clear() },
		"Clear, and Put":   func(l *ring.Log) { l.Clear(); l.Put(9) },
		"a change of List": func(l *ring.Log) { clear(l.List()) },
		"Put to its clone": func(l *ring.Log) { l.Clone().Put(9) },
		"Clear its clone":  func(l *ring.Log) { l.Clone().Clear() },
	} {
		for n := range 8 {
			put := upTo(n)
			l := logOf(t, 3, put...)
			c := l.Clone()
			change(l)
			checkHolds(t, c, listed(3, put)...)

			l = logOf(t, 3, put...)
			c = l.Clone()
			change(c)
			checkHolds(t, l, listed(3, put)...)
			if t.Failed() {
				t.Fatalf("by %s", name)
			}
		}
	}
}

func TestCloneAndItsLogGoOnEachByItself(t *testing.T) {
	l := logOf(t, 4, 1, 2, 3)
	c := l.Clone()
	a, b := []byte{1, 2, 3}, []byte{1, 2, 3}
	for i := range 20 {
		a, b = append(a, byte(20+i)), append(b, byte(60+i))
		l.Put(byte(20 + i))
		checkHolds(t, c, listed(4, b[:len(b)-1])...)
		c.Put(byte(60 + i))
		checkHolds(t, l, listed(4, a)...)
		checkHolds(t, c, listed(4, b)...)
	}
}

// RI3: what follows.

func TestWhatIsListedIsWhatWasPut(t *testing.T) {
	for room := 1; room <= most; room++ {
		l := newLog(t, room)
		var put []byte
		for n := range 4*room + 5 {
			checkHolds(t, l, listed(room, put)...)
			b := byte(n*n*31 + n*7 + room)
			l.Put(b)
			put = append(put, b)
		}
		checkHolds(t, l, listed(room, put)...)
	}
}

func TestLongRunsOfAllCalls(t *testing.T) {
	for _, room := range []int{1, 2, 3, 4, 5, 16, 63, 64} {
		r := rand.New(rand.NewSource(int64(room)))
		l := newLog(t, room)
		var put []byte // since it was cleared
		for range 6000 {
			switch r.Intn(12 * room) {
			case 0:
				l.Clear()
				put = nil
			case 1:
				l = l.Clone()
			case 2:
				c := l.Clone()
				c.Put(byte(r.Intn(256)))
				c.Clear()
			default:
				b := byte(r.Intn(256))
				l.Put(b)
				put = append(put, b)
			}
			checkHolds(t, l, listed(room, put)...)
		}
	}
}
