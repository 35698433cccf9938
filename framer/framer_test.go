package framer_test

import (
	"math"
	"math/rand"
	"slices"
	"testing"

	"bilge/api"
	"bilge/clock"
	"bilge/crc"
	"bilge/framer"
	"bilge/split"
)

// lastTime is the last time that may be; longest is the longest silence that a line's times may have; room is how many bytes of a segment are held.
const lastTime, longest, room = 1099511627776, 16777216, 256

// small are times of few ticks, in which each kind of silence has a length of its own.
var small = api.Times{Char: 1, Short: 2, Long: 4}

// lines are times that a line may have, the shortest and the longest ones among them.
var lines = []api.Times{
	small,
	{Char: 1, Short: 1, Long: 2},
	{Char: 1, Short: 3, Long: 4},
	{Char: 1, Short: 1, Long: 5, Turn: 3},
	{Char: 1146, Short: 2865, Long: 5157, Turn: 9},
	{Char: longest - 1, Short: longest - 1, Long: longest, Turn: longest},
}

// moments are numbers at the bounds of what a time may be.
var moments = []int{math.MinInt, -lastTime, -1, 0, 1, 1000, lastTime - 1, lastTime, lastTime + 1, 2 * lastTime, math.MaxInt}

// answer is what Byte or Idle answers.
type answer struct {
	s   api.Segment
	ok  bool
	err api.Errno
}

// Two answers that have no segment.
var nothing, refused = answer{}, answer{err: api.ErrArg}

// over is an answer that tells a segment.
func over(s api.Segment) answer { return answer{s: s, ok: true} }

// same tells whether two answers are.
func (a answer) same(b answer) bool { return split.Same(a.s, b.s) && a.ok == b.ok && a.err == b.err }

// idle lets time go on.
func idle(f *framer.Framer, now int) answer {
	s, ok, err := f.Idle(now)
	return answer{s, ok, err}
}

// come lets a byte come.
func come(f *framer.Framer, b api.Byte) answer {
	s, ok, err := f.Byte(b)
	return answer{s, ok, err}
}

// check asks whether an answer is the one that is wanted.
func check(t *testing.T, what string, got, want answer) {
	t.Helper()
	if !got.same(want) {
		t.Fatalf("%s: %+v, want %+v", what, got, want)
	}
}

// checkNoneOpen asks whether no segment is open.
func checkNoneOpen(t *testing.T, f *framer.Framer) {
	t.Helper()
	if at, ok := f.Due(); at != 0 || ok {
		t.Fatalf("Due() = %d, %v, want 0, false", at, ok)
	}
	if n := f.Held(); n != 0 {
		t.Fatalf("Held() = %d, want 0", n)
	}
}

// checkOpen asks whether a segment is open, that is over then and of which so many bytes are held.
func checkOpen(t *testing.T, f *framer.Framer, due, held int) {
	t.Helper()
	if at, ok := f.Due(); at != due || !ok {
		t.Fatalf("Due() = %d, %v, want %d, true", at, ok, due)
	}
	if n := f.Held(); n != held {
		t.Fatalf("Held() = %d, want %d", n, held)
	}
}

// made is a new framer.
func made(t *testing.T, line api.Times, from int) *framer.Framer {
	t.Helper()
	f := framer.New(line, from)
	if f == nil {
		t.Fatalf("New(%+v, %d) = nil", line, from)
	}
	return f
}

// fed is a new framer to which bytes came at these times: 1, 2, 3 and so on; no segment may be over by them.
func fed(t *testing.T, line api.Times, from int, times ...int) *framer.Framer {
	t.Helper()
	f := made(t, line, from)
	for i, at := range times {
		check(t, "a byte", come(f, api.Byte{At: at, B: byte(i + 1)}), nothing)
	}
	return f
}

// numbers is the bytes 1, 2, 3 and so on.
func numbers(n int) []byte {
	b := make([]byte, n)
	for i := range b {
		b[i] = byte(i + 1)
	}
	return b
}

// A nil Framer, and one that no call made.

func TestAFramerThatIsNoneAnswersNothing(t *testing.T) {
	for _, f := range []*framer.Framer{nil, {}, (&framer.Framer{}).Clone(), new(framer.Framer)} {
		for _, at := range moments {
			for _, bad := range []bool{false, true} {
				check(t, "Byte", come(f, api.Byte{At: at, B: 7, Bad: bad}), refused)
			}
			check(t, "Idle", idle(f, at), refused)
			if err := f.Reset(at); err != api.ErrArg {
				t.Errorf("Reset(%d) = %v, want %v", at, err, api.ErrArg)
			}
			checkNoneOpen(t, f)
		}
	}
}

func TestCloneOfAFramerThatIsNoneIsNoneToo(t *testing.T) {
	var none *framer.Framer
	if none.Clone() != nil {
		t.Error("Clone of a nil framer is one")
	}
	unmade := &framer.Framer{}
	if c := unmade.Clone(); c == nil || c == unmade {
		t.Errorf("Clone of a framer that no call made = %p, that one is %p", c, unmade)
	}
}

// FR1: New.

func TestNewAtTheBoundsOfTimes(t *testing.T) {
	edges := []int{math.MinInt, -1, 0, 1, 2, 3, longest - 1, longest, longest + 1, math.MaxInt}
	for _, char := range edges {
		for _, short := range edges {
			for _, long := range edges {
				for _, turn := range edges {
					line := api.Times{Char: char, Short: short, Long: long, Turn: turn}
					if f := framer.New(line, 0); (f != nil) != clock.Right(line) {
						t.Fatalf("New(%+v, 0): there is one is %v", line, f != nil)
					}
				}
			}
		}
	}
}

func TestNewAtTheBoundsOfItsTime(t *testing.T) {
	for _, line := range lines {
		for _, from := range moments {
			f := framer.New(line, from)
			if may := from >= 0 && from <= lastTime; (f != nil) != may {
				t.Errorf("New(%+v, %d): there is one is %v", line, from, f != nil)
			}
		}
	}
	if framer.New(api.Times{}, -1) != nil {
		t.Error("New of two wrong things is a framer")
	}
}

func TestNewHasComeToItsTimeWithoutAByte(t *testing.T) {
	for _, line := range lines {
		for _, from := range []int{0, 1, 1000, lastTime - 1, lastTime} {
			f := made(t, line, from)
			checkNoneOpen(t, f)
			check(t, "Idle ahead of the beginning", idle(f, from-1), refused)
			check(t, "Byte ahead of the beginning", come(f, api.Byte{At: from - 1}), refused)
			checkNoneOpen(t, f)
			check(t, "Idle at the beginning", idle(f, from), nothing)
			check(t, "Byte at the beginning", come(f, api.Byte{At: from}), nothing)
			checkOpen(t, f, min(from+line.Long, lastTime), 1)
		}
	}
}

func TestNewFramersAreApart(t *testing.T) {
	f, g := made(t, small, 0), made(t, small, 0)
	check(t, "a byte", come(f, api.Byte{At: 9, B: 1}), nothing)
	checkNoneOpen(t, g)
	check(t, "Idle of the other one", idle(g, 0), nothing)
}

// FR1: Reset.

func TestResetLetsNothingHaveCome(t *testing.T) {
	for _, from := range []int{7, 8, 10, 11, 1000, lastTime} {
		f := fed(t, small, 0, 5, 7)
		if err := f.Reset(from); err != api.OK {
			t.Fatalf("Reset(%d) = %v", from, err)
		}
		checkNoneOpen(t, f)
		check(t, "Idle ahead of it", idle(f, from-1), refused)
		check(t, "Byte ahead of it", come(f, api.Byte{At: from - 1}), refused)
		check(t, "Idle at it", idle(f, from), nothing)
		check(t, "Idle at the end", idle(f, lastTime), nothing)
		checkNoneOpen(t, f)
	}
}

func TestResetRefusesATimeThatMayNotBeOrIsPast(t *testing.T) {
	for _, from := range []int{math.MinInt, -1, 0, 5, 6, lastTime + 1, 2 * lastTime, math.MaxInt} {
		f := fed(t, small, 0, 5, 6)
		check(t, "Idle", idle(f, 7), nothing)
		if err := f.Reset(from); err != api.ErrArg {
			t.Errorf("Reset(%d) = %v, want %v", from, err, api.ErrArg)
		}
		checkOpen(t, f, 10, 2)
		check(t, "Idle ahead", idle(f, 6), refused)
		check(t, "Idle", idle(f, 7), nothing)
		check(t, "a byte", come(f, api.Byte{At: 7, B: 3}), nothing)
		check(t, "Idle", idle(f, 11), over(api.Segment{Bytes: numbers(3), First: 5, Last: 7, Count: 3}))
	}
}

func TestResetDoesNotGoBack(t *testing.T) {
	f := made(t, small, 5)
	for _, c := range []struct {
		from int
		err  api.Errno
	}{{4, api.ErrArg}, {5, api.OK}, {9, api.OK}, {8, api.ErrArg}, {9, api.OK}, {lastTime, api.OK}, {lastTime - 1, api.ErrArg}, {lastTime, api.OK}} {
		if err := f.Reset(c.from); err != c.err {
			t.Errorf("Reset(%d) = %v, want %v", c.from, err, c.err)
		}
	}
}

func TestBehindAResetTheFirstSilenceIsFromThereOn(t *testing.T) {
	for _, line := range lines {
		silences := []int{0, 1, line.Short, line.Short + 1, line.Long - 1, line.Long, line.Long + 1, 1000 * line.Long}
		for _, silence := range silences {
			for _, from := range []int{50, 51, 50 + line.Long, 50 + 9*line.Long} {
				f := fed(t, line, 0, 50, 50)
				if err := f.Reset(from); err != api.OK {
					t.Fatalf("Reset(%d) = %v", from, err)
				}
				at := from + silence
				check(t, "a byte", come(f, api.Byte{At: at, B: 9}), nothing)
				want := api.Segment{Bytes: []byte{9}, First: at, Last: at, Count: 1, Gap: silence < line.Long}
				check(t, "Idle", idle(f, at+line.Long), over(want))
			}
		}
	}
}

func TestResetForgetsWhatWasWrongOfTheOpenSegment(t *testing.T) {
	f := made(t, small, 0)
	for i := range 300 {
		check(t, "a byte", come(f, api.Byte{At: 3 * i, B: 1, Bad: true}), nothing)
	}
	f.Reset(1000)
	check(t, "a byte", come(f, api.Byte{At: 1004, B: 2}), nothing)
	check(t, "Idle", idle(f, 1008), over(api.Segment{Bytes: []byte{2}, First: 1004, Last: 1004, Count: 1}))
}

func TestResetKeepsTheTimesOfTheLine(t *testing.T) {
	for _, line := range lines {
		f := made(t, line, 0)
		for from := range 3 {
			f.Reset(from)
		}
		check(t, "a byte", come(f, api.Byte{At: 2 + line.Long}), nothing)
		checkOpen(t, f, 2+2*line.Long, 1)
	}
}

// FR2: Idle.

func TestIdleOfTheExample(t *testing.T) {
	f := made(t, small, 0)
	check(t, "Byte", come(f, api.Byte{At: 5, B: 7}), nothing)
	check(t, "Idle(8)", idle(f, 8), nothing)
	check(t, "Idle(9)", idle(f, 9), over(api.Segment{Bytes: []byte{7}, First: 5, Last: 5, Count: 1}))
}

func TestIdleTellsASegmentThatIsOverOnce(t *testing.T) {
	for _, line := range lines {
		for _, late := range []int{0, 1, line.Long, 1000 * line.Long} {
			first, last := line.Long, line.Long+1
			f := fed(t, line, 0, first, last)
			due := last + line.Long
			for _, now := range []int{last, last, due - 2, due - 1, due - 1} {
				check(t, "Idle ahead", idle(f, max(now, last)), nothing)
				checkOpen(t, f, due, 2)
			}
			check(t, "Idle", idle(f, due+late), over(api.Segment{Bytes: numbers(2), First: first, Last: last, Count: 2}))
			checkNoneOpen(t, f)
			check(t, "Idle at the same time", idle(f, due+late), nothing)
			check(t, "Idle ahead of it", idle(f, due+late-1), refused)
			check(t, "Idle later", idle(f, lastTime), nothing)
			checkNoneOpen(t, f)
		}
	}
}

func TestIdleRefusesATimeThatMayNotBeOrIsPast(t *testing.T) {
	for _, now := range []int{math.MinInt, -lastTime, -1, 0, 5, 6, lastTime + 1, math.MaxInt} {
		f := fed(t, small, 0, 5, 6)
		check(t, "Idle", idle(f, 7), nothing)
		for range 2 {
			check(t, "Idle that is wrong", idle(f, now), refused)
			checkOpen(t, f, 10, 2)
		}
		check(t, "Idle", idle(f, 7), nothing)
		check(t, "Idle", idle(f, 10), over(api.Segment{Bytes: numbers(2), First: 5, Last: 6, Count: 2}))
		check(t, "Idle that is wrong", idle(f, now), refused)
	}
}

func TestIdleWithoutAByteLetsTimeGoOn(t *testing.T) {
	f := made(t, small, 0)
	for _, now := range []int{0, 0, 1, 100, lastTime - 1, lastTime, lastTime} {
		check(t, "Idle", idle(f, now), nothing)
		check(t, "Idle ahead", idle(f, now-1), refused)
		check(t, "Byte ahead", come(f, api.Byte{At: now - 1}), refused)
		checkNoneOpen(t, f)
	}
}

func TestTimeThatGoesOnDoesNotShortenASilence(t *testing.T) {
	f := fed(t, small, 0, 4)
	for now := 4; now <= 7; now++ {
		check(t, "Idle", idle(f, now), nothing)
	}
	check(t, "a byte", come(f, api.Byte{At: 7, B: 2}), nothing)
	check(t, "Idle", idle(f, 11), over(api.Segment{Bytes: numbers(2), First: 4, Last: 7, Count: 2, Gap: true}))

	f = made(t, small, 0)
	for now := range 5 {
		check(t, "Idle", idle(f, now), nothing)
	}
	check(t, "the first byte", come(f, api.Byte{At: 4, B: 1}), nothing)
	check(t, "Idle", idle(f, 8), over(api.Segment{Bytes: numbers(1), First: 4, Last: 4, Count: 1}))
}

// FR2: Byte.

func TestByteTellsTheSegmentThatIsOver(t *testing.T) {
	for _, line := range lines {
		for _, silence := range []int{line.Long, line.Long + 1, 1000 * line.Long} {
			at := 2*line.Long + silence
			f := fed(t, line, 0, line.Long, 2*line.Long-1, 2*line.Long)
			want := api.Segment{Bytes: numbers(3), First: line.Long, Last: 2 * line.Long, Count: 3, Gap: line.Long-1 > line.Short}
			check(t, "Byte", come(f, api.Byte{At: at, B: 9, Bad: true}), over(want))
			checkOpen(t, f, at+line.Long, 1)
			check(t, "Byte", come(f, api.Byte{At: at, B: 8}), nothing)
			want = api.Segment{Bytes: []byte{9, 8}, First: at, Last: at, Count: 2, Bad: true}
			check(t, "Byte", come(f, api.Byte{At: at + line.Long, B: 7}), over(want))
			want = api.Segment{Bytes: []byte{7}, First: at + line.Long, Last: at + line.Long, Count: 1}
			check(t, "Idle", idle(f, at+2*line.Long), over(want))
		}
	}
}

func TestByteTellsNothingThatIdleTold(t *testing.T) {
	f := fed(t, small, 0, 4)
	check(t, "Idle", idle(f, 8), over(api.Segment{Bytes: numbers(1), First: 4, Last: 4, Count: 1}))
	check(t, "Byte", come(f, api.Byte{At: 8, B: 9}), nothing)
	check(t, "Idle", idle(f, 12), over(api.Segment{Bytes: []byte{9}, First: 8, Last: 8, Count: 1}))
}

func TestByteAtTheEdgesOfTheSilences(t *testing.T) {
	for _, line := range lines {
		for _, silence := range []int{0, 1, line.Char, line.Short - 1, line.Short, line.Short + 1, line.Long - 1} {
			last := line.Long + silence
			if silence >= line.Long {
				continue
			}
			f := fed(t, line, 0, line.Long, last, last)
			want := api.Segment{Bytes: numbers(3), First: line.Long, Last: last, Count: 3, Gap: silence > line.Short}
			check(t, "Idle", idle(f, last+line.Long), over(want))
		}
	}
}

func TestTheFirstByteAtTheEdgesOfItsSilence(t *testing.T) {
	for _, line := range lines {
		for _, silence := range []int{0, 1, line.Short, line.Short + 1, line.Long - 1, line.Long, line.Long + 1} {
			for _, from := range []int{0, 1, 7777} {
				at := from + silence
				f := fed(t, line, from, at, at)
				want := api.Segment{Bytes: numbers(2), First: at, Last: at, Count: 2, Gap: silence < line.Long}
				check(t, "Idle", idle(f, at+line.Long), over(want))
				// What was wrong of the first segment is not wrong of the next one.
				at += line.Long
				check(t, "a byte", come(f, api.Byte{At: at, B: 5}), nothing)
				check(t, "Idle", idle(f, at+line.Long), over(api.Segment{Bytes: []byte{5}, First: at, Last: at, Count: 1}))
			}
		}
	}
}

func TestByteRefusesATimeThatMayNotBeOrIsPast(t *testing.T) {
	for _, at := range []int{math.MinInt, -lastTime, -1, 0, 5, 6, lastTime + 1, math.MaxInt} {
		f := fed(t, small, 0, 5, 6)
		check(t, "Idle", idle(f, 7), nothing)
		for range 2 {
			check(t, "Byte that is wrong", come(f, api.Byte{At: at, B: 3, Bad: true}), refused)
			checkOpen(t, f, 10, 2)
		}
		check(t, "Byte", come(f, api.Byte{At: 7, B: 3}), nothing)
		check(t, "Idle", idle(f, 11), over(api.Segment{Bytes: numbers(3), First: 5, Last: 7, Count: 3}))
		check(t, "Byte that is wrong", come(f, api.Byte{At: at, B: 3, Bad: true}), refused)
		checkNoneOpen(t, f)
	}
}

func TestByteOfEachByteSpoiltOrNot(t *testing.T) {
	for b := range 256 {
		for number := range 8 {
			f := made(t, small, 0)
			for i := range 3 {
				check(t, "Byte", come(f, api.Byte{At: 4 + i, B: byte(b + i), Bad: number>>i&1 != 0}), nothing)
			}
			want := api.Segment{Bytes: []byte{byte(b), byte(b + 1), byte(b + 2)}, First: 4, Last: 6, Count: 3, Bad: number != 0}
			check(t, "Idle", idle(f, 10), over(want))
		}
	}
}

func TestOfALongSegmentTheFirst256BytesAreTold(t *testing.T) {
	for _, n := range []int{1, 2, 255, 256, 257, 258, 511, 512, 513, 65536, 70000} {
		f := made(t, small, 0)
		want := api.Segment{First: 4, Last: 3 + n, Count: n}
		for i := range n {
			b := byte(i*7 + i/256)
			check(t, "Byte", come(f, api.Byte{At: 4 + i, B: b}), nothing)
			if i < room {
				want.Bytes = append(want.Bytes, b)
			}
			checkOpen(t, f, 8+i, min(i+1, room))
		}
		check(t, "Byte", come(f, api.Byte{At: want.Last + 4, B: 9}), over(want))
		checkOpen(t, f, want.Last+8, 1)
	}
}

func TestTheBytesBehindTheFirst256AreLookedAtToo(t *testing.T) {
	const n = 270
	for place := 1; place < n; place++ {
		for _, late := range []int{0, 2} {
			for _, bad := range []bool{false, true} {
				f := made(t, small, 0)
				at := 3
				for i := range n {
					at++
					if i == place {
						at += late
					}
					check(t, "Byte", come(f, api.Byte{At: at, B: byte(i + 1), Bad: bad && i == place}), nothing)
				}
				want := api.Segment{Bytes: numbers(room), First: 4, Last: at, Count: n, Gap: late > 0, Bad: bad}
				check(t, "Idle", idle(f, at+4), over(want))
			}
		}
	}
}

func TestAtTheEndOfAllTime(t *testing.T) {
	for _, line := range lines {
		last := lastTime - line.Long
		f := fed(t, line, 0, last)
		checkOpen(t, f, lastTime, 1)
		check(t, "Idle", idle(f, lastTime-1), nothing)
		check(t, "Idle at the end", idle(f, lastTime), over(api.Segment{Bytes: numbers(1), First: last, Last: last, Count: 1}))
		check(t, "Byte at the end", come(f, api.Byte{At: lastTime, B: 2}), nothing)
		checkOpen(t, f, lastTime, 1)

		// One tick later it would be over beyond the end, so it never is.
		f = fed(t, line, 0, last+1)
		checkOpen(t, f, lastTime, 1)
		for range 2 {
			check(t, "Idle at the end", idle(f, lastTime), nothing)
			checkOpen(t, f, lastTime, 1)
		}
		for i := range 300 {
			check(t, "Byte at the end", come(f, api.Byte{At: lastTime, B: 2}), nothing)
			checkOpen(t, f, lastTime, min(i+2, room))
		}
		check(t, "Idle beyond the end", idle(f, lastTime+1), refused)
		check(t, "Idle far beyond the end", idle(f, lastTime+line.Long), refused)
	}
}

// FR3: Due, Held and Clone.

func TestDueIsLastAndLong(t *testing.T) {
	for _, line := range lines {
		for _, last := range []int{0, 1, 1000, lastTime - longest - 1, lastTime - line.Long - 1, lastTime - line.Long, lastTime - line.Long + 1, lastTime - 1, lastTime} {
			f := fed(t, line, 0, last)
			due := min(last+line.Long, lastTime)
			checkOpen(t, f, due, 1)
			check(t, "Idle", idle(f, max(last, due-1)), nothing)
			checkOpen(t, f, due, 1)
		}
	}
}

func TestDueGoesOnWithEachByte(t *testing.T) {
	f := made(t, small, 0)
	for i, at := range []int{0, 0, 1, 3, 6, 9, 9} {
		check(t, "Byte", come(f, api.Byte{At: at}), nothing)
		checkOpen(t, f, at+4, i+1)
		checkOpen(t, f, at+4, i+1)
	}
}

func TestACloneTellsWhatItsOriginTells(t *testing.T) {
	line := lines[3]
	for n := range 300 {
		f := made(t, line, 7)
		for i := range n {
			check(t, "Byte", come(f, api.Byte{At: 12 + i, B: byte(i + 1), Bad: i == 5}), nothing)
		}
		last := 11 + n
		want := nothing
		if n > 0 {
			want = over(api.Segment{Bytes: numbers(min(n, room)), First: 12, Last: last, Count: n, Bad: n > 5})
		}
		for _, g := range []*framer.Framer{f.Clone(), f.Clone().Clone(), f} {
			if n > 0 {
				checkOpen(t, g, last+5, min(n, room))
				check(t, "Idle ahead", idle(g, last-1), refused)
			} else {
				checkNoneOpen(t, g)
				check(t, "Idle ahead", idle(g, 6), refused)
			}
			check(t, "Byte", come(g, api.Byte{At: last + 5, B: 9}), want)
			check(t, "Idle", idle(g, last+10), over(api.Segment{Bytes: []byte{9}, First: last + 5, Last: last + 5, Count: 1}))
		}
	}
}

func TestACloneKnowsFromWhenOnTheLineWasSilent(t *testing.T) {
	for silence := range 6 {
		f := made(t, small, 0)
		f.Reset(3)
		g := f.Clone()
		at := 3 + silence
		for _, x := range []*framer.Framer{g, f} {
			check(t, "Byte", come(x, api.Byte{At: at, B: 1}), nothing)
			check(t, "Idle", idle(x, at+4), over(api.Segment{Bytes: numbers(1), First: at, Last: at, Count: 1, Gap: silence < 4}))
		}
	}
}

func TestACloneIsApart(t *testing.T) {
	for n := range 300 {
		f := made(t, small, 0)
		var bytes []byte
		for i := range n {
			check(t, "Byte", come(f, api.Byte{At: 4 + i, B: byte(i)}), nothing)
			bytes = append(bytes, byte(i))
		}
		g := f.Clone()
		last := 4 + n
		check(t, "Byte", come(f, api.Byte{At: last, B: 100}), nothing)
		check(t, "Byte of the clone", come(g, api.Byte{At: last, B: 200, Bad: true}), nothing)
		checkOpen(t, f, last+4, min(n+1, room))
		check(t, "Byte of the clone", come(g, api.Byte{At: last + 1, B: 201}), nothing)
		checkOpen(t, g, last+5, min(n+2, room))
		checkOpen(t, f, last+4, min(n+1, room))

		first, second := idle(f, last+4), idle(g, last+5)
		want := over(api.Segment{Bytes: append(slices.Clone(bytes), 100)[:min(n+1, room)], First: 4, Last: last, Count: n + 1})
		check(t, "Idle", first, want)
		check(t, "Idle of the clone", second, over(api.Segment{
			Bytes: append(slices.Clone(bytes), 200, 201)[:min(n+2, room)], First: 4, Last: last + 1, Count: n + 2, Bad: true,
		}))
		for i := range second.s.Bytes {
			second.s.Bytes[i] ^= 255
		}
		check(t, "what Idle told", first, want)
	}
}

func TestAResetOfACloneDoesNotTouchItsOrigin(t *testing.T) {
	f := fed(t, small, 0, 4, 5)
	g := f.Clone()
	if err := g.Reset(8); err != api.OK {
		t.Fatalf("Reset(8) = %v", err)
	}
	checkOpen(t, f, 9, 2)
	checkNoneOpen(t, g)
	check(t, "Idle", idle(f, 5), nothing)
	check(t, "Idle of the clone", idle(g, 7), refused)
	g = f.Clone()
	if err := f.Reset(lastTime); err != api.OK {
		t.Fatalf("Reset = %v", err)
	}
	check(t, "Idle of the clone", idle(g, 9), over(api.Segment{Bytes: numbers(2), First: 4, Last: 5, Count: 2}))
}

// What is told is new memory.

func TestWhatIsToldIsApartFromTheFramer(t *testing.T) {
	for _, n := range []int{1, 5, 8, 255, 256, 257} {
		f := made(t, small, 0)
		at := 0
		var all []answer
		for round := range 4 {
			at += 4
			for i := range n {
				at++
				got := come(f, api.Byte{At: at, B: byte(i + 1 + round)})
				if !got.ok {
					continue
				}
				all = append(all, got)
				spoil(t, got.s.Bytes)
			}
		}
		copied := f.Clone()
		last := idle(f, at+4)
		spoil(t, last.s.Bytes)
		check(t, "Idle of the clone", idle(copied, at+4), over(api.Segment{
			Bytes: numbers(room + 3)[3:][:min(n, room)], First: at - n + 1, Last: at, Count: n,
		}))
		for i, got := range append(all, last) {
			for k, b := range got.s.Bytes {
				if want := byte(k+1+i) ^ 255; b != want {
					t.Fatalf("with %d bytes, byte %d of what was told as number %d is %d, want %d", n, k, i, b, want)
				}
			}
		}
	}
}

// spoil writes over bytes, and over the memory behind their length, where nothing may stand.
func spoil(t *testing.T, b []byte) {
	t.Helper()
	for i, x := range b[:cap(b)] {
		if i >= len(b) && x != 0 {
			t.Fatalf("behind the length of what is told stands %d", x)
		}
		b[:cap(b)][i] = x ^ 255
	}
}

// FR4: what follows.

// feed is all that a framer tells of bytes and of a silence behind them; ahead of each byte and of the end it is told of the times that between answers.
func feed(t *testing.T, l []api.Byte, line api.Times, from int, between func(f *framer.Framer, now, next int) []int) []api.Segment {
	t.Helper()
	f := made(t, line, from)
	var all []api.Segment
	now := from
	keep := func(a answer) {
		if a.err != api.OK {
			t.Fatalf("an error behind %d: %v", now, a.err)
		}
		if a.ok {
			all = append(all, a.s)
		}
		if n := f.Held(); n > room {
			t.Fatalf("%d bytes are held", n)
		}
	}
	for _, b := range l {
		for _, at := range between(f, now, b.At) {
			keep(idle(f, at))
		}
		keep(come(f, b))
		now = b.At
	}
	for _, at := range between(f, now, now+line.Long) {
		keep(idle(f, at))
	}
	keep(idle(f, now+line.Long))
	checkNoneOpen(t, f)
	return all
}

// never tells of no time.
func never(*framer.Framer, int, int) []int { return nil }

// always tells of each tick up to the next byte.
func always(_ *framer.Framer, now, next int) []int {
	var l []int
	for at := now; at <= next; at++ {
		l = append(l, at)
	}
	return l
}

// due tells of the time at which the segment that is open is over, if no byte comes ahead of it.
func due(f *framer.Framer, _, next int) []int {
	if at, ok := f.Due(); ok && at <= next {
		return []int{at}
	}
	return nil
}

// sometimes tells of a few times, in order.
func sometimes(r *rand.Rand) func(*framer.Framer, int, int) []int {
	return func(_ *framer.Framer, now, next int) []int {
		l := make([]int, r.Intn(4))
		for i := range l {
			l[i] = now + r.Intn(next-now+1)
		}
		slices.Sort(l)
		return l
	}
}

// checkFeed asks whether a framer tells of bytes what layer 9 tells of them.
func checkFeed(t *testing.T, l []api.Byte, line api.Times, from int, between func(*framer.Framer, int, int) []int) {
	t.Helper()
	got, want := feed(t, l, line, from, between), split.All(l, line, from)
	if !slices.EqualFunc(got, want, split.Same) {
		t.Fatalf("of %d bytes from %d on, %+v: %+v, want %+v", len(l), from, line, got, want)
	}
}

func TestAllShortListsOfSilences(t *testing.T) {
	const most, kinds = 5, 7
	for _, line := range lines[:4] {
		l := make([]api.Byte, most)
		for number := range kinds * kinds * kinds * kinds * kinds {
			at := 2
			for i := range l {
				at += number % kinds
				number /= kinds
				l[i] = api.Byte{At: at, B: byte(i + 1)}
			}
			checkFeed(t, l, line, 2, never)
			checkFeed(t, l, line, 2, always)
			checkFeed(t, l, line, 2, due)
		}
	}
}

// stream is bytes that came one behind the other, with silences of all kinds, and now and then very many without a long one.
func stream(r *rand.Rand, line api.Times, from int) []api.Byte {
	var l []api.Byte
	at := from
	edges := []int{0, 1, line.Char, line.Short, line.Short + 1, line.Long - 1, line.Long, line.Long + 1, 3 * line.Long}
	for range 1 + r.Intn(6) {
		kinds, n := len(edges), 1+r.Intn(8)
		if r.Intn(3) == 0 {
			kinds, n = 3+r.Intn(3), 240+r.Intn(300)
		}
		for range n {
			at += edges[r.Intn(kinds)]
			l = append(l, api.Byte{At: at, B: byte(r.Intn(256)), Bad: r.Intn(50) == 0})
		}
		at += line.Long * r.Intn(2)
	}
	return l
}

func TestManyStreams(t *testing.T) {
	r := rand.New(rand.NewSource(10))
	for _, line := range lines {
		for range 150 {
			from := r.Intn(3) * r.Intn(100)
			l := stream(r, line, from)
			checkFeed(t, l, line, from, never)
			checkFeed(t, l, line, from, due)
			checkFeed(t, l, line, from, sometimes(r))
		}
	}
}

func TestFramesOnALineAreFine(t *testing.T) {
	line, err := clock.Of(9600, 1000000, 0)
	if err != api.OK {
		t.Fatal(err)
	}
	var l []api.Byte
	at := 0
	for _, body := range [][]byte{{1, 7}, {1, 7, 0}, {1, 6, 0, 3, 0, 9}, make([]byte, 254)} {
		at += line.Long - line.Char
		for _, b := range crc.Append(body) {
			at += line.Char
			l = append(l, api.Byte{At: at, B: b})
		}
	}
	checkFeed(t, l, line, 0, due)
	all := feed(t, l, line, 0, never)
	if len(all) != 4 {
		t.Fatalf("%d segments, want 4", len(all))
	}
	for _, s := range all {
		if fault := split.Fault(s); fault != split.Fine {
			t.Errorf("Fault(%+v) = %d", s, fault)
		}
	}
}

// pair is a framer, and what must come of all that is done with it, by layer 9.
type pair struct {
	f         *framer.Framer
	line      api.Times
	from, now int
	came      []api.Byte // since New, Reset, or the last segment that was told
}

// open is the open segment, if there is one.
func (p *pair) open() []api.Segment { return split.All(p.came, p.line, p.from) }

// may tells whether time can go on to one.
func (p *pair) may(at int) bool { return at >= p.now && at <= lastTime }

// idle is what Idle answers.
func (p *pair) idle(now int) answer {
	if !p.may(now) {
		return refused
	}
	p.now = now
	open := p.open()
	if len(open) == 0 || now-open[0].Last < p.line.Long {
		return nothing
	}
	p.from, p.came = open[0].Last, nil
	return over(open[0])
}

// come is what Byte answers.
func (p *pair) come(b api.Byte) answer {
	a := p.idle(b.At)
	if a.err == api.OK {
		p.came = append(p.came, b)
	}
	return a
}

// reset is what Reset answers.
func (p *pair) reset(from int) api.Errno {
	if !p.may(from) {
		return api.ErrArg
	}
	p.from, p.now, p.came = from, from, nil
	return api.OK
}

// check asks for all that a framer tells without being changed.
func (p *pair) check(t *testing.T) {
	t.Helper()
	if open := p.open(); len(open) > 0 {
		checkOpen(t, p.f, min(open[0].Last+p.line.Long, lastTime), len(open[0].Bytes))
		return
	}
	checkNoneOpen(t, p.f)
}

// step does one thing, by chance.
func (p *pair) step(t *testing.T, r *rand.Rand) {
	t.Helper()
	times := []int{p.now, p.now + 1, p.now + p.line.Short, p.now + p.line.Short + 1, p.now + p.line.Long - 1, p.now + p.line.Long, p.now + 2*p.line.Long, p.now - 1, lastTime + 1, -1}
	at := times[r.Intn(len(times))]
	switch r.Intn(12) {
	case 0:
		if got, want := p.f.Reset(at), p.reset(at); got != want {
			t.Fatalf("Reset(%d) = %v, want %v", at, got, want)
		}
	case 1:
		// What is done with the other one must not be seen in the one that goes on.
		other := p.f
		p.f = p.f.Clone()
		if r.Intn(2) == 0 {
			p.f, other = other, p.f
		}
		come(other, api.Byte{At: p.now, B: 99, Bad: true})
		other.Reset(lastTime)
	case 2, 3, 4:
		check(t, "Idle", idle(p.f, at), p.idle(at))
	default:
		b := api.Byte{At: at, B: byte(r.Intn(256)), Bad: r.Intn(9) == 0}
		check(t, "Byte", come(p.f, b), p.come(b))
	}
	p.check(t)
}

func TestLongRunsOfAllCalls(t *testing.T) {
	r := rand.New(rand.NewSource(11))
	for _, line := range lines {
		for _, from := range []int{0, 9, lastTime - 20*line.Long, lastTime - line.Long} {
			for range 40 {
				p := &pair{f: made(t, line, from), line: line, from: from, now: from}
				for range 80 {
					p.step(t, r)
				}
			}
		}
	}
}
