package event_test

import (
	"bytes"
	"fmt"
	"math"
	"math/rand"
	"slices"
	"testing"

	"bilge/api"
	"bilge/event"
)

// most is how many events a log has at most.
const most = 64

// messages are some numbers of messages: the edges, and such whose two bytes are not the same.
var messages = []uint16{0, 1, 9, 255, 256, 258, 32767, 32768, 40000, 65280, 65534, 65535}

// codes are what an answer can have, and which of the bits 0 and 1 that is.
var codes = map[api.Errno]byte{
	api.OK: 0, api.BadFunction: 1, api.BadAddress: 1, api.BadValue: 1, api.BadDevice: 2,
	5: 0, 6: 0, 7: 0, 8: 0, 9: 0, 10: 0,
	api.ErrArg: 0, api.ErrShort: 0, api.ErrLong: 0, api.ErrForm: 0, api.ErrNone: 0, api.ErrThere: 0, api.ErrFull: 0, api.ErrState: 0, api.ErrScript: 0,
	-1: 0, -2: 0, -3: 0, -4: 0, -255: 0, -256: 0, math.MinInt: 0, math.MinInt + 1: 0, math.MinInt + 4: 0,
	128: 0, 129: 0, 130: 0, 132: 0, 255: 0, 256: 0, 257: 0, 258: 0, 259: 0, 260: 0, 65537: 0, 65540: 0, 1<<32 + 1: 0, 1<<32 + 4: 0, math.MaxInt - 1: 0, math.MaxInt: 0,
}

// plain is what a log should be: all events since it was wiped, the first one first, and all messages since it restarted.
type plain struct {
	events []byte
	count  int
}

// put lets events have happened.
func (p *plain) put(events ...byte) { p.events = append(slices.Clone(p.events), events...) }

// list is what it should list.
func (p plain) list() []byte {
	l := slices.Clone(p.events[max(0, len(p.events)-most):])
	slices.Reverse(l)
	return l
}

// short is what it should say of the count.
func (p plain) short() []byte {
	n := p.count % 65536
	return []byte{0, 0, byte(n / 256), byte(n % 256)}
}

// long is what it should say of all.
func (p plain) long(m uint16) []byte {
	l := p.list()
	b := []byte{byte(6 + len(l))}
	b = append(b, p.short()...)
	b = append(b, byte(m/256), byte(m%256))
	return append(b, l...)
}

// newLog is a log in which nothing happened.
func newLog(t *testing.T) *event.Log {
	t.Helper()
	l := event.New()
	if l == nil {
		t.Fatal("New() = nil")
	}
	return l
}

// bools are the lowest bits of a number, the lowest one first.
func bools(n, many int) []bool {
	l := make([]bool, many)
	for k := range l {
		l[k] = n>>k&1 == 1
	}
	return l
}

// heard lets a frame have come to both: the bits of n are what Heard is given, its first one the lowest.
func heard(l *event.Log, p *plain, n int) {
	f := bools(n, 4)
	l.Heard(f[0], f[1], f[2], f[3])
	e := byte(128)
	for k, w := range []byte{2, 16, 32, 64} {
		if f[k] {
			e += w
		}
	}
	p.put(e)
}

// said lets an answer have gone from both.
func said(l *event.Log, p *plain, code api.Errno, listening bool) {
	l.Said(code, listening)
	e := 64 + codes[code]
	if listening {
		e += 32
	}
	p.put(e)
}

// restarted lets both have begun anew.
func restarted(l *event.Log, p *plain, wipe bool) {
	l.Restarted(wipe)
	if wipe {
		p.events = nil
	}
	p.put(0)
	p.count = 0
}

// done lets so many messages be finished in both.
func done(l *event.Log, p *plain, n int) {
	for range n {
		l.Done()
	}
	p.count += n
}

// different lets n events happen in both, of which no two that follow one another are the same.
func different(l *event.Log, p *plain, n int) {
	for i := range n {
		switch i % 5 {
		case 0:
			heard(l, p, i/5%16)
		case 1:
			said(l, p, api.Errno(i/5%5), false)
		case 2:
			l.Entered()
			p.put(4)
		case 3:
			said(l, p, api.Errno(i/5%5), true)
		case 4:
			heard(l, p, 15-i/5%16)
		}
	}
}

// checkIs asks a log for all that it is, twice: the asking changes nothing.
func checkIs(t *testing.T, l *event.Log, want plain) {
	t.Helper()
	for range 2 {
		if got := l.Count(); int(got) != want.count%65536 {
			t.Fatalf("Count() = %d, want %d", got, want.count%65536)
		}
		if got := l.List(); !bytes.Equal(got, want.list()) {
			t.Fatalf("List() = %v, want %v", got, want.list())
		}
		if got := l.Short(); !bytes.Equal(got, want.short()) {
			t.Fatalf("Short() = %v, want %v", got, want.short())
		}
		for _, m := range messages {
			if got := l.Long(m); !bytes.Equal(got, want.long(m)) {
				t.Fatalf("Long(%d) = %v, want %v", m, got, want.long(m))
			}
		}
	}
}

// full is a log in which there were more events than it can have, and a count of two bytes that are not the same.
func full(t *testing.T) (*event.Log, plain) {
	t.Helper()
	l, p := newLog(t), plain{}
	different(l, &p, 100)
	done(l, &p, 515)
	checkIs(t, l, p)
	return l, p
}

// The sentence above the rules: a nil log, and one that no call made.

// doAll does all that can change a log.
func doAll(l *event.Log) {
	for n := range 16 {
		heard(l, &plain{}, n)
	}
	for code := range codes {
		l.Said(code, false)
		l.Said(code, true)
	}
	l.Entered()
	l.Done()
	l.Restarted(false)
	l.Done()
	l.Restarted(true)
	l.Entered()
	l.Done()
}

// checkNone asks a log that keeps nothing for all that it is.
func checkNone(t *testing.T, l *event.Log, behind string) {
	t.Helper()
	if n := l.Count(); n != 0 {
		t.Fatalf("Count() behind %s = %d, want 0", behind, n)
	}
	if b := l.List(); len(b) != 0 {
		t.Fatalf("List() behind %s = %v, want nothing", behind, b)
	}
	if b := l.Short(); len(b) != 0 {
		t.Fatalf("Short() behind %s = %v, want nothing", behind, b)
	}
	for _, m := range messages {
		if b := l.Long(m); len(b) != 0 {
			t.Fatalf("Long(%d) behind %s = %v, want nothing", m, behind, b)
		}
	}
}

// checkUnmade lets all that can be done with a log be done with one that keeps nothing.
func checkUnmade(t *testing.T, l *event.Log) {
	t.Helper()
	checkNone(t, l, "nothing")
	for name, change := range changes() {
		change(l, &plain{})
		checkNone(t, l, name)
	}
	doAll(l)
	checkNone(t, l, "all calls")
}

func TestNilLog(t *testing.T) {
	var l *event.Log
	checkUnmade(t, l)
	if c := l.Clone(); c != nil {
		t.Errorf("Clone() = %v, want nil", c)
	}
	checkUnmade(t, l.Clone())
}

func TestLogThatNoCallMade(t *testing.T) {
	var none event.Log
	for _, l := range []*event.Log{{}, new(event.Log), &none} {
		checkUnmade(t, l)
		c := l.Clone()
		if c == nil || c == l {
			t.Fatalf("Clone() of %p = %p, want another one", l, c)
		}
		checkUnmade(t, c)
		checkUnmade(t, c.Clone())
		checkUnmade(t, l)
	}
}

// EV1: New.

func TestNew(t *testing.T) {
	l := newLog(t)
	checkIs(t, l, plain{})
	if got := l.Short(); !bytes.Equal(got, []byte{0, 0, 0, 0}) {
		t.Errorf("Short() = %v", got)
	}
	if got := l.Long(258); !bytes.Equal(got, []byte{6, 0, 0, 0, 0, 1, 2}) {
		t.Errorf("Long(258) = %v", got)
	}
}

func TestNewLogsAreApart(t *testing.T) {
	a, b := newLog(t), newLog(t)
	a.Entered()
	a.Done()
	checkIs(t, b, plain{})
	b.Said(api.OK, false)
	b.Said(api.BadDevice, false)
	checkIs(t, a, plain{[]byte{4}, 1})
	a.Restarted(true)
	checkIs(t, b, plain{[]byte{64, 66}, 0})
	checkIs(t, newLog(t), plain{})
}

// EV1: Heard.

func TestHeardOfTheExample(t *testing.T) {
	l := newLog(t)
	l.Heard(false, false, false, true)
	l.Done()
	checkIs(t, l, plain{[]byte{192}, 1})
	if got := l.Short(); !bytes.Equal(got, []byte{0, 0, 0, 1}) {
		t.Errorf("Short() = %v", got)
	}
	if got := l.Long(3); !bytes.Equal(got, []byte{7, 0, 0, 0, 1, 0, 3, 192}) {
		t.Errorf("Long(3) = %v", got)
	}
}

func TestHeardOfEachFlag(t *testing.T) {
	for _, c := range []struct {
		spoilt, over, listening, all bool
		want                         byte
	}{
		{false, false, false, false, 128},
		{true, false, false, false, 130},
		{false, true, false, false, 144},
		{true, true, false, false, 146},
		{false, false, true, false, 160},
		{true, false, true, false, 162},
		{false, true, true, false, 176},
		{true, true, true, false, 178},
		{false, false, false, true, 192},
		{true, false, false, true, 194},
		{false, true, false, true, 208},
		{true, true, false, true, 210},
		{false, false, true, true, 224},
		{true, false, true, true, 226},
		{false, true, true, true, 240},
		{true, true, true, true, 242},
	} {
		l := newLog(t)
		l.Heard(c.spoilt, c.over, c.listening, c.all)
		checkIs(t, l, plain{[]byte{c.want}, 0})
	}
}

// EV1: Said.

func TestSaidOfEachCode(t *testing.T) {
	for _, c := range []struct {
		code        api.Errno
		quiet, only byte
	}{
		{api.OK, 64, 96},
		{api.BadFunction, 65, 97},
		{api.BadAddress, 65, 97},
		{api.BadValue, 65, 97},
		{api.BadDevice, 66, 98},
		{5, 64, 96},
		{api.ErrArg, 64, 96},
		{api.ErrScript, 64, 96},
		{-1, 64, 96},
	} {
		l := newLog(t)
		l.Said(c.code, false)
		checkIs(t, l, plain{[]byte{c.quiet}, 0})
		l.Said(c.code, true)
		checkIs(t, l, plain{[]byte{c.quiet, c.only}, 0})
	}
}

func TestSaidOfNumbersThatAreNoCode(t *testing.T) {
	for code, low := range codes {
		l := newLog(t)
		l.Said(code, false)
		if got := l.List(); !bytes.Equal(got, []byte{64 + low}) {
			t.Errorf("List() behind Said(%d, false) = %v, want %d", code, got, 64+low)
		}
		l.Said(code, true)
		if got := l.List(); !bytes.Equal(got, []byte{96 + low, 64 + low}) {
			t.Errorf("List() behind Said(%d, true) = %v, want %d, %d", code, got, 96+low, 64+low)
		}
	}
	for n := -300; n <= 300; n++ {
		l, p := newLog(t), plain{}
		said(l, &p, api.Errno(n), n%2 == 0)
		checkIs(t, l, p)
	}
}

// EV1: Entered.

func TestEntered(t *testing.T) {
	l := newLog(t)
	l.Entered()
	checkIs(t, l, plain{[]byte{4}, 0})
	l.Entered()
	checkIs(t, l, plain{[]byte{4, 4}, 0})
}

func TestEventsDoNotChangeTheCount(t *testing.T) {
	l, p := newLog(t), plain{}
	done(l, &p, 7)
	different(l, &p, 3*most)
	checkIs(t, l, p)
	if got := l.Count(); got != 7 {
		t.Errorf("Count() = %d, want 7", got)
	}
}

// EV1: how many events there are.

func TestAllEventsThatThereIsRoomForAndSomeBeyond(t *testing.T) {
	l, p := newLog(t), plain{}
	for n := range 3*most + 2 {
		if got := len(l.List()); got != min(n, most) {
			t.Fatalf("behind %d events there are %d", n, got)
		}
		checkIs(t, l, p)
		heard(l, &p, n*n%16)
	}
}

func TestTheFirstOneOfAllGoes(t *testing.T) {
	for name, last := range map[string]struct {
		do   func(l *event.Log)
		want byte
	}{
		"Heard":     {func(l *event.Log) { l.Heard(false, true, false, false) }, 144},
		"Said":      {func(l *event.Log) { l.Said(api.BadDevice, true) }, 98},
		"Entered":   {func(l *event.Log) { l.Entered() }, 4},
		"Restarted": {func(l *event.Log) { l.Restarted(false) }, 0},
	} {
		l := newLog(t)
		l.Said(api.BadAddress, false)
		for range most - 1 {
			l.Heard(true, false, false, false)
		}
		want := append(bytes.Repeat([]byte{130}, most-1), 65)
		if got := l.List(); !bytes.Equal(got, want) {
			t.Fatalf("List() of 64 = %v, want %v", got, want)
		}
		last.do(l)
		want = append([]byte{last.want}, want[:most-1]...)
		if got := l.List(); !bytes.Equal(got, want) {
			t.Errorf("List() behind one more by %s = %v, want %v", name, got, want)
		}
	}
}

// EV1: Restarted.

func TestRestartedOfANewLog(t *testing.T) {
	for _, wipe := range []bool{false, true} {
		l := newLog(t)
		l.Restarted(wipe)
		checkIs(t, l, plain{[]byte{0}, 0})
	}
}

func TestRestartedAtEachFill(t *testing.T) {
	for n := range 2*most + 2 {
		for _, wipe := range []bool{false, true} {
			l, p := newLog(t), plain{}
			different(l, &p, n)
			done(l, &p, 300+n)
			restarted(l, &p, wipe)
			checkIs(t, l, p)
			if want := min(n+1, most); !wipe && len(l.List()) != want {
				t.Fatalf("behind %d events and Restarted(false) there are %d", n, len(l.List()))
			}
			if wipe && !bytes.Equal(l.List(), []byte{0}) {
				t.Fatalf("List() behind %d events and Restarted(true) = %v, want 0", n, l.List())
			}
			different(l, &p, most+3) // it goes on as ahead of it
			done(l, &p, 2)
			checkIs(t, l, p)
		}
	}
}

func TestRestartedTwice(t *testing.T) {
	for n := range 4 {
		f := bools(n, 2)
		l, p := full(t)
		restarted(l, &p, f[0])
		restarted(l, &p, f[1])
		checkIs(t, l, p)
		if f[1] != (len(l.List()) == 1) {
			t.Errorf("List() behind Restarted(%v) and Restarted(%v) = %v", f[0], f[1], l.List())
		}
	}
}

func TestRestartedLeavesNoCount(t *testing.T) {
	for _, wipe := range []bool{false, true} {
		for _, n := range []int{0, 1, 255, 256, 65535, 65536, 65537} {
			l := newLog(t)
			done(l, &plain{}, n)
			l.Restarted(wipe)
			checkIs(t, l, plain{[]byte{0}, 0})
			l.Done()
			checkIs(t, l, plain{[]byte{0}, 1})
		}
	}
}

// EV1: Done.

func TestDoneIsOneMore(t *testing.T) {
	l, p := newLog(t), plain{}
	l.Entered()
	p.put(4)
	for range 600 {
		done(l, &p, 1)
		checkIs(t, l, p)
	}
}

func TestDoneOfEachCount(t *testing.T) {
	l := newLog(t)
	for n := range 65536 + 300 {
		if got := l.Count(); int(got) != n%65536 {
			t.Fatalf("Count() behind %d = %d", n, got)
		}
		l.Done()
	}
	checkIs(t, l, plain{nil, 300})
}

func TestDoneBehind65535IsNought(t *testing.T) {
	l, p := newLog(t), plain{}
	done(l, &p, 65534)
	for _, want := range [][]byte{{0, 0, 255, 254}, {0, 0, 255, 255}, {0, 0, 0, 0}, {0, 0, 0, 1}} {
		if got := l.Short(); !bytes.Equal(got, want) {
			t.Errorf("Short() = %v, want %v", got, want)
		}
		checkIs(t, l, p)
		done(l, &p, 1)
	}
}

func TestDoneIsNoEvent(t *testing.T) {
	for _, n := range []int{0, 1, most - 1, most, most + 1} {
		l, p := newLog(t), plain{}
		different(l, &p, n)
		done(l, &p, 5)
		checkIs(t, l, p)
	}
}

// EV2: List, Short, Long.

func TestListHasTheLastOneFirst(t *testing.T) {
	l := newLog(t)
	l.Heard(false, false, false, false)
	l.Said(api.OK, false)
	l.Heard(true, true, false, false)
	l.Entered()
	l.Heard(false, false, true, true)
	l.Restarted(false)
	l.Said(api.BadDevice, false)
	checkIs(t, l, plain{[]byte{128, 64, 146, 4, 224, 0, 66}, 0})
	if got := l.List(); !bytes.Equal(got, []byte{66, 0, 224, 4, 146, 64, 128}) {
		t.Errorf("List() = %v", got)
	}
}

func TestShortHasTheHighByteFirst(t *testing.T) {
	for n, want := range map[int][]byte{0: {0, 0, 0, 0}, 1: {0, 0, 0, 1}, 255: {0, 0, 0, 255}, 256: {0, 0, 1, 0}, 258: {0, 0, 1, 2}, 513: {0, 0, 2, 1}, 40000: {0, 0, 156, 64}} {
		l := newLog(t)
		done(l, &plain{}, n)
		if got := l.Short(); !bytes.Equal(got, want) {
			t.Errorf("Short() of %d = %v, want %v", n, got, want)
		}
	}
}

func TestLongOfSome(t *testing.T) {
	l := newLog(t)
	done(l, &plain{}, 772)
	l.Said(api.BadValue, false)
	l.Heard(false, true, false, false)
	for m, want := range map[uint16][]byte{
		0:     {8, 0, 0, 3, 4, 0, 0, 144, 65},
		9:     {8, 0, 0, 3, 4, 0, 9, 144, 65},
		258:   {8, 0, 0, 3, 4, 1, 2, 144, 65},
		65280: {8, 0, 0, 3, 4, 255, 0, 144, 65},
		65535: {8, 0, 0, 3, 4, 255, 255, 144, 65},
	} {
		if got := l.Long(m); !bytes.Equal(got, want) {
			t.Errorf("Long(%d) = %v, want %v", m, got, want)
		}
	}
}

func TestLongOfEachNumberOfMessages(t *testing.T) {
	l, p := full(t)
	for m := range 65536 {
		if got := l.Long(uint16(m)); !bytes.Equal(got, p.long(uint16(m))) {
			t.Fatalf("Long(%d) = %v, want %v", m, got, p.long(uint16(m)))
		}
	}
	checkIs(t, l, p)
}

func TestWhatIsToldIsNewMemory(t *testing.T) {
	for name, ask := range map[string]func(l *event.Log) []byte{
		"List":  func(l *event.Log) []byte { return l.List() },
		"Short": func(l *event.Log) []byte { return l.Short() },
		"Long":  func(l *event.Log) []byte { return l.Long(9) },
	} {
		l, p := full(t)
		a, b := ask(l), ask(l)
		kept := slices.Clone(b)
		for i := range a {
			a[i] = 99
		}
		_ = append(a, 98, 97)
		checkIs(t, l, p)
		doAll(l)
		if !bytes.Equal(b, kept) {
			t.Errorf("what %s told is %v then, want %v", name, b, kept)
		}
	}
}

func TestNothingIsHandedOutBehindALength(t *testing.T) {
	for _, n := range []int{0, 1, 5, most - 1, most, most + 9} {
		l := newLog(t)
		different(l, &plain{}, most)
		l.Restarted(true)
		different(l, &plain{}, n)
		for _, b := range [][]byte{l.List(), l.Short(), l.Long(65535)} {
			if behind := b[len(b):cap(b)]; !bytes.Equal(behind, make([]byte, len(behind))) {
				t.Errorf("behind %v stands %v", b, behind)
			}
		}
	}
}

// EV2: Clone.

// changes are all that can change a log, each by itself.
func changes() map[string]func(*event.Log, *plain) {
	all := map[string]func(*event.Log, *plain){
		"Entered": func(l *event.Log, p *plain) {
			l.Entered()
			p.put(4)
		},
		"Done":             func(l *event.Log, p *plain) { done(l, p, 1) },
		"a change of List": func(l *event.Log, p *plain) { clear(l.List()) },
		"a clone of it":    func(l *event.Log, p *plain) { doAll(l.Clone()) },
	}
	for n := range 16 {
		all[fmt.Sprintf("Heard of %d", n)] = func(l *event.Log, p *plain) { heard(l, p, n) }
	}
	for _, b := range []bool{false, true} {
		for code := range codes {
			all[fmt.Sprintf("Said(%d, %v)", code, b)] = func(l *event.Log, p *plain) { said(l, p, code, b) }
		}
		all[fmt.Sprintf("Restarted(%v)", b)] = func(l *event.Log, p *plain) { restarted(l, p, b) }
	}
	return all
}

func TestCloneIsTheSame(t *testing.T) {
	for n := range 2*most + 2 {
		l, p := newLog(t), plain{}
		different(l, &p, n)
		done(l, &p, 3*n)
		c := l.Clone()
		if c == nil || c == l {
			t.Fatalf("Clone() of %p = %p, want another one", l, c)
		}
		checkIs(t, c, p)
		checkIs(t, c.Clone(), p)
		q := p // it goes on as that does
		different(c, &q, most+1)
		done(c, &q, 2)
		checkIs(t, c, q)
		checkIs(t, l, p)
	}
}

func TestCloneIsApart(t *testing.T) {
	for name, change := range changes() {
		for _, n := range []int{0, 1, most - 1, most, 100} {
			l, p := newLog(t), plain{}
			different(l, &p, n)
			done(l, &p, 515)

			c, q := l.Clone(), p
			change(l, &q)
			checkIs(t, c, p)
			checkIs(t, l, q)

			l, q = c.Clone(), p
			change(l, &q)
			checkIs(t, c, p)
			checkIs(t, l, q)
			if t.Failed() {
				t.Fatalf("by %s", name)
			}
		}
	}
}

func TestCloneAndItsLogGoOnEachByItself(t *testing.T) {
	l, p := full(t)
	c, q := l.Clone(), p
	for n := range 3 * most {
		heard(l, &p, n%16)
		done(l, &p, 1)
		checkIs(t, c, q)
		said(c, &q, api.Errno(n%5), n%2 == 0)
		checkIs(t, l, p)
		done(c, &q, 2)
		checkIs(t, c, q)
		checkIs(t, l, p)
	}
}

// EV3: what follows.

// checkFollows asks a log for what follows of the other rules.
func checkFollows(t *testing.T, l *event.Log) {
	t.Helper()
	list, short := l.List(), l.Short()
	for _, m := range messages {
		long := l.Long(m)
		if len(long) != 7+len(list) || len(long) > 71 || int(long[0]) != len(long)-1 {
			t.Fatalf("Long(%d) = %v, %d bytes, with %d events", m, long, len(long), len(list))
		}
		if !bytes.Equal(long[1:5], short) || !bytes.Equal(long[7:], list) {
			t.Fatalf("Long(%d) = %v, want %v behind its first byte, and %v in the end", m, long, short, list)
		}
	}
}

func TestLongHasShortAndList(t *testing.T) {
	for n := range 2*most + 2 {
		l := newLog(t)
		different(l, &plain{}, n)
		done(l, &plain{}, 259*n)
		checkFollows(t, l)
		if got, want := len(l.Long(1)), 7+min(n, most); got != want {
			t.Fatalf("Long(1) with %d events has %d bytes, want %d", n, got, want)
		}
		l.Restarted(true)
		checkFollows(t, l)
		if got := len(l.Long(1)); got != 8 {
			t.Fatalf("Long(1) behind Restarted(true) has %d bytes, want 8", got)
		}
	}
}

func TestLongRunsOfAllCalls(t *testing.T) {
	for seed := range 8 {
		r := rand.New(rand.NewSource(int64(seed)))
		l, p := newLog(t), plain{}
		for range 3000 {
			switch n := r.Intn(200); {
			case n < 80:
				heard(l, &p, r.Intn(16))
			case n < 140:
				said(l, &p, api.Errno(r.Intn(8)-1), r.Intn(2) == 0)
			case n < 150:
				l.Entered()
				p.put(4)
			case n < 190:
				done(l, &p, 1+r.Intn(400))
			case n < 192:
				restarted(l, &p, r.Intn(2) == 0)
			case n < 196:
				l = l.Clone()
			default:
				doAll(l.Clone())
			}
			checkIs(t, l, p)
			checkFollows(t, l)
		}
	}
}
