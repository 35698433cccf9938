package slave_test

import (
	"bytes"
	"fmt"
	"math"
	"math/rand/v2"
	"slices"
	"testing"

	"bilge/api"
	"bilge/crc"
	"bilge/filter"
	"bilge/server"
	"bilge/slave"
)

// lastTime is the last time that may be; longest is the most that each of a line's times may be; room is how many bytes of each sort are held at most.
const lastTime, longest, room = 1099511627776, 16777216, 256

// small are times of few ticks, each of a length of its own.
var small = api.Times{Char: 1, Short: 2, Long: 4, Turn: 3}

// lines are times that may be, the shortest and the longest ones among them.
var lines = []api.Times{
	small,
	{Char: 1, Short: 1, Long: 2},
	{Char: 1, Short: 3, Long: 4},
	{Char: 3, Short: 3, Long: 4, Turn: 1},
	{Char: 2, Short: 5, Long: 9},
	{Char: 1146, Short: 2865, Long: 5157, Turn: 9},
	{Char: 1, Short: 1, Long: 2, Turn: longest},
	{Char: longest - 1, Short: longest - 1, Long: longest, Turn: longest},
}

// far are numbers at the ends of int, and such that are small ones in their lowest bytes alone.
var far = []int{
	math.MinInt, math.MinInt + 1, math.MinInt + 3, -1 << 32, -1<<32 + 1, -1 << 31, -65536, -256, -255, -247, -4, -3, -2, -1,
	256, 257, 503, 65536, 65537, 1 << 31, 1 << 32, 1<<32 + 1, 1<<32 + 2, 1<<56 + 3, math.MaxInt - 1, math.MaxInt,
}

// bank is a bank whose windows have other places and other sizes each.
var bank = api.Bank{
	Coils:   api.Window{From: 3, Count: 12},
	Inputs:  api.Window{From: 1, Count: 9},
	Holding: api.Window{From: 0, Count: 130},
	Regs:    api.Window{From: 2, Count: 5},
	Broken:  api.Window{From: 8, Count: 2},
}

// device is the least that a device tells of itself.
var device = []api.Object{{ID: 0}, {ID: 1}, {ID: 2}}

// config is a config of such a line, at the station 1.
func config(w api.Times) slave.Config {
	objects := []api.Object{{ID: 0, Data: []byte("bilge")}, {ID: 1}, {ID: 2, Data: []byte{7}}}
	return slave.Config{Server: server.Config{Bank: bank, Objects: objects, ID: []byte{7, 8, 9}, Status: 5}, Station: 1, Times: w}
}

// frame is a frame to, or from, a station.
func frame(station int, pdu ...byte) []byte {
	return crc.Append(slices.Concat([]byte{byte(station)}, pdu))
}

// idle, heard, spoilt, bit and reg are events of each kind.
func idle(at int) api.Event            { return api.Event{At: at} }
func heard(at int, b byte) api.Event   { return api.Event{Kind: 1, At: at, B: b} }
func spoilt(at int, b byte) api.Event  { return api.Event{Kind: 1, At: at, B: b, Bad: true} }
func bit(at, place, v int) api.Event   { return api.Event{Kind: 2, At: at, Place: place, Value: v} }
func reg(at, place, v int) api.Event   { return api.Event{Kind: 3, At: at, Place: place, Value: v} }
func event(k, at int) api.Event        { return api.Event{Kind: k, At: at, B: 1, Place: 3, Value: 1} }
func endOf(l []byte, at, step int) int { return at + (len(l)-1)*step }

// come are bytes that come one behind the other, the first one at a time, each other one a step behind.
func come(l []byte, at, step int) []api.Event {
	var all []api.Event
	for i, b := range l {
		all = append(all, heard(at+i*step, b))
	}
	return all
}

// sent are bytes that are sent without a pause.
func sent(l []byte, at, char int) []api.Out {
	var all []api.Out
	for i, b := range l {
		all = append(all, api.Out{At: at + i*char, B: b})
	}
	return all
}

// made is a new slave.
func made(t testing.TB, c slave.Config, from int) *slave.Slave {
	t.Helper()
	s := slave.New(c, from)
	if s == nil {
		t.Fatalf("New(%+v, %d): none", c, from)
	}
	return s
}

// model is a slave by the document's words: it keeps all bytes of its open segment, with their times, and looks at them anew each time.
type model struct {
	c         slave.Config
	now, from int
	first     bool // no segment was open since New, or since sending ended
	v         *server.Server
	came      []api.Byte
	planned   []api.Out
	sending   bool
	end       int
	answers   int
}

// newModel is the model of a slave to which nothing happened.
func newModel(c slave.Config, from int) *model {
	return &model{c: c, now: from, from: from, first: true, v: server.New(c.Server)}
}

// clone is another model that is the same.
func (m *model) clone() *model {
	same := *m
	same.v, same.came, same.planned = m.v.Clone(), slices.Clone(m.came), slices.Clone(m.planned)
	return &same
}

// over is when the open segment is over.
func (m *model) over() (int, bool) {
	if len(m.came) == 0 {
		return 0, false
	}
	return m.came[len(m.came)-1].At + m.c.Times.Long, true
}

// segment is the open segment.
func (m *model) segment() api.Segment {
	n := len(m.came)
	s := api.Segment{First: m.came[0].At, Last: m.came[n-1].At, Count: n, Gap: m.first && m.came[0].At-m.from < m.c.Times.Long}
	for i, b := range m.came {
		if i < room {
			s.Bytes = append(s.Bytes, b.B)
		}
		s.Bad = s.Bad || b.Bad
		s.Gap = s.Gap || i > 0 && b.At-m.came[i-1].At > m.c.Times.Short
	}
	return s
}

// take lets the open segment be taken at a time.
func (m *model) take(at int) {
	l := filter.Take(m.v, m.c.Station, m.segment())
	m.came, m.first = nil, false
	if len(l) == 0 {
		return
	}
	m.answers++
	m.sending = true
	w := m.c.Times
	for i, b := range l {
		m.planned = append(m.planned, api.Out{At: min(at+w.Turn+i*w.Char, lastTime), B: b})
	}
	m.end = min(m.planned[len(l)-1].At+w.Char, lastTime)
}

// goOn lets time go on, tick by tick of those at which something happens.
func (m *model) goOn(to int) []api.Out {
	var told []api.Out
	for {
		at, over := m.over()
		switch {
		case len(m.planned) > 0 && m.planned[0].At <= to:
			told = append(told, m.planned[0])
			m.planned = m.planned[1:]
		case m.sending && len(m.planned) == 0 && m.end <= to:
			m.sending, m.from, m.first = false, m.end, true
		case over && at <= to:
			m.take(at)
		default:
			m.now = to
			return told
		}
	}
}

// do is what Do answers.
func (m *model) do(e api.Event) ([]api.Out, api.Errno) {
	if e.Kind < 0 || e.Kind > 3 || e.At < m.now || e.At > lastTime {
		return nil, api.ErrArg
	}
	told := m.goOn(e.At)
	switch {
	case e.Kind == 1 && !m.sending:
		m.came = append(m.came, api.Byte{At: e.At, B: e.B, Bad: e.Bad})
	case e.Kind >= 2:
		return told, m.v.Sense(e.Kind == 3, e.Place, e.Value)
	}
	return told, api.OK
}

// due is what Due answers.
func (m *model) due() (int, bool) {
	at, ok := m.over()
	if m.sending {
		at, ok = m.end, true
	}
	if len(m.planned) > 0 {
		at = m.planned[0].At
	}
	return min(at, lastTime), ok
}

// sameServer tells whether two servers tell the same.
func sameServer(a, b *server.Server) bool {
	f, g := a.File(), b.File()
	cells := f.Bank == g.Bank && slices.Equal(f.Coils, g.Coils) && slices.Equal(f.Inputs, g.Inputs) && slices.Equal(f.Holding, g.Holding) && slices.Equal(f.Regs, g.Regs)
	line := slices.Equal(a.All(), b.All()) && bytes.Equal(a.Events(), b.Events()) && a.Finished() == b.Finished() && a.Listening() == b.Listening()
	return cells && line
}

// look is all that a slave tells of itself, but its server.
type look struct {
	now, due   int
	is         bool
	sending    bool
	came, sent int
}

// see is what a slave looks like.
func see(s *slave.Slave) look {
	var l look
	l.now, l.sending = s.Now(), s.Sending()
	l.due, l.is = s.Due()
	l.came, l.sent = s.Held()
	return l
}

// look is what the slave must look like.
func (m *model) look() look {
	l := look{now: m.now, sending: m.sending, came: min(len(m.came), room), sent: len(m.planned)}
	l.due, l.is = m.due()
	return l
}

// check holds all that a slave tells against its model.
func check(t testing.TB, s *slave.Slave, m *model, behind string) {
	t.Helper()
	if got, want := see(s), m.look(); got != want {
		t.Fatalf("%s: %+v, want %+v", behind, got, want)
	}
	if v := s.Server(); !sameServer(v, m.v) {
		t.Fatalf("%s: the server: %v %v %v, want %v %v %v", behind, v.All(), v.Events(), v.File(), m.v.All(), m.v.Events(), m.v.File())
	}
}

// pair is a slave and its model, to which all is done alike.
type pair struct {
	t testing.TB
	s *slave.Slave
	m *model
}

// start is a slave to which nothing happened, and its model.
func start(t testing.TB, c slave.Config, from int) pair {
	t.Helper()
	p := pair{t, made(t, c, from), newModel(c, from)}
	check(t, p.s, p.m, "New")
	return p
}

// apart is another pair that is the same.
func (p pair) apart() pair { return pair{p.t, p.s.Clone(), p.m.clone()} }

// do lets something happen to both.
func (p pair) do(e api.Event) ([]api.Out, api.Errno) {
	p.t.Helper()
	behind := fmt.Sprintf("Do(%+v) at %d", e, p.m.now)
	got, err := p.s.Do(e)
	want, wantErr := p.m.do(e)
	if err != wantErr || !slices.Equal(got, want) {
		p.t.Fatalf("%s: %v, %v, want %v, %v", behind, got, err, want, wantErr)
	}
	check(p.t, p.s, p.m, behind)
	return got, err
}

// all lets events happen to both, and tells what was sent.
func (p pair) all(l ...api.Event) []api.Out {
	p.t.Helper()
	var told []api.Out
	for _, e := range l {
		got, _ := p.do(e)
		told = append(told, got...)
	}
	return told
}

// ask lets a frame come behind a long silence, and time go on till the answer ended; it tells when the segment was over, and what was sent.
func (p pair) ask(l []byte) (int, []api.Out) {
	p.t.Helper()
	w := p.m.c.Times
	at := p.m.now + w.Long
	told := p.all(come(l, at, w.Char)...)
	if len(told) > 0 {
		p.t.Fatalf("%v: the bytes began too early: %v", l, told)
	}
	over := endOf(l, at, w.Char) + w.Long
	told = p.all(idle(over))
	for p.m.sending {
		told = append(told, p.all(idle(p.m.end))...)
	}
	return over, told
}

// says asks whether a frame is answered by that one, in its times; by none, if there is none.
func (p pair) says(l, want []byte) {
	p.t.Helper()
	over, told := p.ask(l)
	if w := p.m.c.Times; !slices.Equal(told, sent(want, over+w.Turn, w.Char)) {
		p.t.Fatalf("%v: %v, want %v from %d on", l, told, want, over+w.Turn)
	}
}

// said are messages: well said ones, wrong ones, and such to which nothing is said.
var said = [][]byte{
	{1, 0, 3, 0, 12}, {2, 0, 1, 0, 9}, {3, 0, 1, 0, 7}, {3, 0, 2, 0, 2}, {4, 0, 2, 0, 5}, {5, 0, 3, 255, 0}, {6, 0, 3, 0, 9}, {7}, {8, 0, 0, 1, 2}, {8, 0, 1, 0, 0}, {8, 0, 1, 255, 0},
	{8, 0, 4, 0, 0}, {8, 0, 11, 0, 0}, {8, 0, 12, 0, 0}, {8, 0, 15, 0, 0}, {11}, {12}, {15, 0, 4, 0, 9, 2, 170, 1}, {16, 0, 1, 0, 2, 4, 9, 8, 7, 6}, {17}, {22, 0, 2, 0, 242, 0, 37},
	{23, 0, 1, 0, 3, 0, 2, 0, 1, 2, 12, 34}, {43, 14, 1, 0}, {1}, {3, 0, 8, 0, 1}, {6, 0, 200, 0, 1}, {7, 0}, {8}, {9}, {43}, {127}, {0}, {128}, {255},
}

// Of a nil Slave, and of one that no call made.

// TestOfNone: ErrArg; nothing; 0, false; no server.
func TestOfNone(t *testing.T) {
	var none *slave.Slave
	for name, s := range map[string]*slave.Slave{"nil": none, "&Slave{}": {}, "Clone of &Slave{}": (&slave.Slave{}).Clone(), "Clone of nil": none.Clone()} {
		for k := -2; k < 6; k++ {
			for _, at := range append([]int{0, 1, lastTime - 1, lastTime, lastTime + 1}, far...) {
				l, err := s.Do(event(k, at))
				if len(l) > 0 || err != api.ErrArg {
					t.Errorf("%s: Do of %d at %d: %v, %v", name, k, at, l, err)
				}
			}
		}
		if got := see(s); got != (look{}) {
			t.Errorf("%s: %+v", name, got)
		}
		if s.Server() != nil {
			t.Errorf("%s: it has a server", name)
		}
	}
	if none.Clone() != nil {
		t.Error("Clone of a nil slave is one")
	}
	unmade := &slave.Slave{}
	if c := unmade.Clone(); c == nil || c == unmade {
		t.Errorf("Clone of a slave that no call made: %p, of %p", c, unmade)
	}
}

// SL1: Sound and New.

// isSound asks whether a config may be, and whether New tells a slave of it just then, and of a time that may be.
func isSound(t *testing.T, c slave.Config, want bool) {
	t.Helper()
	if got := slave.Sound(c); got != want {
		t.Fatalf("Sound(%+v) = %v", c, got)
	}
	for _, from := range []int{math.MinInt, -lastTime, -1, 0, 1, lastTime - 1, lastTime, lastTime + 1, math.MaxInt} {
		s := slave.New(c, from)
		if may := want && from >= 0 && from <= lastTime; (s != nil) != may {
			t.Fatalf("New(%+v, %d): there is one is %v", c, from, s != nil)
		}
		if s != nil && see(s) != (look{now: from}) {
			t.Fatalf("New(%+v, %d): %+v", c, from, see(s))
		}
	}
}

// TestSoundOfStations: a station is from 1 to 247.
func TestSoundOfStations(t *testing.T) {
	for n := -300; n < 600; n++ {
		c := config(small)
		c.Station = n
		isSound(t, c, n >= 1 && n <= 247)
	}
	for _, n := range far {
		c := config(small)
		c.Station = n
		isSound(t, c, false)
	}
}

// TestSoundOfTimes: a line's times at their bounds, and one beyond, each alone and with the others.
func TestSoundOfTimes(t *testing.T) {
	edges := []int{math.MinInt, -1, 0, 1, 2, 3, longest - 1, longest, longest + 1, math.MaxInt}
	for _, char := range edges {
		for _, short := range edges {
			for _, long := range edges {
				for _, turn := range edges {
					may := char >= 1 && short >= char && long > short && long <= longest && turn >= 0 && turn <= longest
					isSound(t, config(api.Times{Char: char, Short: short, Long: long, Turn: turn}), may)
				}
			}
		}
	}
	isSound(t, config(api.Times{}), false)
	for _, w := range lines {
		isSound(t, config(w), true)
	}
}

// TestSoundOfServers: what a server may not be made of.
func TestSoundOfServers(t *testing.T) {
	for _, c := range []struct {
		name string
		with func(*server.Config)
		may  bool
	}{
		{"as it is", func(c *server.Config) {}, true},
		{"the least", func(c *server.Config) { *c = server.Config{Objects: device} }, true},
		{"nothing", func(c *server.Config) { *c = server.Config{} }, false},
		{"no object", func(c *server.Config) { c.Objects = nil }, false},
		{"two objects", func(c *server.Config) { c.Objects = device[:2] }, false},
		{"objects in another order", func(c *server.Config) { c.Objects = []api.Object{{ID: 0}, {ID: 2}, {ID: 1}} }, false},
		{"an ID of 240 bytes", func(c *server.Config) { c.ID = make([]byte, 240) }, true},
		{"an ID of 241 bytes", func(c *server.Config) { c.ID = make([]byte, 241) }, false},
		{"the status 0", func(c *server.Config) { c.Status = 0 }, true},
		{"the status -1", func(c *server.Config) { c.Status = -1 }, false},
		{"the status 65535", func(c *server.Config) { c.Status = 65535 }, true},
		{"the status 65536", func(c *server.Config) { c.Status = 65536 }, false},
		{"a window too far", func(c *server.Config) { c.Bank.Coils = api.Window{From: 65535, Count: 2} }, false},
		{"a window ahead of 0", func(c *server.Config) { c.Bank.Regs = api.Window{From: -1, Count: 2} }, false},
		{"a count below 0", func(c *server.Config) { c.Bank.Broken = api.Window{From: 1, Count: -1} }, false},
	} {
		s := config(small)
		c.with(&s.Server)
		if slave.Sound(s) != c.may {
			t.Errorf("%s: Sound is not %v", c.name, c.may)
		}
		isSound(t, s, c.may)
	}
	isSound(t, slave.Config{}, false)
}

// TestNew: SL1: a new slave has come to its time, and nothing happened.
func TestNew(t *testing.T) {
	for _, w := range lines {
		for _, from := range []int{0, 1, 2, 1000, lastTime / 2, lastTime - 1, lastTime} {
			p := start(t, config(w), from)
			if !sameServer(p.s.Server(), server.New(p.m.c.Server)) {
				t.Fatal("its server is not a new one")
			}
			if l, err := p.do(idle(from - 1)); len(l) > 0 || err != api.ErrArg {
				t.Fatalf("Do ahead of %d: %v, %v", from, l, err)
			}
			p.do(idle(from))
			p.do(idle(lastTime))
		}
	}
}

// TestNewSlavesAreApart: what happens to one slave does not happen to another one of the same config.
func TestNewSlavesAreApart(t *testing.T) {
	c := config(small)
	p, q := start(t, c, 0), start(t, c, 0)
	p.all(come(frame(1, 6, 0, 3, 0, 9), 10, 1)...)
	p.do(idle(25))
	check(t, q.s, q.m, "another one")
	q.says(frame(1, 3, 0, 3, 0, 1), frame(1, 3, 2, 0, 0))
	p.do(idle(100))
	p.says(frame(1, 3, 0, 3, 0, 1), frame(1, 3, 2, 0, 9))
}

// TestConfigIsNotKept: rule 5: what was handed in is not changed, not kept, and not read behind its length.
func TestConfigIsNotKept(t *testing.T) {
	objects := []api.Object{{ID: 0, Data: []byte("bilge!")[:5]}, {ID: 1}, {ID: 2, Data: []byte{7}}, {ID: 0}, {ID: 77}}
	id := []byte{7, 8, 9, 10}
	c := config(small)
	c.Server.Objects, c.Server.ID = objects[:3], id[:3]
	p := start(t, c, 0)
	p.m.v = made(t, config(small), 0).Server() // of memory of its own
	for i := range objects {
		for k := range objects[i].Data {
			objects[i].Data[k] ^= 255
		}
		objects[i].ID = 9
	}
	for i := range id {
		id[i] ^= 255
	}
	p.says(frame(1, 17), frame(1, 17, 4, 7, 8, 9, 255))
	p.says(frame(1, 43, 14, 1, 0), frame(1, 43, 14, 1, 129, 0, 0, 3, 0, 5, 'b', 'i', 'l', 'g', 'e', 1, 0, 2, 1, 7))

	c = config(small)
	p = start(t, c, 0)
	p.says(frame(1, 17), frame(1, 17, 4, 7, 8, 9, 255))
	p.says(frame(1, 43, 14, 4, 0), frame(1, 43, 14, 4, 129, 0, 0, 1, 0, 5, 'b', 'i', 'l', 'g', 'e'))
	if d := config(small); !slices.EqualFunc(c.Server.Objects, d.Server.Objects, func(a, b api.Object) bool { return a.ID == b.ID && bytes.Equal(a.Data, b.Data) }) || !bytes.Equal(c.Server.ID, d.Server.ID) {
		t.Errorf("the config was changed: %+v", c)
	}
}

// SL2: what Do refuses.

// TestDoRefuses: SL2: ErrArg, and nothing has changed, of a kind that there is not, and of a time that is past, or beyond the last one.
func TestDoRefuses(t *testing.T) {
	for _, now := range []int{0, 1, 9, 10, 12, 13, 16, 17, 18, 20, 21, 24, 25, 30, lastTime} {
		p := start(t, config(small), 0)
		for _, e := range come(frame(1, 7), 10, 1) {
			if e.At <= now {
				p.do(e)
			}
		}
		p.do(idle(now))
		for k := -3; k < 7; k++ {
			for _, at := range []int{math.MinInt, -lastTime, -1, now - 2, now - 1, lastTime + 1, 2 * lastTime, math.MaxInt} {
				if l, err := p.do(event(k, at)); len(l) > 0 || err != api.ErrArg {
					t.Fatalf("Do of %d at %d, behind %d: %v, %v", k, at, now, l, err)
				}
			}
		}
		for _, k := range append([]int{-1, 4, 5, 6, 7, 8, 9, 10, 100, 127, 128, 255}, far...) {
			for _, at := range []int{now, min(now+1, lastTime), min(now+100, lastTime), lastTime} {
				if l, err := p.do(event(k, at)); len(l) > 0 || err != api.ErrArg {
					t.Fatalf("Do of %d at %d, behind %d: %v, %v", k, at, now, l, err)
				}
			}
		}
		if p.s.Now() != now {
			t.Fatalf("it has come to %d", p.s.Now())
		}
		p.all(heard(now, 9), idle(lastTime))
	}
}

// TestDoAtTheSameTime: SL2: the time that it has come to is not past, of no kind.
func TestDoAtTheSameTime(t *testing.T) {
	for _, at := range []int{0, 5, lastTime} {
		p := start(t, config(small), 0)
		p.do(idle(at))
		for range 3 {
			for k := range 4 {
				if _, err := p.do(event(k, at)); err != api.OK {
					t.Fatalf("Do of %d at %d: %v", k, at, err)
				}
			}
		}
	}
}

// SL2 and SL3: an answer, tick by tick.

// TestExample: the example of chapter 26.
func TestExample(t *testing.T) {
	p := start(t, config(small), 0)
	l := frame(1, 7)
	if told := p.all(come(l, 10, 1)...); len(told) > 0 {
		t.Fatalf("it began too early: %v", told)
	}
	want := sent(frame(1, 7, 0), 20, 1)
	for at := 14; at < 40; at++ {
		var now []api.Out
		if at >= 20 && at < 25 {
			now = want[at-20 : at-19]
		}
		if told := p.all(idle(at)); !slices.Equal(told, now) {
			t.Fatalf("at %d: %v, want %v", at, told, now)
		}
		if p.s.Sending() != (at >= 17 && at < 25) {
			t.Fatalf("at %d: sending is %v", at, p.s.Sending())
		}
	}
}

// TestLookOfEachTick: SL1: Now, Due, Sending and Held of each tick of an exchange, by hand.
func TestLookOfEachTick(t *testing.T) {
	s := made(t, config(small), 0)
	l := frame(1, 7)
	for at := range 40 {
		if at >= 10 && at < 14 {
			s.Do(heard(at, l[at-10]))
		} else {
			s.Do(idle(at))
		}
		want := look{now: at}
		switch {
		case at < 10: // nothing came
		case at < 14:
			want.due, want.is, want.came = at+4, true, at-9
		case at < 17:
			want.due, want.is, want.came = 17, true, 4
		case at < 20:
			want.due, want.is, want.sending, want.sent = 20, true, true, 5
		case at < 25: // the byte of this tick has begun; behind the last one sending ends at 25
			want.due, want.is, want.sending, want.sent = at+1, true, true, 24-at
		}
		if got := see(s); got != want {
			t.Fatalf("at %d: %+v, want %+v", at, got, want)
		}
	}
}

// TestLookBetweenBytes: SL1: Due, where a byte takes several ticks.
func TestLookBetweenBytes(t *testing.T) {
	w := api.Times{Char: 5, Short: 7, Long: 20, Turn: 11}
	s := made(t, config(w), 0)
	for _, e := range come(frame(1, 7), 20, 5) { // the last one at 35, over at 55, begun at 66, 71, 76, 81, 86, ended at 91
		s.Do(e)
	}
	for at := 35; at < 100; at++ {
		s.Do(idle(at))
		want := look{now: at}
		switch {
		case at < 55:
			want.due, want.is, want.came = 55, true, 4
		case at < 66:
			want.due, want.is, want.sending, want.sent = 66, true, true, 5
		case at < 86:
			begun := (at-66)/5 + 1
			want.due, want.is, want.sending, want.sent = 66+5*begun, true, true, 5-begun
		case at < 91:
			want.due, want.is, want.sending = 91, true, true
		}
		if got := see(s); got != want {
			t.Fatalf("at %d: %+v, want %+v", at, got, want)
		}
	}
}

// TestOnEachLine: SL3, SL4: an answer begins Long and Turn behind the last byte, and has no pause, on each line, from each time on.
func TestOnEachLine(t *testing.T) {
	for _, w := range lines {
		for _, from := range []int{0, 1, 999, lastTime / 2} {
			p := start(t, config(w), from)
			p.says(frame(1, 6, 0, 3, 0, 9), frame(1, 6, 0, 3, 0, 9))
			p.says(frame(1, 3, 0, 2, 0, 2), frame(1, 3, 4, 0, 0, 0, 9))
			p.says(frame(1, 3, 0, 129, 0, 2), frame(1, 131, 2))
			p.says(frame(2, 3, 0, 2, 0, 2), nil)
			p.says(frame(0, 6, 0, 3, 0, 8), nil)
			p.says(frame(1, 3, 0, 3, 0, 1), frame(1, 3, 2, 0, 8))
			p.says(frame(1, 9), frame(1, 137, 1))
		}
	}
}

// TestEachStation: SL4: a slave answers what is for its station, and nothing else.
func TestEachStation(t *testing.T) {
	for station := 1; station <= 247; station++ {
		c := config(small)
		c.Station = station
		p := start(t, c, 0)
		for to := range 256 {
			var want []byte
			if to == station {
				want = frame(station, 7, 0)
			}
			if station < 4 || station > 244 || to < 2 || to == station {
				p.says(frame(to, 7), want)
			}
		}
	}
}

// TestEachMessage: SL3: each message, said to it, to all, and to another one.
func TestEachMessage(t *testing.T) {
	for _, w := range lines[:3] {
		p := start(t, config(w), 0)
		for _, pdu := range said {
			for _, to := range []int{1, 0, 2} {
				p.ask(frame(to, pdu...))
			}
			p.ask(frame(1, 8, 0, 1, 0, 0)) // it may listen only
		}
	}
}

// TestExamplesOfTheWhole: the examples 3 to 8 of the whole, on the line.
func TestExamplesOfTheWhole(t *testing.T) {
	c := slave.Config{Server: server.Config{Bank: api.Bank{Holding: api.Window{Count: 10}}, Objects: device}, Station: 1, Times: small}
	p := start(t, c, 0)
	p.says(frame(1, 6, 0, 3, 0, 9), frame(1, 6, 0, 3, 0, 9))
	if n := p.s.Server().File().Holding[3]; n != 9 {
		t.Errorf("the holding register 3 is %d", n)
	}
	p.says(frame(1, 3, 0, 9, 0, 2), frame(1, 131, 2))
	p.says(frame(0, 6, 0, 3, 0, 8), nil)
	if v := p.s.Server(); v.File().Holding[3] != 8 || v.All()[4] != 1 {
		t.Errorf("said to all: %v, %v", v.File().Holding, v.All())
	}
	l := frame(1, 6, 0, 3, 0, 7)
	at := p.m.now + 4
	p.all(come(l[:5], at, 1)...)
	p.all(spoilt(at+5, l[5]))
	if told := p.all(append(come(l[6:], at+6, 1), idle(at+100))...); len(told) > 0 {
		t.Errorf("a spoilt byte is answered: %v", told)
	}
	if v := p.s.Server(); v.File().Holding[3] != 8 || v.All()[1] != 1 {
		t.Errorf("a spoilt byte: %v, %v", v.File().Holding, v.All())
	}
	p.says(frame(1, 8, 0, 4, 0, 0), nil)
	p.says(frame(1, 7), nil)
	p.says(frame(1, 8, 0, 1, 0, 0), nil)
	p.says(frame(1, 7), frame(1, 7, 0))
	p.says(frame(1, 43, 14, 1, 0), frame(1, 43, 14, 1, 129, 0, 0, 3, 0, 0, 1, 0, 2, 0))
}

// TestLongestFrames: SL4: frames, and answers, of up to 256 bytes: all is held, no more is, and each byte is sent.
func TestLongestFrames(t *testing.T) {
	for _, n := range []int{2, 4, 126, 128, 248, 250} {
		pdu := make([]byte, 3+n)
		pdu[0] = 8
		for i := range n {
			pdu[3+i] = byte(i*7 + 1)
		}
		l := frame(1, pdu...)
		p := start(t, config(small), 0)
		p.all(come(l, 4, 1)...)
		if came, out := p.s.Held(); came != n+6 || out != 0 {
			t.Fatalf("%d bytes came: %d, %d", n+6, came, out)
		}
		over := 4 + len(l) - 1 + 4
		p.do(idle(over))
		if came, out := p.s.Held(); came != 0 || out != n+6 {
			t.Fatalf("%d bytes are to be sent: %d, %d", n+6, came, out)
		}
		if told := p.all(idle(over + 1000)); !slices.Equal(told, sent(l, over+3, 1)) {
			t.Fatalf("%d bytes: %v", n+6, told)
		}
	}
	p := start(t, config(small), 0)
	var want []byte
	for range 125 {
		want = append(want, 0, 0)
	}
	p.says(frame(1, 3, 0, 10, 0, 120), frame(1, append([]byte{3, 240}, want[:240]...)...))
}

// TestTooManyBytes: SL4: of a segment that is too long 256 bytes are held; it is not answered, and the next frame is.
func TestTooManyBytes(t *testing.T) {
	for _, n := range []int{255, 256, 257, 258, 300, 512, 1000} {
		p := start(t, config(small), 0)
		for i := range n {
			p.do(heard(4+i, byte(i)))
			if came, _ := p.s.Held(); came != min(i+1, room) {
				t.Fatalf("of %d bytes %d are held", i+1, came)
			}
		}
		if told := p.all(idle(4 + n + 100)); len(told) > 0 {
			t.Fatalf("%d bytes are answered: %v", n, told)
		}
		v := p.s.Server().All()
		if over := n > room; v[1] != 1 || (v[7] == 1) != over {
			t.Fatalf("%d bytes: the counters %v", n, v)
		}
		p.says(frame(1, 7), frame(1, 7, 0))
	}
	s := made(t, config(small), 0)
	for i := range 70000 {
		s.Do(heard(4, byte(i)))
		if came, out := s.Held(); came > room || out > 0 {
			t.Fatalf("of %d bytes %d are held", i+1, came)
		}
	}
}

// TestSilencesWithinAFrame: SL3: a silence up to Short is none, up to Long tears the frame, and Long ends it.
func TestSilencesWithinAFrame(t *testing.T) {
	for _, w := range lines {
		for _, silence := range []int{0, 1, w.Char, w.Short - 1, w.Short, w.Short + 1, w.Long - 1, w.Long, w.Long + 1} {
			for cut := 1; cut < 8; cut++ {
				p := start(t, config(w), 0)
				l := frame(1, 6, 0, 3, 0, 9)
				p.all(come(l[:cut], w.Long, w.Char)...)
				next := w.Long + (cut-1)*w.Char + silence
				p.all(come(l[cut:], next, w.Char)...)
				over := next + (7-cut)*w.Char + w.Long
				told := p.all(idle(over + w.Turn + 8*w.Char))
				var want []api.Out
				if silence <= w.Short {
					want = sent(l, over+w.Turn, w.Char)
				}
				if !slices.Equal(told, want) {
					t.Fatalf("%+v, a silence of %d behind %d bytes: %v", w, silence, cut, told)
				}
				if cell := p.s.Server().File().Holding[3]; (cell == 9) != (silence <= w.Short) {
					t.Fatalf("%+v, a silence of %d behind %d bytes: the register is %d", w, silence, cut, cell)
				}
			}
		}
	}
}

// TestSilenceAheadOfTheFirstFrame: SL1: the line is silent from the time of New on: a frame has to be behind a long silence.
func TestSilenceAheadOfTheFirstFrame(t *testing.T) {
	for _, w := range lines {
		for _, silence := range []int{0, 1, w.Short, w.Long - 1, w.Long, w.Long + 1, 5 * w.Long} {
			for _, from := range []int{0, 7, 100000} {
				p := start(t, config(w), from)
				l := frame(1, 7)
				first := from + silence
				p.all(come(l, first, w.Char)...)
				over := endOf(l, first, w.Char) + w.Long
				told := p.all(idle(over + w.Turn + 5*w.Char))
				if want := silence >= w.Long; (len(told) == 5) != want || !want && len(told) > 0 {
					t.Fatalf("%+v, a silence of %d from %d on: %v", w, silence, from, told)
				}
				p.says(l, frame(1, 7, 0))
			}
		}
	}
}

// TestNothingIsHeardWhileSending: SL2: from where the frame was over up to sending's end bytes do not come to the framer.
func TestNothingIsHeardWhileSending(t *testing.T) {
	for at := 14; at < 40; at++ {
		for _, bad := range []bool{false, true} {
			p := start(t, config(small), 0)
			p.all(come(frame(1, 7), 10, 1)...) // over at 17, sending up to 25
			told := p.all(api.Event{Kind: 1, At: at, B: 9, Bad: bad})
			came, _ := p.s.Held()
			want := 0
			switch {
			case at < 17:
				want = 5
			case at >= 25:
				want = 1
			}
			if came != want {
				t.Fatalf("a byte at %d: %d are held, want %d", at, came, want)
			}
			told = append(told, p.all(idle(100))...)
			var answer []api.Out
			if at >= 17 {
				answer = sent(frame(1, 7, 0), 20, 1)
			}
			if !slices.Equal(told, answer) {
				t.Fatalf("a byte at %d: %v", at, told)
			}
			errors := uint16(0)
			if at < 17 || bad && at >= 25 { // the frame's sum is wrong, or the byte alone is spoilt
				errors = 1
			}
			if n := p.s.Server().All()[1]; n != errors {
				t.Fatalf("a byte at %d: %d errors, want %d", at, n, errors)
			}
		}
	}
}

// TestFramesWhileSending: SL2, SL4: frames that come, or end, while it is sending are not heard, whatever they are; those that begin behind it are, if the line was silent for long.
func TestFramesWhileSending(t *testing.T) {
	for _, w := range lines[:5] {
		for shift := range 60 {
			p := start(t, config(w), 0)
			told := p.all(come(frame(1, 7), w.Long, w.Char)...)
			over := w.Long + 3*w.Char + w.Long
			end := over + w.Turn + 5*w.Char
			l := frame(1, 6, 0, 3, 0, 9)
			first := over + shift
			told = append(told, p.all(come(l, first, w.Char)...)...)
			again := endOf(l, first, w.Char) + w.Long
			told = append(told, p.all(idle(again+w.Turn+100*w.Char))...)
			want := sent(frame(1, 7, 0), over+w.Turn, w.Char)
			if first-end >= w.Long {
				want = append(want, sent(l, again+w.Turn, w.Char)...)
			}
			if !slices.Equal(told, want) {
				t.Fatalf("%+v, a frame at %d, sending ends at %d: %v, want %v", w, first, end, told, want)
			}
			if cell := p.s.Server().File().Holding[3]; (cell == 9) != (first-end >= w.Long) {
				t.Fatalf("%+v, a frame at %d, sending ends at %d: the register is %d", w, first, end, cell)
			}
		}
	}
}

// TestOwnEcho: SL4: it does not hear itself: what it sends, come back byte by byte, changes nothing but where a byte's end is sending's end.
func TestOwnEcho(t *testing.T) {
	p := start(t, config(small), 0)
	p.all(come(frame(1, 8, 0, 0, 5, 6), 10, 1)...)
	q := p.apart()
	over := 10 + 7 + 4
	for i, b := range frame(1, 8, 0, 0, 5, 6)[:7] { // the last one ends when sending does
		p.do(heard(over+3+i+1, b))
	}
	p.do(idle(200))
	q.do(idle(200))
	if see(p.s) != see(q.s) || !sameServer(p.s.Server(), q.s.Server()) {
		t.Error("it heard itself")
	}
}

// TestAByteWhereASegmentIsOver: SL2: time goes on ahead of the byte: one that comes where a segment is over opens another one, or is not heard, if that was answered.
func TestAByteWhereASegmentIsOver(t *testing.T) {
	for _, w := range lines {
		for _, to := range []int{0, 1, 2} {
			p := start(t, config(w), 0)
			l := frame(to, 6, 0, 3, 0, 9)
			p.all(come(l, w.Long, w.Char)...)
			over := endOf(l, w.Long, w.Char) + w.Long
			told := p.all(heard(over, 1))
			came, out := p.s.Held()
			switch {
			case to == 1 && (came != 0 || !p.s.Sending()):
				t.Fatalf("%+v: %d bytes are held while it is sending", w, came)
			case to != 1 && (came != 1 || out != 0 || p.s.Sending()):
				t.Fatalf("%+v, to %d: %d bytes are held, %d to be sent", w, to, came, out)
			}
			// The rest of a frame of which this is the first byte.
			told = append(told, p.all(come(frame(1, 7)[1:], over+w.Char, w.Char)...)...)
			told = append(told, p.all(idle(over+3*w.Char+w.Long+w.Turn+20*w.Char))...)
			want := sent(frame(1, 7, 0), over+3*w.Char+w.Long+w.Turn, w.Char)
			if to == 1 {
				want = sent(l, over+w.Turn, w.Char)
			}
			if !slices.Equal(told, want) {
				t.Fatalf("%+v, to %d: %v, want %v", w, to, told, want)
			}
		}
	}
}

// TestByteAtSendingsEnd: SL3: where sending ends the framer is reset at that time: a byte then is heard, and torn from what is ahead.
func TestByteAtSendingsEnd(t *testing.T) {
	for _, w := range lines {
		for _, silence := range []int{0, 1, w.Short, w.Long - 1, w.Long, w.Long + 1} {
			for _, asked := range []bool{false, true} { // whether something asks it where sending ends
				p := start(t, config(w), 0)
				p.all(come(frame(1, 7), w.Long, w.Char)...)
				end := w.Long + 3*w.Char + w.Long + w.Turn + 5*w.Char
				if asked {
					p.do(idle(end))
				}
				first := end + silence
				told := p.all(come(frame(1, 7), first, w.Char)...)
				if asked && len(told) > 0 || !asked && len(told) != 5 {
					t.Fatalf("%+v: %v", w, told)
				}
				over := first + 3*w.Char + w.Long
				told = p.all(idle(over + w.Turn + 6*w.Char))
				if want := silence >= w.Long; (len(told) == 5) != want || !want && len(told) > 0 {
					t.Fatalf("%+v, a silence of %d behind sending: %v", w, silence, told)
				}
			}
		}
	}
}

// SL2: inputs.

// TestInputs: SL2: 2 measures a discrete input, 3 an input register.
func TestInputs(t *testing.T) {
	p := start(t, config(small), 0)
	p.all(bit(1, 4, 1), reg(2, 5, 40000), bit(3, 9, -7), reg(3, 6, 65537), reg(3, 2, -1))
	f := p.s.Server().File()
	if !slices.Equal(f.Inputs, []bool{false, false, false, true, false, false, false, false, true}) || !slices.Equal(f.Regs, []uint16{65535, 0, 0, 40000, 1}) {
		t.Fatalf("%v, %v", f.Inputs, f.Regs)
	}
	p.says(frame(1, 2, 0, 1, 0, 9), frame(1, 2, 2, 8, 1))
	p.says(frame(1, 4, 0, 2, 0, 5), frame(1, 4, 10, 255, 255, 0, 0, 0, 0, 156, 64, 0, 1))
	at := p.s.Now()
	p.all(bit(at, 4, 0), reg(at, 2, 0))
	p.says(frame(1, 2, 0, 1, 0, 9), frame(1, 2, 2, 0, 1))
	p.says(frame(1, 4, 0, 2, 0, 1), frame(1, 4, 2, 0, 0))
}

// TestInputsAtEachPlace: SL2: the server's error of each place, of both kinds; beside it, time has gone on.
func TestInputsAtEachPlace(t *testing.T) {
	p := start(t, config(small), 0)
	at := 0
	places := slices.Clone(far)
	for place := -3; place < 300; place++ {
		places = append(places, place)
	}
	for _, place := range append(places, 65535) {
		for _, v := range []int{0, 1, 7, 65535, 65536, math.MinInt, math.MaxInt} {
			at++
			want := api.BadAddress
			if place >= 1 && place < 10 {
				want = api.OK
			}
			if _, err := p.do(bit(at, place, v)); err != want {
				t.Fatalf("the discrete input %d: %v", place, err)
			}
			want = api.BadAddress
			if place >= 2 && place < 7 {
				want = api.OK
			}
			if _, err := p.do(reg(at, place, v)); err != want {
				t.Fatalf("the input register %d: %v", place, err)
			}
			if p.s.Now() != at {
				t.Fatalf("it has come to %d, not %d", p.s.Now(), at)
			}
		}
	}
}

// TestBytesBesideAnError: SL2: what began is told beside an input's error, too.
func TestBytesBesideAnError(t *testing.T) {
	for k := 2; k < 4; k++ {
		for at := 14; at < 40; at++ {
			p := start(t, config(small), 0)
			p.all(come(frame(1, 7), 10, 1)...)
			want := sent(frame(1, 7, 0), 20, 1)[:min(max(at-19, 0), 5)]
			l, err := p.do(api.Event{Kind: k, At: at, Place: 900})
			if err != api.BadAddress || !slices.Equal(l, want) {
				t.Fatalf("kind %d at %d: %v, %v, want %v", k, at, l, err, want)
			}
			if p.s.Now() != at {
				t.Fatalf("it has come to %d, not %d", p.s.Now(), at)
			}
		}
	}
}

// TestInputsAreMeasuredBehindTime: SL2: time goes on first: what a frame asks for where it is over is what was measured ahead of then.
func TestInputsAreMeasuredBehindTime(t *testing.T) {
	for at := 4; at < 30; at++ {
		p := start(t, config(small), 0)
		l := frame(1, 4, 0, 3, 0, 1) // from 4 to 11, over at 15
		var told []api.Out
		done := false
		for _, e := range come(l, 4, 1) {
			if at < e.At && !done {
				p.do(reg(at, 3, 9))
				done = true
			}
			told = append(told, p.all(e)...)
		}
		if !done {
			told = append(told, p.all(reg(at, 3, 9))...)
		}
		told = append(told, p.all(idle(100))...)
		want := frame(1, 4, 2, 0, 0)
		if at < 15 {
			want = frame(1, 4, 2, 0, 9)
		}
		if !slices.Equal(told, sent(want, 18, 1)) {
			t.Fatalf("measured at %d: %v", at, told)
		}
	}
}

// TestInputsWhileSending: SL2: inputs are measured while it is sending, too, and what is planned stays as it is.
func TestInputsWhileSending(t *testing.T) {
	p := start(t, config(small), 0)
	p.all(reg(0, 3, 5))
	told := p.all(come(frame(1, 4, 0, 3, 0, 1), 4, 1)...) // over at 15, begun at 18, ended at 25
	for at := 15; at < 25; at++ {
		told = append(told, p.all(reg(at, 3, 1000+at), bit(at, 1, at%2))...)
	}
	told = append(told, p.all(idle(25))...)
	if !slices.Equal(told, sent(frame(1, 4, 2, 0, 5), 18, 1)) {
		t.Fatalf("%v", told)
	}
	p.says(frame(1, 4, 0, 3, 0, 1), frame(1, 4, 2, 4, 0))
}

// SL3: the last times.

// TestOverNearTheLastTime: SL3: a segment that is over at the last time is taken, one that would be over beyond it is not; Due tells the last time of both.
func TestOverNearTheLastTime(t *testing.T) {
	for _, w := range lines[:6] {
		for _, beyond := range []int{-3, -2, -1, 0, 1, 2, 3, w.Long} {
			l := frame(1, 6, 0, 3, 0, 9)
			last := lastTime - w.Long + min(beyond, w.Long)
			first := last - 7*w.Char
			p := start(t, config(w), first-w.Long)
			p.all(come(l, first, w.Char)...)
			if at, ok := p.s.Due(); at != min(last+w.Long, lastTime) || !ok {
				t.Fatalf("%+v, over %d beyond: Due() = %d, %v", w, beyond, at, ok)
			}
			told := p.all(idle(lastTime))
			told = append(told, p.all(idle(lastTime))...)
			taken := beyond <= 0
			if (p.s.Server().File().Holding[3] == 9) != taken {
				t.Fatalf("%+v, over %d beyond: the register is %d", w, beyond, p.s.Server().File().Holding[3])
			}
			came, _ := p.s.Held()
			at, ok := p.s.Due()
			if taken && (came > 0 || at > 0 || ok) || !taken && (came != 8 || at != lastTime || !ok) {
				t.Fatalf("%+v, over %d beyond: %d are held, Due() = %d, %v", w, beyond, came, at, ok)
			}
			var want []api.Out
			if taken {
				want = sent(l, last+w.Long+w.Turn, w.Char)
			}
			for i := range want {
				want[i].At = min(want[i].At, lastTime)
			}
			if !slices.Equal(told, want) || p.s.Sending() {
				t.Fatalf("%+v, over %d beyond: %v, want %v", w, beyond, told, want)
			}
		}
	}
}

// TestAtTheLastTime: SL3: at the last time it still hears bytes, and does all else, but no segment is over.
func TestAtTheLastTime(t *testing.T) {
	for _, ahead := range []bool{false, true} {
		p := start(t, config(small), lastTime-100)
		if ahead {
			p.all(come(frame(1, 7), lastTime-10, 1)...) // over at the third tick ahead of the last time
		}
		told := p.all(idle(lastTime))
		if n := len(told); ahead && n != 5 || !ahead && n != 0 {
			t.Fatalf("%v", told)
		}
		for i := range 300 {
			p.do(heard(lastTime, byte(i)))
			p.do(idle(lastTime))
			p.do(reg(lastTime, 3, i))
			if _, err := p.do(idle(lastTime + 1)); err != api.ErrArg {
				t.Fatalf("beyond the last time: %v", err)
			}
			if came, _ := p.s.Held(); came != min(i+1, room) {
				t.Fatalf("of %d bytes %d are held", i+1, came)
			}
		}
	}
}

// TestPlannedNearTheLastTime: SL3: bytes that would begin beyond the last time begin at it, and sending ends at it, behind them.
func TestPlannedNearTheLastTime(t *testing.T) {
	for left := range 20 {
		p := start(t, config(small), lastTime-200)
		first := lastTime - left - 7
		p.all(come(frame(1, 7), first, 1)...) // over so many ticks ahead of the last time
		over := lastTime - left
		var told []api.Out
		for at := over; at < lastTime; at++ {
			told = append(told, p.all(idle(at))...)
			if !p.s.Sending() && at < over+8 {
				t.Fatalf("%d left: it is not sending at %d", left, at)
			}
		}
		told = append(told, p.all(idle(lastTime))...)
		want := sent(frame(1, 7, 0), over+3, 1)
		for i := range want {
			want[i].At = min(want[i].At, lastTime)
		}
		if !slices.Equal(told, want) || p.s.Sending() {
			t.Fatalf("%d left: %v, want %v; sending is %v", left, told, want, p.s.Sending())
		}
		if got := see(p.s); got != (look{now: lastTime}) {
			t.Fatalf("%d left: %+v", left, got)
		}
	}
}

// SL1: Server and Clone.

// TestServerIsAnotherOne: SL1: what is done to the server that is told is not done to its own, and the other way round.
func TestServerIsAnotherOne(t *testing.T) {
	p := start(t, config(small), 0)
	p.says(frame(1, 6, 0, 3, 0, 9), frame(1, 6, 0, 3, 0, 9))
	v := p.s.Server()
	v.Serve([]byte{6, 0, 3, 0, 1}, false)
	v.Serve([]byte{8, 0, 4, 0, 0}, false)
	v.Sense(true, 3, 9)
	v.Heard(true, true, true)
	v.Count(2)
	check(t, p.s, p.m, "its server is another one")
	v = p.s.Server()
	kept := v.Clone()
	p.says(frame(1, 6, 0, 3, 0, 4), frame(1, 6, 0, 3, 0, 4))
	p.says(frame(1, 8, 0, 4, 0, 0), nil)
	p.all(reg(p.s.Now(), 3, 77), bit(p.s.Now(), 3, 1))
	if !sameServer(v, kept) {
		t.Error("a server that was told was changed")
	}
	if f := p.s.Server().File(); f.Holding[3] != 4 || f.Regs[1] != 77 || !p.s.Server().Listening() {
		t.Errorf("its own server: %v, %v", f.Holding, f.Regs)
	}
}

// TestClonesAreApart: SL1: clones at each tick of an exchange go on as the slave itself does, and nothing that happens to one happens to the other.
func TestClonesAreApart(t *testing.T) {
	l := frame(1, 16, 0, 1, 0, 2, 4, 9, 8, 7, 6) // from 10 to 22, over at 26, begun at 29, ended at 37
	for at := range 45 {
		p := start(t, config(small), 0)
		step := func(q pair, at int) []api.Out {
			if at >= 10 && at <= 22 {
				return q.all(heard(at, l[at-10]))
			}
			return q.all(idle(at))
		}
		for now := range at {
			step(p, now)
		}
		q, r := p.apart(), p.apart()
		if q.s == p.s {
			t.Fatal("a clone is the slave itself")
		}
		r.all(spoilt(at, 9), reg(at, 3, 7), heard(at+1, 3), idle(at+5), bit(at+9, 3, 1), idle(at+200))
		r.says(frame(1, 6, 0, 5, 0, 5), frame(1, 6, 0, 5, 0, 5))
		check(t, p.s, p.m, "the slave, behind what its clone did")
		var first, second []api.Out
		for now := at; now < 60; now++ {
			first = append(first, step(p, now)...)
		}
		check(t, q.s, q.m, "the clone, behind what the slave did")
		for now := at; now < 60; now++ {
			second = append(second, step(q, now)...)
		}
		if !slices.Equal(first, second) || see(p.s) != see(q.s) || !sameServer(p.s.Server(), q.s.Server()) {
			t.Fatalf("a clone at %d: %v, not %v", at, second, first)
		}
	}
}

// TestWhatIsToldIsNewMemory: rule 5: bytes that were told can be written over, and behind their length, and nothing changes.
func TestWhatIsToldIsNewMemory(t *testing.T) {
	spoil := func(l []api.Out) {
		for i := range l[:cap(l)] {
			l[:cap(l)][i] = api.Out{At: -1, B: 255}
		}
	}
	l := frame(1, 8, 0, 0, 5, 6, 7, 8)
	for step := 1; step < 12; step++ {
		p := start(t, config(small), 0)
		p.all(come(l, 10, 1)...)
		over := 10 + len(l) - 1 + 4
		p.do(idle(over))
		q := p.apart()
		var told []api.Out
		for at := over; at < over+30; at += step {
			got, _ := p.s.Do(idle(at))
			told = append(told, got...)
			spoil(got)
			c := p.s.Clone()
			got, _ = c.Do(idle(at + 2))
			spoil(got)
		}
		if !slices.Equal(told, sent(l, over+3, 1)) {
			t.Fatalf("by steps of %d: %v", step, told)
		}
		if want := q.all(idle(over + 30)); !slices.Equal(told, want) {
			t.Fatalf("by steps of %d: %v, want %v", step, told, want)
		}
	}
}

// SL4: what follows.

// script is what happens on a line, by chance: frames of all sorts, whole, cut and spoilt, with silences of all kinds, inputs, and bytes at any time.
func script(r *rand.Rand, w api.Times, from, n int) []api.Event {
	var l []api.Event
	at := from
	gaps := []int{0, 1, w.Char, w.Short, w.Short + 1, w.Long - 1, w.Long, w.Long + 1, w.Long + w.Turn, w.Long + w.Turn + 5*w.Char, 3*w.Long + w.Turn + 20*w.Char}
	for range n {
		at += gaps[r.IntN(len(gaps))]
		switch r.IntN(8) {
		case 0:
			l = append(l, idle(at))
		case 1:
			l = append(l, bit(at, r.IntN(12), r.IntN(3)))
		case 2:
			l = append(l, reg(at, r.IntN(9), r.IntN(70000)))
		case 3:
			l = append(l, api.Event{Kind: 1, At: at, B: byte(r.IntN(256)), Bad: r.IntN(4) == 0})
		default:
			at += []int{0, w.Long, 2*w.Long + w.Turn + 20*w.Char}[r.IntN(3)]
			for _, b := range frame([]int{0, 1, 1, 1, 2}[r.IntN(5)], said[r.IntN(len(said))]...) {
				at += w.Char
				if r.IntN(40) == 0 {
					at += gaps[r.IntN(len(gaps))]
				}
				l = append(l, api.Event{Kind: 1, At: at, B: b, Bad: r.IntN(200) == 0})
			}
		}
	}
	return l
}

// TestLongRuns: SL1 to SL3 over long runs by chance, with what Do refuses among them.
func TestLongRuns(t *testing.T) {
	r := rand.New(rand.NewPCG(26, 1))
	answers := 0
	for _, w := range lines {
		for _, from := range []int{0, 5, lastTime / 2, lastTime - 300*w.Long} {
			if from < 0 {
				continue
			}
			for range 12 {
				p := start(t, config(w), from)
				for _, e := range script(r, w, from, 60) {
					if r.IntN(20) == 0 {
						p.do(event([]int{-1, 0, 1, 2, 3, 4}[r.IntN(6)], []int{p.m.now - 1, lastTime + 1}[r.IntN(2)]))
					}
					p.do(e)
					if p.s.Server().Listening() && r.IntN(8) == 0 && p.m.now < lastTime/2 {
						p.ask(frame(1, 8, 0, 1, 0, 0))
					}
				}
				p.do(idle(lastTime))
				answers += p.m.answers
			}
		}
	}
	if answers < 500 {
		t.Errorf("only %d answers: the runs ask too little", answers)
	}
}

// played is all that a slave sends by a script, with the end of all time behind it.
func played(s *slave.Slave, l []api.Event) []api.Out {
	var told []api.Out
	for _, e := range append(slices.Clone(l), idle(lastTime)) {
		got, _ := s.Do(e)
		told = append(told, got...)
	}
	return told
}

// TestScriptInParts: SL4: a script in parts does what it does as a whole, wherever it is cut, and whoever goes on with it.
func TestScriptInParts(t *testing.T) {
	r := rand.New(rand.NewPCG(26, 2))
	for _, w := range lines {
		for range 6 {
			l := script(r, w, 0, 20)
			whole := made(t, config(w), 0)
			want := played(whole, l)
			s := made(t, config(w), 0)
			var told []api.Out
			for i := range l {
				rest := s.Clone()
				if got := played(rest, l[i:]); !slices.Equal(slices.Concat(told, got), want) || !sameServer(rest.Server(), whole.Server()) || see(rest) != see(whole) {
					t.Fatalf("cut ahead of %d: %v and %v, want %v", i, told, got, want)
				}
				got, _ := s.Do(l[i])
				told = append(told, got...)
			}
		}
	}
}

// TestTimeToldBetween: SL4: time that is told between events changes nothing: at each tick, at each time that is due, and by chance.
func TestTimeToldBetween(t *testing.T) {
	r := rand.New(rand.NewPCG(26, 3))
	betweens := map[string]func(s *slave.Slave, to int) []int{
		"each tick": func(s *slave.Slave, to int) []int {
			var l []int
			for at := s.Now(); at <= to && len(l) < 2000; at++ {
				l = append(l, at)
			}
			return l
		},
		"what is due": func(s *slave.Slave, to int) []int {
			if at, ok := s.Due(); ok && at <= to {
				return []int{at}
			}
			return nil
		},
		"by chance": func(s *slave.Slave, to int) []int {
			l := make([]int, r.IntN(4))
			for i := range l {
				l[i] = s.Now() + r.IntN(to-s.Now()+1)
			}
			slices.Sort(l)
			return l
		},
	}
	for name, between := range betweens {
		for _, w := range lines {
			for range 6 {
				l := script(r, w, 0, 30)
				whole, s := made(t, config(w), 0), made(t, config(w), 0)
				want := played(whole, l)
				var told []api.Out
				for _, e := range l {
					for range 600 { // as often as something more is due
						times := between(s, e.At)
						for _, at := range times {
							got, err := s.Do(idle(at))
							if err != api.OK {
								t.Fatalf("%s: Do at %d: %v", name, at, err)
							}
							told = append(told, got...)
						}
						if name != "what is due" || len(times) == 0 {
							break
						}
					}
					got, _ := s.Do(e)
					told = append(told, got...)
				}
				told = append(told, played(s, nil)...)
				if !slices.Equal(told, want) || !sameServer(s.Server(), whole.Server()) || see(s) != see(whole) {
					t.Fatalf("%s, %+v: %v, want %v", name, w, told, want)
				}
			}
		}
	}
}

// still is what a slave looks like, but for the time that it has come to.
func still(s *slave.Slave) look {
	l := see(s)
	l.now = 0
	return l
}

// TestDueIsWhenSomethingHappens: SL1: ahead of Due nothing happens, and at it something does.
func TestDueIsWhenSomethingHappens(t *testing.T) {
	r := rand.New(rand.NewPCG(26, 4))
	happened := 0
	for _, w := range lines {
		for range 12 {
			s := made(t, config(w), 0)
			for _, e := range script(r, w, 0, 30) {
				for at, ok := s.Due(); ok && at <= e.At; at, ok = s.Due() {
					was, v := still(s), s.Server()
					if at > s.Now() {
						l, _ := s.Do(idle(at - 1))
						if len(l) > 0 || still(s) != was || !sameServer(s.Server(), v) {
							t.Fatalf("ahead of %d: %v, %+v, was %+v", at, l, still(s), was)
						}
					}
					s.Do(idle(at))
					if still(s) == was {
						t.Fatalf("at %d nothing happened: %+v", at, was)
					}
					happened++
				}
				s.Do(e)
			}
		}
	}
	if happened < 1000 {
		t.Errorf("only %d things happened: the scripts ask too little", happened)
	}
}

// TestItSendsButAnswers: SL4: whatever happens, what it sends are whole frames of its station, each Long and Turn behind the end of some byte, one for each that it had to answer; it never holds more than 256 bytes.
func TestItSendsButAnswers(t *testing.T) {
	r := rand.New(rand.NewPCG(26, 5))
	for _, w := range lines {
		for range 20 {
			s, m := made(t, config(w), 0), newModel(config(w), 0)
			var told []api.Out
			ends := map[int]bool{}
			for _, e := range append(script(r, w, 0, 60), idle(lastTime)) {
				if e.Kind == 1 {
					ends[e.At] = true
				}
				m.do(e)
				l, _ := s.Do(e)
				told = append(told, l...)
				if came, out := s.Held(); came > room || out > room || came > 0 && out > 0 {
					t.Fatalf("%d and %d bytes are held", came, out)
				}
			}
			answers := 0
			for len(told) > 0 {
				n := 1
				for n < len(told) && told[n].At == told[n-1].At+w.Char {
					n++
				}
				var l []byte
				for _, o := range told[:n] {
					l = append(l, o.B)
				}
				if !crc.Check(l) || len(l) < 4 || l[0] != 1 || !ends[told[0].At-w.Long-w.Turn] {
					t.Fatalf("%+v: it sent %v at %d", w, l, told[0].At)
				}
				answers++
				told = told[n:]
			}
			if answers != m.answers {
				t.Fatalf("%+v: it answered %d, not %d", w, answers, m.answers)
			}
		}
	}
}

// TestTheSameEachTime: rule 7: the same script comes to the same, each time.
func TestTheSameEachTime(t *testing.T) {
	r := rand.New(rand.NewPCG(26, 6))
	l := script(r, small, 0, 300)
	first := made(t, config(small), 0)
	want := played(first, l)
	for range 5 {
		s := made(t, config(small), 0)
		if got := played(s, l); !slices.Equal(got, want) || !sameServer(s.Server(), first.Server()) {
			t.Fatal("it came to something else")
		}
	}
}

// TestAnyEvents: rule 1: Do ends and does not panic, whatever the events are.
func TestAnyEvents(t *testing.T) {
	r := rand.New(rand.NewPCG(26, 7))
	for _, w := range lines {
		for range 20 {
			p := start(t, config(w), r.IntN(2)*lastTime)
			for range 200 {
				at := []int{p.m.now, p.m.now + r.IntN(3), p.m.now + r.IntN(2*w.Long), far[r.IntN(len(far))], r.IntN(lastTime)}[r.IntN(5)]
				if at > p.m.now+100*longest && r.IntN(30) > 0 {
					at = p.m.now + 1
				}
				p.do(api.Event{Kind: r.IntN(6) - 1, At: at, B: byte(r.IntN(3)), Bad: r.IntN(2) == 0, Place: far[r.IntN(len(far))] + r.IntN(2), Value: far[r.IntN(len(far))]})
			}
		}
	}
}
