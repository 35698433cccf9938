package server_test

import (
	"bytes"
	"fmt"
	"math"
	"math/rand/v2"
	"slices"
	"testing"

	"bilge/api"
	"bilge/ask"
	"bilge/data"
	"bilge/ident"
	"bilge/server"
	"bilge/tell"
)

// far are numbers at the ends of int, and at those of other types.
var far = []int{
	math.MinInt, math.MinInt + 1, math.MinInt + 65536, -1 << 32, -1<<32 + 3, -1 << 31, -65537, -65536, -65535, -256, -8, -2, -1,
	256, 65536, 65537, 131072, 1 << 31, 1 << 32, 1<<32 + 1, 1<<32 + 7, math.MaxInt - 65535, math.MaxInt - 1, math.MaxInt,
}

// device is the least that a device tells of itself.
var device = []api.Object{{ID: 0}, {ID: 1}, {ID: 2}}

// things is what another device tells of itself: it has objects of all sorts, and more bytes than one answer has room for.
func things() []api.Object {
	l := []api.Object{{ID: 0, Data: []byte("bilge")}, {ID: 1, Data: []byte{7}}, {ID: 2}, {ID: 5, Data: []byte("pump")}}
	for id := 128; id < 132; id++ {
		l = append(l, api.Object{ID: id, Data: bytes.Repeat([]byte{byte(id)}, 100)})
	}
	return append(l, api.Object{ID: 255, Data: bytes.Repeat([]byte{9}, 240)})
}

// some is a bank whose windows have other places and other sizes each.
var some = api.Bank{
	Coils:   api.Window{From: 3, Count: 12},
	Inputs:  api.Window{From: 0, Count: 9},
	Holding: api.Window{From: 1, Count: 10},
	Regs:    api.Window{From: 2, Count: 5},
	Broken:  api.Window{From: 8, Count: 2},
}

// config is what most servers of these tests are made of.
func config() server.Config {
	return server.Config{Bank: some, Objects: things(), ID: []byte{7, 8, 9}, Status: 5}
}

// model is a server by the document's words: it has its own counters, log and state of the line.
type model struct {
	c         server.Config
	f         api.File
	counters  [8]uint16
	listening bool
	events    []byte // the last one first
	finished  uint16
}

// newModel is the model of a server in which nothing happened.
func newModel(c server.Config) *model {
	return &model{c: c, f: api.File{
		Bank:    c.Bank,
		Coils:   make([]bool, c.Bank.Coils.Count),
		Inputs:  make([]bool, c.Bank.Inputs.Count),
		Holding: make([]uint16, c.Bank.Holding.Count),
		Regs:    make([]uint16, c.Bank.Regs.Count),
	}}
}

// clone is another model that is the same.
func (m *model) clone() *model {
	same := *m
	same.events = slices.Clone(m.events)
	same.f.Coils, same.f.Inputs = slices.Clone(m.f.Coils), slices.Clone(m.f.Inputs)
	same.f.Holding, same.f.Regs = slices.Clone(m.f.Holding), slices.Clone(m.f.Regs)
	return &same
}

// event lets an event be the last one; there are at most 64.
func (m *model) event(b byte) {
	m.events = append([]byte{b}, m.events...)
	m.events = m.events[:min(len(m.events), 64)]
}

// heard lets a frame have come.
func (m *model) heard(spoilt, over, all bool) {
	b := byte(128)
	if spoilt {
		b += 2
	}
	if over {
		b += 16
	}
	if m.listening {
		b += 32
	}
	if all {
		b += 64
	}
	m.event(b)
}

// restarted lets the log have begun anew.
func (m *model) restarted(wipe bool) {
	if wipe {
		m.events = nil
	}
	m.event(0)
	m.finished = 0
}

// restart tells whether what is said is a restart, and whether that wipes.
func restart(pdu []byte) (is, wipe bool) {
	wipe = bytes.Equal(pdu, []byte{8, 0, 1, 255, 0})
	return wipe || bytes.Equal(pdu, []byte{8, 0, 1, 0, 0}), wipe
}

// line is what function 8 comes to, but for the log: what is said, and the code.
func (m *model) line(rest []byte) ([]byte, api.Errno) {
	if len(rest) < 2 {
		return nil, api.BadValue
	}
	number := int(rest[0])<<8 + int(rest[1])
	if number > 4 && number < 10 || number == 19 || number > 20 {
		return nil, api.BadFunction
	}
	if number == 0 {
		if len(rest) < 4 || len(rest) > 252 || len(rest)%2 == 1 {
			return nil, api.BadValue
		}
		return slices.Concat([]byte{8}, rest), api.OK
	}
	if len(rest) != 4 {
		return nil, api.BadValue
	}
	w := int(rest[2])<<8 + int(rest[3])
	if number == 1 && w != 0 && w != 65280 || number == 3 && w%256 != 0 || number != 1 && number != 3 && w != 0 {
		return nil, api.BadValue
	}
	said := slices.Concat([]byte{8}, rest)
	switch {
	case number == 1:
		m.counters, m.listening = [8]uint16{}, false
	case number == 4:
		m.listening = true
		return nil, api.OK
	case number == 10:
		m.counters = [8]uint16{}
	case number >= 11 && number <= 18:
		n := m.counters[number-11]
		said[3], said[4] = byte(n>>8), byte(n)
	case number == 20:
		m.counters[7] = 0
	}
	return said, api.OK
}

// status is what function 7 tells.
func (m *model) status() byte {
	var b byte
	for k := range 8 {
		at := m.c.Status + k - m.f.Bank.Coils.From
		if at >= 0 && at < len(m.f.Coils) && m.f.Coils[at] {
			b += 1 << k
		}
	}
	return b
}

// tables is what the functions of the tables come to.
func (m *model) tables(pdu []byte) ([]byte, api.Errno) {
	f, said, _ := data.Serve(m.f, pdu)
	if said[0] >= 128 {
		return nil, api.Errno(said[1])
	}
	m.f = f
	return said, api.OK
}

// ofTables are the functions of the tables.
var ofTables = []byte{1, 2, 3, 4, 5, 6, 15, 16, 22, 23}

// say is what is said to what is no more than one function's byte and bytes behind; an exception's code beside nothing.
func (m *model) say(pdu []byte) ([]byte, api.Errno) {
	function, rest := pdu[0], pdu[1:]
	if slices.Contains(ofTables, function) {
		return m.tables(pdu)
	}
	if slices.Contains([]byte{7, 11, 12, 17}, function) && len(rest) > 0 {
		return nil, api.BadValue
	}
	count := []byte{0, 0, byte(m.finished >> 8), byte(m.finished)}
	switch function {
	case 7:
		return []byte{7, m.status()}, api.OK
	case 8:
		return m.line(rest)
	case 11:
		return slices.Concat([]byte{11}, count), api.OK
	case 12:
		bus := []byte{byte(m.counters[0] >> 8), byte(m.counters[0])}
		return slices.Concat([]byte{12, byte(6 + len(m.events))}, count, bus, m.events), api.OK
	case 17:
		return slices.Concat([]byte{17, byte(len(m.c.ID) + 1)}, m.c.ID, []byte{255}), api.OK
	case 43:
		said, err := ident.Answer(m.c.Objects, rest)
		return slices.Concat([]byte{43}, said), err
	}
	return nil, api.BadFunction
}

// serve is what is done and answered.
func (m *model) serve(pdu []byte, all bool) []byte {
	is, wipe := restart(pdu)
	switch {
	case len(pdu) == 0:
		return nil
	case m.listening:
		if is {
			m.counters, m.listening = [8]uint16{}, false
			m.restarted(wipe)
		}
		return nil
	case all:
		if slices.Contains([]byte{5, 6, 15, 16, 22}, pdu[0]) {
			if _, err := m.tables(pdu); err == api.OK {
				m.finished++
			}
		}
		return nil
	case pdu[0] == 0 || pdu[0] >= 128:
		return nil
	}
	said, err := m.say(pdu)
	if err != api.OK {
		m.counters[2]++
		if err == api.BadDevice {
			m.event(66)
		} else {
			m.event(65)
		}
		return []byte{pdu[0] + 128, byte(err)}
	}
	if m.listening {
		m.event(4)
		m.finished++
		return nil
	}
	if is {
		m.restarted(wipe)
	}
	m.event(64)
	if !is && pdu[0] != 11 && pdu[0] != 12 {
		m.finished++
	}
	return said
}

// sense is what comes of an input that is measured.
func (m *model) sense(words bool, at, value int) api.Errno {
	w := m.f.Bank.Inputs
	if words {
		w = m.f.Bank.Regs
	}
	if at < w.From || at >= w.From+w.Count {
		return api.BadAddress
	}
	if words {
		m.f.Regs[at-w.From] = uint16(value)
	} else {
		m.f.Inputs[at-w.From] = value != 0
	}
	return api.OK
}

// sameFile tells whether two files are the same.
func sameFile(a, b api.File) bool {
	return a.Bank == b.Bank && slices.Equal(a.Coils, b.Coils) && slices.Equal(a.Inputs, b.Inputs) &&
		slices.Equal(a.Holding, b.Holding) && slices.Equal(a.Regs, b.Regs)
}

// check holds all that a server tells against its model.
func check(t *testing.T, s *server.Server, m *model, behind string) {
	t.Helper()
	if !sameFile(s.File(), m.f) {
		t.Fatalf("%s: File: %v, not %v", behind, s.File(), m.f)
	}
	if !slices.Equal(s.All(), m.counters[:]) {
		t.Fatalf("%s: All: %v, not %v", behind, s.All(), m.counters)
	}
	if !bytes.Equal(s.Events(), m.events) {
		t.Fatalf("%s: Events: %v, not %v", behind, s.Events(), m.events)
	}
	if s.Finished() != m.finished || s.Listening() != m.listening {
		t.Fatalf("%s: Finished, Listening: %d, %v, not %d, %v", behind, s.Finished(), s.Listening(), m.finished, m.listening)
	}
}

// pair is a server and its model, to which all is done alike.
type pair struct {
	t *testing.T
	s *server.Server
	m *model
}

// start is a server in which nothing happened, and its model.
func start(t *testing.T, c server.Config) pair {
	t.Helper()
	s := server.New(c)
	if s == nil {
		t.Fatalf("New: no server")
	}
	p := pair{t, s, newModel(c)}
	check(t, p.s, p.m, "New")
	return p
}

// serve says something to both, and holds one against the other.
func (p pair) serve(pdu []byte, all bool) []byte {
	p.t.Helper()
	behind := fmt.Sprintf("Serve(%v, %v)", pdu, all)
	got, want := p.s.Serve(pdu, all), p.m.serve(pdu, all)
	if !bytes.Equal(got, want) {
		p.t.Fatalf("%s: %v, not %v", behind, got, want)
	}
	check(p.t, p.s, p.m, behind)
	return got
}

// fill lets much be another than 0: cells, counters, events, and the count.
func (p pair) fill() {
	p.t.Helper()
	for k := range p.m.f.Bank.Coils.Count {
		if k%3 != 1 {
			p.serve([]byte{5, 0, byte(p.m.f.Bank.Coils.From + k), 255, 0}, false)
		}
	}
	for k := range p.m.f.Bank.Holding.Count {
		p.serve([]byte{6, 0, byte(p.m.f.Bank.Holding.From + k), byte(k + 1), byte(k*50 + 3)}, false)
	}
	for i := range 8 {
		for range 2*i + 1 {
			p.count(i)
		}
	}
	p.sense(false, p.m.f.Bank.Inputs.From+1, 1)
	p.sense(true, p.m.f.Bank.Regs.From+1, 40000)
	p.heard(false, true, false)
}

// count lets a counter of both be one more.
func (p pair) count(i int) {
	p.t.Helper()
	want := api.ErrArg
	if i >= 0 && i < 8 {
		want = api.OK
		p.m.counters[i]++
	}
	if err := p.s.Count(i); err != want {
		p.t.Fatalf("Count(%d): %v, not %v", i, err, want)
	}
	check(p.t, p.s, p.m, fmt.Sprintf("Count(%d)", i))
}

// sense lets an input of both be measured.
func (p pair) sense(words bool, at, value int) {
	p.t.Helper()
	behind := fmt.Sprintf("Sense(%v, %d, %d)", words, at, value)
	got, want := p.s.Sense(words, at, value), p.m.sense(words, at, value)
	if got != want {
		p.t.Fatalf("%s: %v, not %v", behind, got, want)
	}
	check(p.t, p.s, p.m, behind)
}

// heard lets both have heard a frame.
func (p pair) heard(spoilt, over, all bool) {
	p.t.Helper()
	p.s.Heard(spoilt, over, all)
	p.m.heard(spoilt, over, all)
	check(p.t, p.s, p.m, fmt.Sprintf("Heard(%v, %v, %v)", spoilt, over, all))
}

// listen lets both listen only.
func (p pair) listen() {
	p.t.Helper()
	if got := p.serve([]byte{8, 0, 4, 0, 0}, false); len(got) > 0 || !p.s.Listening() {
		p.t.Fatalf("8, 0, 4, 0, 0: %v, listening: %v", got, p.s.Listening())
	}
}

// said are messages of each function that are well said, for the bank some.
var said = [][]byte{
	{1, 0, 3, 0, 12}, {2, 0, 0, 0, 9}, {3, 0, 1, 0, 7}, {4, 0, 2, 0, 5}, {5, 0, 3, 255, 0}, {5, 0, 14, 0, 0}, {6, 0, 3, 0, 9},
	{7}, {8, 0, 0, 1, 2, 3, 4}, {8, 0, 1, 0, 0}, {8, 0, 1, 255, 0}, {8, 0, 2, 0, 0}, {8, 0, 3, 33, 0}, {8, 0, 4, 0, 0}, {8, 0, 10, 0, 0},
	{8, 0, 11, 0, 0}, {8, 0, 12, 0, 0}, {8, 0, 13, 0, 0}, {8, 0, 14, 0, 0}, {8, 0, 15, 0, 0}, {8, 0, 16, 0, 0}, {8, 0, 17, 0, 0}, {8, 0, 18, 0, 0}, {8, 0, 20, 0, 0},
	{11}, {12}, {15, 0, 4, 0, 9, 2, 170, 1}, {16, 0, 1, 0, 2, 4, 9, 8, 7, 6}, {17}, {22, 0, 2, 0, 242, 0, 37},
	{23, 0, 1, 0, 3, 0, 2, 0, 1, 2, 12, 34}, {43, 14, 1, 0}, {43, 14, 2, 1}, {43, 14, 3, 128}, {43, 14, 4, 5},
}

// wrong are messages of each function that are not well said, or come to an exception, for the bank some.
var wrong = [][]byte{
	{1}, {1, 0, 3, 0}, {1, 0, 3, 0, 0}, {1, 0, 3, 7, 209}, {1, 0, 2, 0, 1}, {1, 0, 3, 0, 13}, {1, 0, 3, 0, 12, 0},
	{2, 0, 0, 0, 10}, {2, 0, 9, 0, 1}, {3, 0, 0, 0, 1}, {3, 0, 8, 0, 1}, {3, 0, 7, 0, 2}, {3, 0, 10, 0, 2}, {3, 0, 1, 0, 126}, {4, 0, 1, 0, 1}, {4, 0, 2, 0, 6},
	{5, 0, 3, 0, 1}, {5, 0, 2, 255, 0}, {5, 0, 15, 0, 0}, {5, 0, 3, 255}, {6, 0, 0, 0, 1}, {6, 0, 11, 0, 1}, {6, 0, 9, 0, 1}, {6, 0, 3, 0, 9, 0},
	{7, 0}, {8}, {8, 0}, {8, 0, 0}, {8, 0, 0, 1}, {8, 0, 0, 1, 2, 3}, {8, 0, 1}, {8, 0, 1, 0, 1}, {8, 0, 1, 255, 255}, {8, 0, 1, 0, 0, 0}, {8, 0, 1, 255, 0, 0, 0},
	{8, 0, 2, 0, 1}, {8, 0, 3, 33, 1}, {8, 0, 4}, {8, 0, 4, 0, 1}, {8, 0, 4, 0, 0, 0}, {8, 0, 5, 0, 0}, {8, 0, 10, 1, 0}, {8, 0, 11, 0, 1}, {8, 0, 19, 0, 0}, {8, 0, 20, 0, 1}, {8, 0, 21, 0, 0}, {8, 1, 1, 0, 0}, {8, 255, 255},
	{11, 0}, {12, 0}, {11, 1, 2}, {12, 1, 2}, {15, 0, 4, 0, 9, 1, 170}, {15, 0, 4, 0, 12, 2, 1, 1}, {16, 0, 7, 0, 2, 4, 1, 1, 1, 1}, {16, 0, 10, 0, 2, 4, 1, 1, 1, 1}, {16, 0, 1, 0, 0, 0},
	{17, 0}, {17, 17}, {22, 0, 8, 0, 0, 0, 0}, {22, 0, 0, 0, 0, 0, 0}, {22, 0, 2, 0, 0, 0}, {23, 0, 8, 0, 1, 0, 1, 0, 1, 2, 1, 1}, {23, 0, 1, 0, 1, 0, 9, 0, 1, 2, 1, 1}, {23, 0, 0, 0, 1, 0, 9, 0, 1, 2, 1, 1},
	{43}, {43, 13}, {43, 13, 1, 0}, {43, 14}, {43, 14, 1}, {43, 14, 0, 0}, {43, 14, 5, 0}, {43, 14, 4, 9}, {43, 14, 1, 0, 0},
	{9}, {10, 1}, {13}, {14}, {18, 0}, {20}, {21}, {24}, {42}, {44, 14, 1, 0}, {65}, {100}, {126}, {127}, {127, 1, 2, 3},
}

// unsaid are messages to which nothing is said.
var unsaid = [][]byte{nil, {}, {0}, {0, 3, 0, 9}, {128}, {129, 2}, {131, 0, 1, 0, 1}, {133, 0, 3, 255, 0}, {135}, {136, 0, 1, 0, 0}, {139}, {171, 14, 1, 0}, {254}, {255, 255}}

// TestExamples: the examples of chapter 23, and those of the whole that a server comes to.
func TestExamples(t *testing.T) {
	p := start(t, server.Config{Objects: device, Bank: api.Bank{Holding: api.Window{Count: 10}}})
	for _, c := range []struct{ pdu, want []byte }{
		{[]byte{7}, []byte{7, 0}},
		{[]byte{9}, []byte{137, 1}},
		{[]byte{6, 0, 3, 0, 9}, []byte{6, 0, 3, 0, 9}},
		{[]byte{3, 0, 9, 0, 2}, []byte{131, 2}},
		{[]byte{3, 0, 3, 0, 1}, []byte{3, 2, 0, 9}},
		{[]byte{43, 14, 1, 0}, []byte{43, 14, 1, 129, 0, 0, 3, 0, 0, 1, 0, 2, 0}},
		{[]byte{8, 0, 4, 0, 0}, nil},
		{[]byte{7}, nil},
		{[]byte{8, 0, 1, 0, 0}, nil},
		{[]byte{7}, []byte{7, 0}},
	} {
		if got := p.serve(c.pdu, false); !bytes.Equal(got, c.want) {
			t.Errorf("Serve(%v): %v, not %v", c.pdu, got, c.want)
		}
	}
	p.serve([]byte{6, 0, 4, 1, 2}, true)
	if f := p.s.File(); f.Holding[3] != 9 || f.Holding[4] != 258 {
		t.Errorf("the registers: %v", f.Holding)
	}
}

// TestSound: SV1: which configs may be, and that New tells no server of others.
func TestSound(t *testing.T) {
	sound := func(c server.Config, want bool, why string) {
		t.Helper()
		if got := server.Sound(c); got != want {
			t.Errorf("Sound: %s: %v", why, got)
		}
		if s := server.New(c); (s != nil) != want {
			t.Errorf("New: %s: %v", why, s)
		}
	}
	sound(config(), true, "the config of these tests")
	sound(server.Config{}, false, "a config without objects")
	sound(server.Config{Objects: device}, true, "a config with objects alone")

	fields := func(b *api.Bank) []*api.Window {
		return []*api.Window{&b.Coils, &b.Inputs, &b.Holding, &b.Regs, &b.Broken}
	}
	for k := range 5 {
		for _, w := range []api.Window{{From: -1}, {Count: -1}, {From: 65536}, {From: 65535, Count: 2}, {From: 1, Count: 65536}, {Count: 65537}, {From: math.MaxInt, Count: math.MaxInt}, {From: math.MinInt, Count: 1}} {
			c := config()
			*fields(&c.Bank)[k] = w
			sound(c, false, fmt.Sprintf("the window %d is %v", k, w))
		}
		for _, w := range []api.Window{{}, {From: 65535}, {From: 65535, Count: 1}, {Count: 65536}, {From: 1, Count: 65535}} {
			c := config()
			*fields(&c.Bank)[k] = w
			sound(c, true, fmt.Sprintf("the window %d is %v", k, w))
		}
	}
	for _, l := range [][]api.Object{
		nil, {{ID: 0}, {ID: 1}}, {{ID: 0}, {ID: 2}, {ID: 1}}, {{ID: 0}, {ID: 1}, {ID: 2}, {ID: 2}}, append(slices.Clone(device), api.Object{ID: 7}),
		append(slices.Clone(device), api.Object{ID: 127}), append(slices.Clone(device), api.Object{ID: 256}), append(slices.Clone(device), api.Object{ID: 3, Data: make([]byte, 241)}),
		{{ID: -1}, {ID: 0}, {ID: 1}, {ID: 2}}, {{ID: 1}, {ID: 2}, {ID: 3}},
	} {
		c := config()
		c.Objects = l
		sound(c, false, fmt.Sprintf("the objects are %v", l))
	}
	for n, want := range map[int]bool{0: true, 1: true, 239: true, 240: true, 241: false, 255: false, 256: false, 496: false, 65536: false} {
		c := config()
		c.ID = make([]byte, n)
		sound(c, want, fmt.Sprintf("the ID has %d bytes", n))
	}
	for _, n := range slices.Concat(far, []int{-7, 0, 1, 7, 255, 300, 65534, 65535}) {
		c := config()
		c.Status = n
		sound(c, n >= 0 && n <= 65535, fmt.Sprintf("the status is %d", n))
	}
}

// TestNew: SV1: in a new server nothing happened, whatever its bank is.
func TestNew(t *testing.T) {
	banks := []api.Bank{
		{}, some, {Coils: api.Window{Count: 65536}}, {Regs: api.Window{From: 65535, Count: 1}},
		{Inputs: api.Window{From: 100, Count: 65436}, Holding: api.Window{Count: 65536}, Broken: api.Window{Count: 65536}},
	}
	for _, b := range banks {
		p := start(t, server.Config{Bank: b, Objects: device})
		if n := len(p.s.All()); n != 8 {
			t.Errorf("All: %d counters", n)
		}
		if len(p.s.Events()) > 0 || p.s.Finished() != 0 || p.s.Listening() {
			t.Errorf("something happened in a new server")
		}
	}
}

// TestApartFromConfig: SV1: what a server is made of is neither changed nor kept, and nothing behind a length is read.
func TestApartFromConfig(t *testing.T) {
	c := config()
	id := append([]byte{7, 8, 9}, 99)
	c.ID = id[:3]
	objects := append(things(), api.Object{ID: 3, Data: []byte{1}})
	c.Objects = objects[:len(objects)-1]
	first := append([]byte("bilge"), 77)
	c.Objects[0].Data = first[:5]
	p := start(t, c)
	p.m.c = config()
	if !slices.Equal(id, []byte{7, 8, 9, 99}) || string(first) != "bilgeM" || objects[len(objects)-1].ID != 3 {
		t.Errorf("New changed what was handed in: %v, %v", id, first)
	}
	id[0], first[0], objects[1].ID, objects[2].Data = 1, 1, 4, []byte{1, 2, 3}
	objects[3] = api.Object{}
	for _, pdu := range [][]byte{{17}, {43, 14, 1, 0}, {43, 14, 3, 0}, {43, 14, 4, 1}, {43, 14, 4, 5}, {43, 14, 4, 255}} {
		p.serve(pdu, false)
	}
}

// TestHeard: SV1: the log's event of each way in which a frame came, and of whether the server listens only.
func TestHeard(t *testing.T) {
	p := start(t, config())
	for range 2 {
		for k := range 8 {
			p.heard(k&1 > 0, k&2 > 0, k&4 > 0)
		}
		if !p.s.Listening() {
			p.listen()
		}
	}
	want := []byte{242, 240, 226, 224, 178, 176, 162, 160, 4, 210, 208, 194, 192, 146, 144, 130, 128}
	if got := p.s.Events(); !bytes.Equal(got, want) {
		t.Errorf("Events: %v, not %v", got, want)
	}
	for range 70 {
		p.heard(false, false, true)
	}
	if n := len(p.s.Events()); n != 64 {
		t.Errorf("%d events are kept", n)
	}
}

// TestCount: SV1: each counter, the numbers of none, and what is behind the greatest number.
func TestCount(t *testing.T) {
	p := start(t, config())
	for i := range 8 {
		for range i + 1 {
			p.count(i)
		}
	}
	for _, i := range slices.Concat(far, []int{8, 9, 255}) {
		p.count(i)
	}
	if got := p.s.All(); !slices.Equal(got, []uint16{1, 2, 3, 4, 5, 6, 7, 8}) {
		t.Errorf("All: %v", got)
	}
	for range 65535 {
		p.s.Count(5)
		p.m.counters[5]++
	}
	p.count(5)
	if got := p.s.All()[5]; got != 6 {
		t.Errorf("the counter 5 behind 65536 more: %d", got)
	}
	p.listen()
	p.count(2)
}

// TestSense: SV1: inputs of both sorts at each place, and where there is none.
func TestSense(t *testing.T) {
	p := start(t, config())
	p.fill()
	values := slices.Concat(far, []int{0, 1, 2, 255, 65535, -1})
	for at := -3; at < 20; at++ {
		for _, v := range values {
			p.sense(false, at, v)
			p.sense(true, at, v)
		}
	}
	for _, at := range far {
		p.sense(false, at, 1)
		p.sense(true, at, 1)
	}
	p.listen()
	p.sense(false, 0, 0)
	p.sense(true, 2, 7)
	p.sense(true, 7, 7)
	empty := start(t, server.Config{Objects: device})
	empty.sense(false, 0, 1)
	empty.sense(true, 0, 1)
	whole := start(t, server.Config{Objects: device, Bank: api.Bank{Inputs: api.Window{Count: 65536}, Regs: api.Window{Count: 65536}}})
	for _, at := range []int{0, 65535, 65536} {
		whole.sense(false, at, 1)
		whole.sense(true, at, 65535)
	}
}

// TestTold: SV1: what is told is new memory, and telling changes nothing.
func TestTold(t *testing.T) {
	p := start(t, config())
	p.fill()
	f := p.s.File()
	f.Coils[0], f.Inputs[0], f.Holding[0], f.Regs[0] = !f.Coils[0], true, 1234, 1234
	p.s.All()[3] = 999
	p.s.Events()[0] = 200
	check(t, p.s, p.m, "changes of what was told")
	for _, pdu := range said {
		got := p.serve(pdu, false)
		again := slices.Clone(got)
		for i := range got {
			got[i] = 255
		}
		check(t, p.s, p.m, "changes of what was answered")
		_ = append(got, 1, 2, 3)
		if p.s.Listening() {
			p.serve([]byte{8, 0, 1, 0, 0}, false)
			continue
		}
		if f := pdu[0]; f == 17 || f == 43 {
			if got = p.serve(pdu, false); !bytes.Equal(got, again) {
				t.Errorf("Serve(%v) again: %v, not %v", pdu, got, again)
			}
		}
	}
}

// TestClone: SV1: a clone is the same, and apart: what happens to one doesn't happen to the other.
func TestClone(t *testing.T) {
	for _, listening := range []bool{false, true} {
		for _, pdu := range slices.Concat(said, wrong, unsaid) {
			p := start(t, config())
			p.fill()
			if listening {
				p.listen()
			}
			q := pair{t, p.s.Clone(), p.m.clone()}
			check(t, q.s, p.m, "Clone")
			p.serve(pdu, false)
			check(t, q.s, q.m, "what happened to the first one")
			was := p.m.clone()
			q.serve(pdu, true)
			q.serve([]byte{8, 0, 1, 255, 0}, false)
			q.heard(true, true, true)
			q.count(3)
			q.sense(true, 3, 5)
			q.sense(false, 3, 1)
			q.serve([]byte{6, 0, 1, 9, 9}, false)
			q.serve([]byte{15, 0, 4, 0, 4, 1, 5}, true)
			q.serve([]byte{17}, false)
			q.serve([]byte{43, 14, 3, 0}, false)
			q.serve([]byte{8, 0, 4, 0, 0}, false)
			check(t, p.s, was, "what happened to the other one")
		}
	}
}

// TestEmpty: SV2: nothing is done where nothing is said.
func TestEmpty(t *testing.T) {
	p := start(t, config())
	p.fill()
	for range 2 {
		for _, pdu := range [][]byte{nil, {}, []byte{8, 0, 1, 0, 0}[:0], []byte{6, 0, 1, 0, 1}[:0]} {
			for _, all := range []bool{false, true} {
				if got := p.serve(pdu, all); len(got) > 0 {
					t.Errorf("Serve of nothing: %v", got)
				}
			}
		}
		if !p.s.Listening() {
			p.listen()
		}
	}
}

// TestListening: SV2: one that listens only does a restart, and nothing else, and answers nothing.
func TestListening(t *testing.T) {
	for _, all := range []bool{false, true} {
		for _, pdu := range slices.Concat(said, wrong, unsaid) {
			p := start(t, config())
			p.fill()
			p.listen()
			was := p.m.clone()
			if got := p.serve(pdu, all); len(got) > 0 {
				t.Errorf("Serve(%v, %v) of one that listens only: %v", pdu, all, got)
			}
			is, wipe := restart(pdu)
			if p.s.Listening() == is {
				t.Errorf("Serve(%v, %v) of one that listens only: Listening: %v", pdu, all, !is)
			}
			if !is {
				check(t, p.s, was, fmt.Sprintf("Serve(%v, %v) of one that listens only", pdu, all))
				continue
			}
			want := slices.Concat([]byte{0}, was.events)
			if wipe {
				want = []byte{0}
			}
			if got := p.s.Events(); !bytes.Equal(got, want[:min(len(want), 64)]) || p.s.Finished() != 0 || !slices.Equal(p.s.All(), make([]uint16, 8)) {
				t.Errorf("Serve(%v, %v) of one that listens only: %v, %d, %v", pdu, all, got, p.s.Finished(), p.s.All())
			}
			p.serve([]byte{12}, false)
			p.listen()
		}
	}
}

// TestListeningForBytes: SV2: of each first byte, and of each number behind an 8, but a restart nothing is done.
func TestListeningForBytes(t *testing.T) {
	p := start(t, config())
	p.fill()
	p.listen()
	for b := range 256 {
		for _, rest := range [][]byte{nil, {0}, {0, 1, 0, 0}, {0, 1, 255, 0}, {0, 3, 255, 0}, {14, 1, 0}, {0, 4, 0, 1, 1, 1}} {
			if b != 8 {
				p.serve(slices.Concat([]byte{byte(b)}, rest), b%2 == 0)
			}
		}
	}
	for n := range 65536 {
		for _, w := range [][]byte{{0, 0}, {255, 0}} {
			if n != 1 {
				p.s.Serve(slices.Concat([]byte{8, byte(n >> 8), byte(n)}, w), false)
			}
		}
	}
	for w := range 65536 {
		if w != 0 && w != 65280 {
			p.s.Serve([]byte{8, 0, 1, byte(w >> 8), byte(w)}, false)
		}
	}
	check(t, p.s, p.m, "what is not done")
	p.serve([]byte{8, 0, 1, 255, 0}, true)
	if p.s.Listening() {
		t.Errorf("it listens only behind a restart that was said to all")
	}
	p.serve([]byte{8, 0, 2, 0, 0}, false)
}

// TestToAll: SV2: what is said to all: five functions write, and are done; nothing is answered, and no exception counts.
func TestToAll(t *testing.T) {
	for _, pdu := range slices.Concat(said, wrong, unsaid) {
		p := start(t, config())
		p.fill()
		was := p.m.clone()
		if got := p.serve(pdu, true); len(got) > 0 {
			t.Errorf("Serve(%v) to all: %v", pdu, got)
		}
		if p.s.Listening() || !bytes.Equal(p.s.Events(), was.events) || !slices.Equal(p.s.All(), was.counters[:]) {
			t.Errorf("Serve(%v) to all: %v, %v, %v", pdu, p.s.Listening(), p.s.Events(), p.s.All())
		}
		writes := len(pdu) > 0 && slices.Contains([]byte{5, 6, 15, 16, 22}, pdu[0]) && slices.ContainsFunc(said, func(b []byte) bool { return bytes.Equal(b, pdu) })
		more := uint16(0)
		if writes {
			more = 1
		}
		if p.s.Finished() != was.finished+more {
			t.Errorf("Serve(%v) to all: %d more finished, not %d", pdu, p.s.Finished()-was.finished, more)
		}
		if !writes && !sameFile(p.s.File(), was.f) {
			t.Errorf("Serve(%v) to all changed a cell", pdu)
		}
	}
}

// TestToAllByHand: SV2: each of the five functions, by hand.
func TestToAllByHand(t *testing.T) {
	p := start(t, config())
	for _, pdu := range [][]byte{{5, 0, 3, 255, 0}, {6, 0, 1, 0, 9}, {15, 0, 4, 0, 3, 1, 5}, {16, 0, 2, 0, 2, 4, 0, 3, 0, 4}, {22, 0, 3, 0, 6, 0, 9}, {23, 0, 1, 0, 1, 0, 4, 0, 1, 2, 7, 7}} {
		p.serve(pdu, true)
	}
	f := p.s.File()
	if !slices.Equal(f.Holding, []uint16{9, 3, 13, 0, 0, 0, 0, 0, 0, 0}) || !slices.Equal(f.Coils, []bool{true, true, false, true, false, false, false, false, false, false, false, false}) {
		t.Errorf("File: %v", f)
	}
	if p.s.Finished() != 5 || len(p.s.Events()) > 0 || !slices.Equal(p.s.All(), make([]uint16, 8)) {
		t.Errorf("%d finished, events %v, counters %v", p.s.Finished(), p.s.Events(), p.s.All())
	}
}

// TestByHand: SV3: what is answered, whether it is finished, and the last event, by hand.
func TestByHand(t *testing.T) {
	c := server.Config{
		Bank:    api.Bank{Coils: api.Window{From: 10, Count: 6}, Inputs: api.Window{Count: 2}, Holding: api.Window{Count: 4}, Regs: api.Window{Count: 2}, Broken: api.Window{From: 3, Count: 1}},
		Objects: []api.Object{{ID: 0, Data: []byte("a")}, {ID: 1}, {ID: 2}}, ID: []byte{65, 66}, Status: 12,
	}
	p := start(t, c)
	for _, c := range []struct {
		pdu, want []byte
		finished  uint16
		last      byte
	}{
		{[]byte{5, 0, 12, 255, 0}, []byte{5, 0, 12, 255, 0}, 1, 64},
		{[]byte{15, 0, 14, 0, 2, 1, 3}, []byte{15, 0, 14, 0, 2}, 2, 64},
		{[]byte{1, 0, 10, 0, 6}, []byte{1, 1, 52}, 3, 64},
		{[]byte{7}, []byte{7, 13}, 4, 64},
		{[]byte{2, 0, 0, 0, 2}, []byte{2, 1, 0}, 5, 64},
		{[]byte{6, 0, 1, 1, 2}, []byte{6, 0, 1, 1, 2}, 6, 64},
		{[]byte{16, 0, 0, 0, 1, 2, 3, 4}, []byte{16, 0, 0, 0, 1}, 7, 64},
		{[]byte{3, 0, 0, 0, 2}, []byte{3, 4, 3, 4, 1, 2}, 8, 64},
		{[]byte{4, 0, 1, 0, 1}, []byte{4, 2, 0, 0}, 9, 64},
		{[]byte{22, 0, 1, 255, 0, 0, 7}, []byte{22, 0, 1, 255, 0, 0, 7}, 10, 64},
		{[]byte{23, 0, 0, 0, 3, 0, 2, 0, 1, 2, 0, 6}, []byte{23, 6, 3, 4, 1, 7, 0, 6}, 11, 64},
		{[]byte{11}, []byte{11, 0, 0, 0, 11}, 11, 64},
		{[]byte{17}, []byte{17, 3, 65, 66, 255}, 12, 64},
		{[]byte{43, 14, 1, 0}, []byte{43, 14, 1, 129, 0, 0, 3, 0, 1, 97, 1, 0, 2, 0}, 13, 64},
		{[]byte{43, 14, 4, 3}, []byte{171, 2}, 13, 65},
		{[]byte{43, 13, 1, 0}, []byte{171, 1}, 13, 65},
		{[]byte{43, 14, 9, 0}, []byte{171, 3}, 13, 65},
		{[]byte{43}, []byte{171, 1}, 13, 65},
		{[]byte{3, 0, 3, 0, 1}, []byte{131, 4}, 13, 66},
		{[]byte{3, 0, 4, 0, 1}, []byte{131, 2}, 13, 65},
		{[]byte{3, 0, 0, 0, 0}, []byte{131, 3}, 13, 65},
		{[]byte{23, 0, 3, 0, 1, 0, 0, 0, 1, 2, 0, 6}, []byte{151, 4}, 13, 66},
		{[]byte{7, 0}, []byte{135, 3}, 13, 65},
		{[]byte{11, 0}, []byte{139, 3}, 13, 65},
		{[]byte{12, 7}, []byte{140, 3}, 13, 65},
		{[]byte{17, 255, 255}, []byte{145, 3}, 13, 65},
		{[]byte{19}, []byte{147, 1}, 13, 65},
		{[]byte{127}, []byte{255, 1}, 13, 65},
		{[]byte{8}, []byte{136, 3}, 13, 65},
		{[]byte{8, 0, 9, 0, 0}, []byte{136, 1}, 13, 65},
		{[]byte{8, 0, 1, 0, 7}, []byte{136, 3}, 13, 65},
		{[]byte{8, 0, 0, 1, 2, 3, 4}, []byte{8, 0, 0, 1, 2, 3, 4}, 14, 64},
		{[]byte{8, 0, 13, 0, 0}, []byte{8, 0, 13, 0, 17}, 15, 64},
		{[]byte{8, 0, 2, 0, 0}, []byte{8, 0, 2, 0, 0}, 16, 64},
		{[]byte{8, 0, 3, 9, 0}, []byte{8, 0, 3, 9, 0}, 17, 64},
		{[]byte{8, 0, 10, 0, 0}, []byte{8, 0, 10, 0, 0}, 18, 64},
		{[]byte{8, 0, 13, 0, 0}, []byte{8, 0, 13, 0, 0}, 19, 64},
		{[]byte{8, 0, 1, 255, 0}, []byte{8, 0, 1, 255, 0}, 0, 64},
		{[]byte{12}, []byte{12, 8, 0, 0, 0, 0, 0, 0, 64, 0}, 0, 64},
		{[]byte{7}, []byte{7, 13}, 1, 64},
		{[]byte{9}, []byte{137, 1}, 1, 65},
		{[]byte{12}, []byte{12, 11, 0, 0, 0, 1, 0, 0, 65, 64, 64, 64, 0}, 1, 64},
		{[]byte{8, 0, 1, 0, 0}, []byte{8, 0, 1, 0, 0}, 0, 64},
		{[]byte{12}, []byte{12, 14, 0, 0, 0, 0, 0, 0, 64, 0, 64, 65, 64, 64, 64, 0}, 0, 64},
		{[]byte{8, 0, 4, 0, 0}, nil, 1, 4},
		{[]byte{12}, nil, 1, 4},
		{[]byte{8, 0, 1, 0, 0}, nil, 0, 0},
		{[]byte{12}, []byte{12, 17, 0, 0, 0, 0, 0, 0, 0, 4, 64, 64, 0, 64, 65, 64, 64, 64, 0}, 0, 64},
	} {
		got := p.serve(c.pdu, false)
		if !bytes.Equal(got, c.want) || p.s.Finished() != c.finished || p.s.Events()[0] != c.last {
			t.Errorf("Serve(%v): %v, %d finished, the last event %d, not %v, %d, %d", c.pdu, got, p.s.Finished(), p.s.Events()[0], c.want, c.finished, c.last)
		}
	}
}

// TestFirstBytes: SV3: each first byte, alone and with others behind.
func TestFirstBytes(t *testing.T) {
	known := slices.Concat(ofTables, []byte{7, 8, 11, 12, 17, 43})
	for b := range 256 {
		for _, rest := range [][]byte{nil, {0}, {14}, {0, 0}, {14, 1, 0}, {0, 1, 0, 1}, {0, 3, 0, 2}, {1, 2, 3, 4, 5, 6, 7}, make([]byte, 252)} {
			p := start(t, config())
			got := p.serve(slices.Concat([]byte{byte(b)}, rest), false)
			switch {
			case b == 0 || b >= 128:
				if len(got) > 0 || len(p.s.Events()) > 0 || p.s.All()[2] > 0 || p.s.Finished() > 0 {
					t.Errorf("Serve of %d, %v: %v", b, rest, got)
				}
			case !slices.Contains(known, byte(b)):
				if !bytes.Equal(got, []byte{byte(b) + 128, 1}) || p.s.All()[2] != 1 || !bytes.Equal(p.s.Events(), []byte{65}) || p.s.Finished() > 0 {
					t.Errorf("Serve of %d, %v: %v", b, rest, got)
				}
			case bytes.Equal(got, []byte{byte(b) + 128, 1}) && b != 8 && b != 43:
				t.Errorf("Serve of %d, %v: %v", b, rest, got)
			}
		}
	}
}

// TestAnotherByte: SV3: what 7, 11, 12 and 17 are alone, and each byte that is one too many.
func TestAnotherByte(t *testing.T) {
	p := start(t, config())
	p.fill()
	for _, f := range []byte{7, 11, 12, 17} {
		if got := p.serve([]byte{f}, false); len(got) < 2 || got[0] != f {
			t.Errorf("Serve of %d: %v", f, got)
		}
		for b := range 256 {
			if got := p.serve([]byte{f, byte(b)}, false); !bytes.Equal(got, []byte{f + 128, 3}) {
				t.Errorf("Serve of %d, %d: %v", f, b, got)
			}
		}
		for _, n := range []int{2, 3, 252, 1000} {
			if got := p.serve(append([]byte{f}, make([]byte, n)...), false); !bytes.Equal(got, []byte{f + 128, 3}) {
				t.Errorf("Serve of %d and %d bytes: %v", f, n, got)
			}
		}
	}
}

// TestStatus: SV3: 7 tells the coils from the config's Status on, at each place near them, and where there is none.
func TestStatus(t *testing.T) {
	for _, w := range []api.Window{{}, {From: 3, Count: 12}, {Count: 8}, {From: 65530, Count: 6}, {Count: 65536}} {
		for _, at := range []int{0, 1, 2, 3, 4, 5, 6, 7, 8, 9, 10, 11, 12, 13, 14, 15, 16, 255, 256, 65520, 65527, 65528, 65529, 65530, 65534, 65535} {
			c := server.Config{Bank: api.Bank{Coils: w, Inputs: api.Window{Count: 40}}, Objects: device, Status: at}
			p := start(t, c)
			p.sense(false, 4, 1)
			for k := range 8 {
				for _, bit := range []byte{255, 0, 255} {
					p.serve([]byte{5, byte((at + k) >> 8), byte(at + k), bit, 0}, false)
				}
				p.serve([]byte{7}, false)
			}
		}
	}
}

// TestDiagnose: SV3: each number behind an 8, with words that may be and that may not.
func TestDiagnose(t *testing.T) {
	words := [][]byte{{}, {0}, {0, 0}, {0, 1}, {1, 0}, {255, 0}, {255, 255}, {0, 0, 0}, {0, 0, 0, 0}, {255, 0, 255, 0}}
	for n := range 300 {
		for _, w := range words {
			p := start(t, config())
			p.fill()
			p.serve(slices.Concat([]byte{8, byte(n >> 8), byte(n)}, w), false)
			p.serve([]byte{8, 0, 11, 0, 0}, false)
			p.serve([]byte{12}, false)
		}
	}
	p := start(t, config())
	for n := range 260 {
		p.serve(append([]byte{8, 0, 0}, bytes.Repeat([]byte{byte(n)}, n)...), false)
	}
}

// TestCounters: SV3: 8 and a number tells each counter, and a restart lets all be 0.
func TestCounters(t *testing.T) {
	p := start(t, config())
	p.fill()
	for i := range 8 {
		want := []byte{8, 0, byte(11 + i), 0, byte(2*i + 1)}
		if i == 2 {
			want[4] += 2 // two of the registers that were filled do not work
		}
		if got := p.serve([]byte{8, 0, byte(11 + i), 0, 0}, false); !bytes.Equal(got, want) {
			t.Errorf("the counter %d: %v, not %v", i, got, want)
		}
	}
	p.serve([]byte{8, 0, 20, 0, 0}, false)
	if got := p.s.All()[7]; got != 0 {
		t.Errorf("the counter 7 behind 8, 0, 20, 0, 0: %d", got)
	}
	for _, low := range []byte{0, 255} {
		p.fill()
		p.serve([]byte{8, 0, 1, low, 0}, false)
		if got := p.s.All(); !slices.Equal(got, make([]uint16, 8)) {
			t.Errorf("the counters behind a restart: %v", got)
		}
	}
}

// TestObjects: SV3: what 43 answers of each code and ID, as long as there is more.
func TestObjects(t *testing.T) {
	for _, l := range [][]api.Object{device, things()} {
		p := start(t, server.Config{Objects: l})
		for code := range 256 {
			for _, id := range []byte{0, 1, 2, 3, 4, 5, 6, 7, 127, 128, 129, 130, 131, 132, 254, 255} {
				p.serve([]byte{43, 14, byte(code), id}, false)
			}
		}
		for b := range 256 {
			p.serve([]byte{43, byte(b), 1, 0}, false)
			p.serve([]byte{43, byte(b)}, false)
			p.serve([]byte{43, 14, 1, 0, byte(b)}, false)
		}
		var all []api.Object
		for part := (ident.Part{More: true}); part.More; {
			var err api.Errno
			got := p.serve([]byte{43, 14, 3, byte(part.Next)}, false)
			if part, err = ident.Read(got[1:]); err != api.OK || len(got) > api.MaxPdu {
				t.Fatalf("43 told no part: %v", got)
			}
			all = append(all, part.Objects...)
		}
		if !slices.EqualFunc(all, l, func(a, b api.Object) bool { return a.ID == b.ID && bytes.Equal(a.Data, b.Data) }) {
			t.Errorf("the objects of all parts: %v", all)
		}
	}
}

// TestID: SV3: 17 tells an ID of each length.
func TestID(t *testing.T) {
	for n := range 241 {
		id := bytes.Repeat([]byte{byte(n)}, n)
		p := start(t, server.Config{Objects: device, ID: id})
		want := slices.Concat([]byte{17, byte(n + 1)}, id, []byte{255})
		if got := p.serve([]byte{17}, false); !bytes.Equal(got, want) {
			t.Errorf("17 of an ID of %d bytes: %v", n, got)
		}
	}
}

// TestHistory: SV3: 12 tells the counter Bus and all events, as many as are kept; 11 and 12 are not finished.
func TestHistory(t *testing.T) {
	p := start(t, config())
	for n := range 80 {
		got := p.serve([]byte{12}, false)
		if want := 8 + min(n, 64); len(got) != want {
			t.Errorf("12 behind %d events: %d bytes, not %d", n, len(got), want)
		}
	}
	for range 600 {
		p.count(0)
	}
	p.count(1)
	for range 300 {
		p.serve([]byte{7}, false)
	}
	got := p.serve([]byte{12}, false)
	if !bytes.Equal(got[:8], []byte{12, 70, 0, 0, 1, 44, 2, 88}) {
		t.Errorf("12: %v", got)
	}
	for range 3 {
		if got := p.serve([]byte{11}, false); !bytes.Equal(got, []byte{11, 0, 0, 1, 44}) {
			t.Errorf("11: %v", got)
		}
	}
}

// TestManyFinished: SV3: behind 65535 the count is 0, and so is the counter Exception.
func TestManyFinished(t *testing.T) {
	p := start(t, server.Config{Objects: device})
	for range 65535 {
		p.s.Serve([]byte{7}, false)
		p.s.Serve([]byte{9}, false)
	}
	if p.s.Finished() != 65535 || p.s.All()[2] != 65535 {
		t.Errorf("%d finished, %d exceptions", p.s.Finished(), p.s.All()[2])
	}
	p.s.Serve([]byte{7}, false)
	p.s.Serve([]byte{9}, false)
	if p.s.Finished() != 0 || p.s.All()[2] != 0 {
		t.Errorf("%d finished, %d exceptions", p.s.Finished(), p.s.All()[2])
	}
}

// TestMessages: SV3: each message of these tests, of a server in which much happened.
func TestMessages(t *testing.T) {
	for _, first := range slices.Concat(said, wrong, unsaid) {
		p := start(t, config())
		p.fill()
		p.serve(first, false)
		if p.s.Listening() {
			p.serve([]byte{8, 0, 1, 0, 0}, false)
		}
		for _, pdu := range [][]byte{{11}, {12}, {3, 0, 1, 0, 7}, {1, 0, 3, 0, 12}, {8, 0, 13, 0, 0}} {
			p.serve(pdu, false)
		}
	}
}

// TestHandedIn: SV3: what is said is neither changed nor kept, and nothing behind it is read or written.
func TestHandedIn(t *testing.T) {
	for _, all := range []bool{false, true} {
		for _, pdu := range slices.Concat(said, wrong, unsaid) {
			p := start(t, config())
			p.fill()
			long := slices.Concat(pdu, []byte{0, 1, 255, 0, 9})
			was := slices.Clone(long)
			got := p.serve(long[:len(pdu)], all)
			told := slices.Clone(got)
			if !bytes.Equal(long, was) {
				t.Errorf("Serve(%v, %v) changed what was handed in: %v", pdu, all, long)
			}
			for i := range long {
				long[i] = 170
			}
			if !bytes.Equal(got, told) {
				t.Errorf("Serve(%v, %v) answered what was handed in", pdu, all)
			}
			check(t, p.s, p.m, fmt.Sprintf("changes of %v", pdu))
		}
	}
}

// chance is an ask that may be, by chance, near the places of the bank some.
func chance(r *rand.Rand) api.Ask {
	a := api.Ask{Function: int(ofTables[r.IntN(len(ofTables))]), Addr: r.IntN(18)}
	switch a.Function {
	case 1, 2, 3, 4:
		a.Count = 1 + r.IntN(12)
	case 5:
		a.Value = 65280 * r.IntN(2)
	case 6:
		a.Value = r.IntN(65536)
	case 15:
		a.Count = 1 + r.IntN(12)
		for range a.Count {
			a.Bits = append(a.Bits, r.IntN(2) == 1)
		}
	case 22:
		a.And, a.Or = r.IntN(65536), r.IntN(65536)
	case 23:
		a.From, a.Many = r.IntN(12), 1+r.IntN(9)
		fallthrough
	case 16:
		a.Count = 1 + r.IntN(9)
		for range a.Count {
			a.Regs = append(a.Regs, uint16(r.IntN(65536)))
		}
	}
	return a
}

// TestAsks: SV4: what answers an ask is one of layer 16's, an exception changes no cell, and said to all a write does what it does said to one.
func TestAsks(t *testing.T) {
	r := rand.New(rand.NewPCG(23, 4))
	p := start(t, config())
	p.fill()
	for range 20000 {
		a := chance(r)
		pdu, err := ask.Print(a)
		if err != api.OK {
			t.Fatalf("Print(%v): %v", a, err)
		}
		was, other := p.s.File(), p.s.Clone()
		got, err := tell.Parse(a, p.serve(pdu, false))
		if err != api.OK {
			t.Fatalf("Serve(%v) told what answers nothing of the sort", pdu)
		}
		if got.Code != api.OK && !sameFile(p.s.File(), was) {
			t.Fatalf("Serve(%v) came to the exception %v, and changed a cell", pdu, got.Code)
		}
		if writes := slices.Contains([]int{5, 6, 15, 16, 22}, a.Function); writes {
			was = p.s.File()
		}
		if a.Function == 23 {
			continue
		}
		if told := other.Serve(pdu, true); len(told) > 0 || !sameFile(other.File(), was) {
			t.Fatalf("Serve(%v) to all: %v, %v, not %v", pdu, told, other.File(), was)
		}
	}
}

// anything is a message by chance: one of those of these tests, perhaps with a byte that is another, that is missing, or that is one too many.
func anything(r *rand.Rand) []byte {
	of := [][][]byte{said, said, said, wrong, unsaid}[r.IntN(5)]
	pdu := slices.Clone(of[r.IntN(len(of))])
	switch r.IntN(8) {
	case 0:
		if len(pdu) > 0 {
			pdu[r.IntN(len(pdu))] = byte(r.IntN(256))
		}
	case 1:
		pdu = pdu[:r.IntN(len(pdu)+1)]
	case 2:
		pdu = append(pdu, byte(r.IntN(256)))
	case 3:
		a := chance(r)
		pdu, _ = ask.Print(a)
	}
	return pdu
}

// step does something to both, by chance.
func (p pair) step(r *rand.Rand) {
	p.t.Helper()
	switch n := r.IntN(20); {
	case n < 13:
		p.serve(anything(r), r.IntN(4) == 0)
	case n < 15:
		p.heard(r.IntN(2) == 0, r.IntN(2) == 0, r.IntN(2) == 0)
	case n < 17:
		p.count(r.IntN(10) - 1)
	case n < 19:
		p.sense(r.IntN(2) == 0, r.IntN(12), r.IntN(70000)*r.IntN(2))
	default:
		p.serve([]byte{8, 0, 1, byte(255 * r.IntN(2)), 0}, r.IntN(2) == 0)
	}
}

// TestLongRuns: SV1 to SV4: servers and clones of theirs by chance, each against its model.
func TestLongRuns(t *testing.T) {
	for seed := range uint64(12) {
		r := rand.New(rand.NewPCG(seed, 23))
		all := []pair{start(t, config())}
		for range 5000 {
			p := all[r.IntN(len(all))]
			p.step(r)
			if r.IntN(300) == 0 && len(all) < 6 {
				all = append(all, pair{t, p.s.Clone(), p.m.clone()})
			}
		}
		for _, p := range all {
			check(t, p.s, p.m, "the whole run")
		}
	}
}

// TestSameRun: rule 7: what is done again comes to the same.
func TestSameRun(t *testing.T) {
	a, b := start(t, config()), start(t, config())
	one, other := rand.New(rand.NewPCG(1, 23)), rand.New(rand.NewPCG(1, 23))
	for range 2000 {
		a.step(one)
	}
	for range 2000 {
		b.step(other)
	}
	check(t, a.s, b.m, "the same run")
}

// TestNoServer: SV1: a nil Server, and one that no call made: nothing, ErrArg, 0 and false, and a clone that is such a one.
func TestNoServer(t *testing.T) {
	for _, s := range []*server.Server{nil, {}, (*server.Server)(nil).Clone(), (&server.Server{}).Clone()} {
		for _, all := range []bool{false, true} {
			for _, pdu := range slices.Concat(said, wrong, unsaid) {
				if got := s.Serve(pdu, all); len(got) > 0 {
					t.Errorf("Serve(%v, %v): %v", pdu, all, got)
				}
			}
			s.Heard(all, !all, all)
		}
		for i := -2; i < 10; i++ {
			for _, words := range []bool{false, true} {
				if a, b := s.Count(i), s.Sense(words, i, 1); a != api.ErrArg || b != api.ErrArg {
					t.Errorf("Count(%d), Sense(%v, %d, 1): %v, %v", i, words, i, a, b)
				}
			}
		}
		if f := s.File(); !sameFile(f, api.File{}) || len(s.All()) > 0 || len(s.Events()) > 0 || s.Finished() != 0 || s.Listening() {
			t.Errorf("%v, %v, %v, %d, %v", f, s.All(), s.Events(), s.Finished(), s.Listening())
		}
	}
	if s := (*server.Server)(nil).Clone(); s != nil {
		t.Errorf("Clone of nil: %v", s)
	}
}
