package filter_test

import (
	"bytes"
	"fmt"
	"math"
	"math/rand/v2"
	"slices"
	"testing"

	"bilge/api"
	"bilge/filter"
	"bilge/server"
)

// far are numbers at the ends of int, and such that are a station, or 0, in their lowest bytes alone.
var far = []int{
	math.MinInt, math.MinInt + 1, math.MinInt + 247, -1 << 32, -1<<32 + 1, -1 << 31, -65536, -65535, -257, -256, -255, -247, -128, -2, -1,
	256, 257, 258, 503, 512, 65536, 65537, 1 << 31, 1 << 32, 1<<32 + 1, 1<<32 + 247, 1<<56 + 1, math.MaxInt - 254, math.MaxInt - 1, math.MaxInt,
}

// bank is a bank whose windows have other places and other sizes each.
var bank = api.Bank{
	Coils:   api.Window{From: 3, Count: 12},
	Inputs:  api.Window{From: 0, Count: 9},
	Holding: api.Window{From: 1, Count: 10},
	Regs:    api.Window{From: 2, Count: 5},
	Broken:  api.Window{From: 8, Count: 2},
}

// newServer is a server in which nothing happened.
func newServer(t *testing.T) *server.Server {
	t.Helper()
	objects := []api.Object{{ID: 0, Data: []byte("bilge")}, {ID: 1}, {ID: 2, Data: []byte{7}}}
	s := server.New(server.Config{Bank: bank, Objects: objects, ID: []byte{7, 8, 9}, Status: 5})
	if s == nil {
		t.Fatal("no server")
	}
	return s
}

// sum is the sum of bytes, bit by bit: the low byte first.
func sum(l []byte) []byte {
	r := 65535
	for _, b := range l {
		r ^= int(b)
		for range 8 {
			low := r & 1
			r >>= 1
			if low == 1 {
				r ^= 40961
			}
		}
	}
	return []byte{byte(r), byte(r >> 8)}
}

// summed is bytes with their sum behind.
func summed(l ...byte) []byte { return slices.Concat(l, sum(l)) }

// frame is a frame to, or from, a station.
func frame(station int, pdu ...byte) []byte {
	return summed(slices.Concat([]byte{byte(station)}, pdu)...)
}

// segment is bytes that came as one segment in which nothing is wrong, but for what they are.
func segment(l []byte) api.Segment {
	return api.Segment{Bytes: l, First: 10, Last: 10 + len(l), Count: len(l)}
}

// flagged is a segment with a gap, or with a byte that was spoilt.
func flagged(l []byte, gap, bad bool) api.Segment {
	s := segment(l)
	s.Gap, s.Bad = gap, bad
	return s
}

// counted is a segment of which so many bytes came.
func counted(l []byte, count int) api.Segment {
	s := segment(l)
	s.Count = count
	return s
}

// isSummed tells whether bytes end with their sum.
func isSummed(l []byte) bool {
	n := len(l) - 2
	return n >= 0 && bytes.Equal(sum(l[:n]), l[n:])
}

// class is what becomes of a segment, by the document's words: 0 to 4.
func class(s api.Segment, station int) int {
	enough := len(s.Bytes) >= 4
	if s.Count > 256 || s.Bad || enough && !isSummed(s.Bytes) {
		return 1
	}
	if s.Gap || !enough {
		return 0
	}
	first := int(s.Bytes[0])
	if first == 0 {
		return 3
	}
	if first == station {
		return 4
	}
	return 2
}

// take is what Take does to a server, step by step by the document's words.
func take(s *server.Server, station int, g api.Segment) []byte {
	pdu := []byte(nil)
	if n := len(g.Bytes); n >= 4 && n <= 256 {
		pdu = g.Bytes[1 : n-2]
	}
	switch what := class(g, station); what {
	case 1:
		s.Heard(true, g.Count > 256, false)
		s.Count(1)
		if g.Count > 256 {
			s.Count(7)
		}
	case 2:
		s.Count(0)
	case 3, 4:
		s.Count(0)
		s.Heard(false, false, what == 3)
		listened := s.Listening()
		if !listened {
			s.Count(3)
		}
		if !listened && what == 3 {
			s.Count(4)
		}
		said := s.Serve(pdu, what == 3)
		if what == 3 {
			return nil
		}
		if len(said) > 0 {
			return frame(station, said...)
		}
		if !listened {
			s.Count(4)
		}
	}
	return nil
}

// sameFile tells whether two files are the same.
func sameFile(a, b api.File) bool {
	return a.Bank == b.Bank && slices.Equal(a.Coils, b.Coils) && slices.Equal(a.Inputs, b.Inputs) &&
		slices.Equal(a.Holding, b.Holding) && slices.Equal(a.Regs, b.Regs)
}

// same holds all that a server tells against another one.
func same(t *testing.T, got, want *server.Server, behind string) {
	t.Helper()
	if !sameFile(got.File(), want.File()) {
		t.Fatalf("%s: File: %v, not %v", behind, got.File(), want.File())
	}
	if !slices.Equal(got.All(), want.All()) {
		t.Fatalf("%s: All: %v, not %v", behind, got.All(), want.All())
	}
	if !bytes.Equal(got.Events(), want.Events()) {
		t.Fatalf("%s: Events: %v, not %v", behind, got.Events(), want.Events())
	}
	if got.Finished() != want.Finished() || got.Listening() != want.Listening() {
		t.Fatalf("%s: Finished, Listening: %d, %v, not %d, %v", behind, got.Finished(), got.Listening(), want.Finished(), want.Listening())
	}
}

// pair is two servers: segments come to one of them, and the document's steps are done to the other.
type pair struct {
	t    *testing.T
	s, m *server.Server
}

// start is a pair in which nothing happened.
func start(t *testing.T) pair {
	t.Helper()
	return pair{t, newServer(t), newServer(t)}
}

// apart is another pair that is the same.
func (p pair) apart(t *testing.T) pair { return pair{t, p.s.Clone(), p.m.Clone()} }

// take lets a segment come to both.
func (p pair) take(station int, g api.Segment) []byte {
	p.t.Helper()
	behind := fmt.Sprintf("Take(%d, %v)", station, g)
	handed := slices.Clone(g.Bytes)
	got, want := filter.Take(p.s, station, g), take(p.m, station, g)
	if !bytes.Equal(got, want) {
		p.t.Fatalf("%s: %v, not %v", behind, got, want)
	}
	if !bytes.Equal(handed, g.Bytes) {
		p.t.Fatalf("%s: what was handed in is %v", behind, g.Bytes)
	}
	same(p.t, p.s, p.m, behind)
	return got
}

// takeFrame lets a frame that says this come to both.
func (p pair) takeFrame(station, to int, pdu ...byte) []byte {
	p.t.Helper()
	return p.take(station, segment(frame(to, pdu...)))
}

// fill lets much be another than 0: cells, counters, events, and the count.
func (p pair) fill() {
	p.t.Helper()
	for _, s := range []*server.Server{p.s, p.m} {
		for k := range bank.Coils.Count {
			s.Serve([]byte{5, 0, byte(bank.Coils.From + k), byte(k % 2 * 255), 0}, false)
		}
		for k := range bank.Holding.Count {
			s.Serve([]byte{6, 0, byte(bank.Holding.From + k), byte(k + 1), byte(k*50 + 3)}, false)
		}
		s.Sense(false, 3, 1)
		s.Sense(true, 4, 40000)
		for i := range 8 {
			for range 3*i + 1 {
				s.Count(i)
			}
		}
	}
	same(p.t, p.s, p.m, "fill")
}

// listen lets both listen only.
func (p pair) listen() {
	p.t.Helper()
	p.s.Serve([]byte{8, 0, 4, 0, 0}, false)
	p.m.Serve([]byte{8, 0, 4, 0, 0}, false)
	if !p.s.Listening() {
		p.t.Fatal("it does not listen only")
	}
}

// pairs are pairs in which nothing happened, much happened, and such that listen only.
func pairs(t *testing.T) map[string]pair {
	all := map[string]pair{}
	for _, name := range []string{"new", "filled"} {
		p := start(t)
		if name == "filled" {
			p.fill()
		}
		q := p.apart(t)
		q.listen()
		all[name], all[name+", listening"] = p, q
	}
	return all
}

// said are messages: well said ones, wrong ones, and such to which nothing is said.
var said = [][]byte{
	{1, 0, 3, 0, 12}, {2, 0, 0, 0, 9}, {3, 0, 1, 0, 7}, {4, 0, 2, 0, 5}, {5, 0, 3, 255, 0}, {6, 0, 3, 0, 9}, {7}, {8, 0, 0, 1, 2}, {8, 0, 1, 0, 0}, {8, 0, 1, 255, 0},
	{8, 0, 2, 0, 0}, {8, 0, 3, 33, 0}, {8, 0, 4, 0, 0}, {8, 0, 10, 0, 0}, {8, 0, 11, 0, 0}, {8, 0, 12, 0, 0}, {8, 0, 14, 0, 0}, {8, 0, 15, 0, 0}, {8, 0, 18, 0, 0}, {8, 0, 20, 0, 0},
	{11}, {12}, {15, 0, 4, 0, 9, 2, 170, 1}, {16, 0, 1, 0, 2, 4, 9, 8, 7, 6}, {17}, {22, 0, 2, 0, 242, 0, 37}, {23, 0, 1, 0, 3, 0, 2, 0, 1, 2, 12, 34}, {43, 14, 1, 0},
	{1}, {3, 0, 0, 0, 1}, {3, 0, 8, 0, 1}, {5, 0, 3, 0, 1}, {6, 0, 9, 0, 1}, {6, 0, 200, 0, 1}, {7, 0}, {8}, {8, 0, 1, 0, 1}, {8, 0, 4, 0, 1}, {8, 0, 99, 0, 0}, {9}, {11, 0}, {15, 0, 4, 0, 9, 1, 1},
	{16, 0, 10, 0, 2, 4, 1, 1, 1, 1}, {17, 1}, {22, 0, 8, 0, 0, 0, 0}, {23, 0, 8, 0, 1, 0, 1, 0, 1, 2, 1, 1}, {43}, {43, 14, 4, 9}, {100}, {127},
	{0}, {0, 0, 3, 255, 0}, {128}, {129, 1}, {134, 0, 3, 0, 9}, {136, 0, 1, 0, 0}, {255},
}

// TestNumbers: the classes have the numbers that the document names.
func TestNumbers(t *testing.T) {
	got := []int{filter.Noise, filter.Broken, filter.Other, filter.All, filter.Own}
	if !slices.Equal(got, []int{0, 1, 2, 3, 4}) {
		t.Errorf("the classes: %v", got)
	}
}

// TestExamples: the examples of chapter 24, and those of the whole that a filter comes to.
func TestExamples(t *testing.T) {
	p := start(t)
	if got := p.takeFrame(1, 1, 7); !bytes.Equal(got, summed(1, 7, 0)) {
		t.Errorf("1, 7 at station 1: %v", got)
	}
	p = start(t)
	if got := p.takeFrame(2, 1, 7); len(got) > 0 {
		t.Errorf("1, 7 at station 2: %v", got)
	}

	p = start(t)
	if got := p.takeFrame(1, 1, 6, 0, 3, 0, 9); !bytes.Equal(got, frame(1, 6, 0, 3, 0, 9)) {
		t.Errorf("1, 6, 0, 3, 0, 9: %v", got)
	}
	if got := p.takeFrame(1, 1, 3, 0, 11, 0, 2); !bytes.Equal(got, frame(1, 131, 2)) {
		t.Errorf("1, 3, 0, 11, 0, 2: %v", got)
	}
	silent := p.s.All()[4]
	if got := p.takeFrame(1, 0, 6, 0, 4, 0, 8); len(got) > 0 || p.s.File().Holding[3] != 8 || p.s.All()[4] != silent+1 {
		t.Errorf("0, 6, 0, 4, 0, 8: %v, %v, %v", got, p.s.File().Holding, p.s.All())
	}
	errors := p.s.All()[1]
	if got := p.take(1, flagged(frame(1, 6, 0, 3, 0, 7), false, true)); len(got) > 0 || p.s.File().Holding[2] != 9 || p.s.All()[1] != errors+1 {
		t.Errorf("a spoilt byte: %v, %v, %v", got, p.s.File().Holding, p.s.All())
	}
}

// TestByHand: FL2: what becomes of the counters, the events and the count, told number by number.
func TestByHand(t *testing.T) {
	long := bytes.Repeat([]byte{1}, 256)
	for _, c := range []struct {
		name     string
		listens  bool
		g        api.Segment
		counters []uint16
		events   []byte
		finished uint16
		answer   []byte
	}{
		{"own, answered", false, segment(frame(5, 7)), []uint16{1, 0, 0, 1, 0, 0, 0, 0}, []byte{64, 128}, 1, frame(5, 7, 0)},
		{"own, an exception", false, segment(frame(5, 9)), []uint16{1, 0, 1, 1, 0, 0, 0, 0}, []byte{65, 128}, 0, frame(5, 137, 1)},
		{"own, what does not work", false, segment(frame(5, 3, 0, 8, 0, 1)), []uint16{1, 0, 1, 1, 0, 0, 0, 0}, []byte{66, 128}, 0, frame(5, 131, 4)},
		{"own, not answered", false, segment(frame(5, 128)), []uint16{1, 0, 0, 1, 1, 0, 0, 0}, []byte{128}, 0, nil},
		{"own, told to listen only", false, segment(frame(5, 8, 0, 4, 0, 0)), []uint16{1, 0, 0, 1, 1, 0, 0, 0}, []byte{4, 128}, 1, nil},
		{"own, a restart", false, segment(frame(5, 8, 0, 1, 0, 0)), []uint16{0, 0, 0, 0, 0, 0, 0, 0}, []byte{64, 0, 128}, 0, frame(5, 8, 0, 1, 0, 0)},
		{"own, a restart that wipes", false, segment(frame(5, 8, 0, 1, 255, 0)), []uint16{0, 0, 0, 0, 0, 0, 0, 0}, []byte{64, 0}, 0, frame(5, 8, 0, 1, 255, 0)},
		{"own, asked for the frames on the line", false, segment(frame(5, 8, 0, 11, 0, 0)), []uint16{1, 0, 0, 1, 0, 0, 0, 0}, []byte{64, 128}, 1, frame(5, 8, 0, 11, 0, 1)},
		{"own, asked for those that were for it", false, segment(frame(5, 8, 0, 14, 0, 0)), []uint16{1, 0, 0, 1, 0, 0, 0, 0}, []byte{64, 128}, 1, frame(5, 8, 0, 14, 0, 1)},
		{"own, asked for those that were not answered", false, segment(frame(5, 8, 0, 15, 0, 0)), []uint16{1, 0, 0, 1, 0, 0, 0, 0}, []byte{64, 128}, 1, frame(5, 8, 0, 15, 0, 0)},
		{"own, asked for the log", false, segment(frame(5, 12)), []uint16{1, 0, 0, 1, 0, 0, 0, 0}, []byte{64, 128}, 0, frame(5, 12, 7, 0, 0, 0, 0, 0, 1, 128)},
		{"all, done", false, segment(frame(0, 6, 0, 3, 0, 9)), []uint16{1, 0, 0, 1, 1, 0, 0, 0}, []byte{192}, 1, nil},
		{"all, not done", false, segment(frame(0, 7)), []uint16{1, 0, 0, 1, 1, 0, 0, 0}, []byte{192}, 0, nil},
		{"all, a restart", false, segment(frame(0, 8, 0, 1, 0, 0)), []uint16{1, 0, 0, 1, 1, 0, 0, 0}, []byte{192}, 0, nil},
		{"other", false, segment(frame(6, 7)), []uint16{1, 0, 0, 0, 0, 0, 0, 0}, nil, 0, nil},
		{"broken: the sum", false, segment([]byte{5, 7, 0, 0}), []uint16{0, 1, 0, 0, 0, 0, 0, 0}, []byte{130}, 0, nil},
		{"broken: a byte", false, flagged(frame(5, 7), false, true), []uint16{0, 1, 0, 0, 0, 0, 0, 0}, []byte{130}, 0, nil},
		{"broken: too long", false, counted(long, 257), []uint16{0, 1, 0, 0, 0, 0, 0, 1}, []byte{146}, 0, nil},
		{"broken: too long, a byte, and a gap", false, api.Segment{Bytes: long, Count: 300, Bad: true, Gap: true}, []uint16{0, 1, 0, 0, 0, 0, 0, 1}, []byte{146}, 0, nil},
		{"noise: a gap", false, flagged(frame(5, 7), true, false), []uint16{0, 0, 0, 0, 0, 0, 0, 0}, nil, 0, nil},
		{"noise: short", false, segment(summed(5)), []uint16{0, 0, 0, 0, 0, 0, 0, 0}, nil, 0, nil},

		{"listening: own", true, segment(frame(5, 7)), []uint16{1, 0, 0, 0, 0, 0, 0, 0}, []byte{160, 4}, 1, nil},
		{"listening: own, a restart", true, segment(frame(5, 8, 0, 1, 0, 0)), []uint16{0, 0, 0, 0, 0, 0, 0, 0}, []byte{0, 160, 4}, 0, nil},
		{"listening: own, a restart that wipes", true, segment(frame(5, 8, 0, 1, 255, 0)), []uint16{0, 0, 0, 0, 0, 0, 0, 0}, []byte{0}, 0, nil},
		{"listening: own, told to listen only", true, segment(frame(5, 8, 0, 4, 0, 0)), []uint16{1, 0, 0, 0, 0, 0, 0, 0}, []byte{160, 4}, 1, nil},
		{"listening: all", true, segment(frame(0, 6, 0, 3, 0, 9)), []uint16{1, 0, 0, 0, 0, 0, 0, 0}, []byte{224, 4}, 1, nil},
		{"listening: all, a restart", true, segment(frame(0, 8, 0, 1, 0, 0)), []uint16{0, 0, 0, 0, 0, 0, 0, 0}, []byte{0, 224, 4}, 0, nil},
		{"listening: other", true, segment(frame(6, 7)), []uint16{1, 0, 0, 0, 0, 0, 0, 0}, []byte{4}, 1, nil},
		{"listening: broken", true, segment([]byte{5, 7, 0, 0}), []uint16{0, 1, 0, 0, 0, 0, 0, 0}, []byte{162, 4}, 1, nil},
		{"listening: broken, too long", true, counted(long, 257), []uint16{0, 1, 0, 0, 0, 0, 0, 1}, []byte{178, 4}, 1, nil},
		{"listening: noise", true, flagged(frame(5, 7), true, false), []uint16{0, 0, 0, 0, 0, 0, 0, 0}, []byte{4}, 1, nil},
	} {
		p := start(t)
		if c.listens {
			p.listen()
		}
		if got := p.take(5, c.g); !bytes.Equal(got, c.answer) {
			t.Errorf("%s: %v, not %v", c.name, got, c.answer)
		}
		if got := p.s.All(); !slices.Equal(got, c.counters) {
			t.Errorf("%s: the counters %v, not %v", c.name, got, c.counters)
		}
		if got := p.s.Events(); !bytes.Equal(got, c.events) {
			t.Errorf("%s: the events %v, not %v", c.name, got, c.events)
		}
		if got := p.s.Finished(); got != c.finished {
			t.Errorf("%s: %d are finished, not %d", c.name, got, c.finished)
		}
	}
}

// TestRight: FL1: which stations may be a slave's.
func TestRight(t *testing.T) {
	for n := -600; n < 600; n++ {
		if got, want := filter.Right(n), n >= 1 && n <= 247; got != want {
			t.Errorf("Right(%d): %v", n, got)
		}
	}
	for _, n := range far {
		if filter.Right(n) {
			t.Errorf("Right(%d): true", n)
		}
	}
}

// what holds what becomes of a segment against a number.
func what(t *testing.T, g api.Segment, station, want int) {
	t.Helper()
	if got := filter.What(g, station); got != want {
		t.Errorf("What(%v, %d): %d, not %d", g, station, got, want)
	}
}

// TestWhatIsFine: FL1: a frame is to all, to the station, or to another one, whatever numbers both have.
func TestWhatIsFine(t *testing.T) {
	for first := range 256 {
		g := segment(frame(first, 7))
		for station := -2; station < 520; station++ {
			want := 2
			if first == 0 {
				want = 3
			} else if first == station {
				want = 4
			}
			what(t, g, station, want)
		}
		for _, station := range far {
			want := 2
			if first == 0 {
				want = 3
			}
			what(t, g, station, want)
		}
	}
}

// TestWhatIsWrong: FL1: what is wrong of a segment, each alone and with each other: whether it is broken, or noise.
func TestWhatIsWrong(t *testing.T) {
	good, bad := frame(5, 7), []byte{5, 7, 1, 2}
	most := summed(bytes.Repeat([]byte{5}, 254)...)
	more := summed(bytes.Repeat([]byte{5}, 255)...)
	contents := map[string][]byte{
		"none": nil, "empty": {}, "one": {5}, "a sum of nothing": {255, 255}, "two": {5, 7}, "three": {5, 7, 9}, "three with their sum": summed(5),
		"good": good, "bad": bad, "to all": frame(0, 7), "another": frame(6, 7), "most": most, "most without": bytes.Repeat([]byte{5}, 256), "more": more, "more without": bytes.Repeat([]byte{5}, 257),
	}
	for name, l := range contents {
		for _, count := range slices.Concat(far, []int{0, 1, 3, 4, 5, 254, 255, len(l)}) {
			for _, gap := range []bool{false, true} {
				for _, spoilt := range []bool{false, true} {
					g := api.Segment{Bytes: l, Count: count, Gap: gap, Bad: spoilt}
					for _, station := range []int{-1, 0, 1, 5, 6, 255, 256, 261} {
						if got, want := filter.What(g, station), class(g, station); got != want {
							t.Fatalf("What of %s, %d bytes came, gap %v, spoilt %v, at %d: %d, not %d", name, count, gap, spoilt, station, got, want)
						}
					}
				}
			}
		}
	}
	what(t, segment(good), 5, 4)
	what(t, segment(bad), 5, 1)
	what(t, flagged(good, true, false), 5, 0)
	what(t, flagged(good, false, true), 5, 1)
	what(t, flagged(good, true, true), 5, 1)
	what(t, flagged(bad, true, false), 5, 1)
	what(t, counted(good, 256), 5, 4)
	what(t, counted(good, 257), 5, 1)
	what(t, segment(summed(5)), 5, 0)
	what(t, flagged(summed(5), true, false), 5, 0)
	what(t, flagged([]byte{5}, false, true), 5, 1)
	what(t, counted(nil, 257), 5, 1)
	what(t, api.Segment{}, 0, 0)
	what(t, segment(most), 5, 4)
}

// TestWhatTimes: FL1: when a segment came says nothing of what becomes of it.
func TestWhatTimes(t *testing.T) {
	for _, first := range far {
		for _, last := range far {
			g := segment(frame(5, 7))
			g.First, g.Last = first, last
			what(t, g, 5, 4)
			what(t, g, 6, 2)
		}
	}
}

// TestTakeSaid: FL2: what is said to it, to all, and to others, in each state of it.
func TestTakeSaid(t *testing.T) {
	for name, p := range pairs(t) {
		t.Run(name, func(t *testing.T) {
			for _, pdu := range said {
				for _, to := range []int{0, 1, 5, 247, 248, 255} {
					for _, station := range []int{1, 5, 247} {
						q := p.apart(t)
						q.takeFrame(station, to, pdu...)
						q.takeFrame(station, station, 12) // what it came to is seen by what is said next, too
						q.takeFrame(station, station, 8, 0, 15, 0, 0)
					}
				}
			}
		})
	}
}

// TestTakeStations: FL2: a server has its station, from 1 to 247; at another one nothing comes to it.
func TestTakeStations(t *testing.T) {
	p := start(t)
	p.fill()
	for station := 1; station <= 247; station++ {
		for to := range 256 {
			got := p.takeFrame(station, to, 7)
			want := to == station
			if (len(got) > 0) != want || want && !bytes.Equal(got, frame(station, 7, got[2])) {
				t.Fatalf("7 to %d at %d: %v", to, station, got)
			}
		}
	}
	for _, station := range slices.Concat(far, []int{-3, 0, 248, 249, 255}) {
		q := p.apart(t)
		for _, g := range []api.Segment{segment(frame(station, 6, 0, 3, 0, 9)), segment(frame(0, 6, 0, 3, 0, 9)), segment(frame(1, 7)), segment([]byte{1, 7, 0, 0}), counted(nil, 257)} {
			if got := filter.Take(q.s, station, g); len(got) > 0 {
				t.Errorf("Take(%d, %v): %v", station, g, got)
			}
			same(t, q.s, q.m, fmt.Sprintf("at station %d", station))
		}
	}
}

// TestTakeWrong: FL2, FL3: what is not Fine is not answered and changes no cell; what is broken counts once; of noise nothing is kept.
func TestTakeWrong(t *testing.T) {
	write := frame(5, 6, 0, 3, 18, 52)
	all := frame(0, 6, 0, 3, 18, 52)
	for name, p := range pairs(t) {
		t.Run(name, func(t *testing.T) {
			wrongs := []api.Segment{
				{}, counted(nil, 256), counted(nil, 257), counted(nil, math.MaxInt), segment([]byte{5}), segment([]byte{5, 6}), segment(summed(5)), segment([]byte{5, 6, 0}), segment([]byte{0, 0, 0, 0}),
				segment(write[:7]), segment(append(slices.Clone(write), 1)), segment(write[1:]), segment(summed(write...)[2:]),
			}
			for _, l := range [][]byte{write, all} {
				wrongs = append(wrongs, flagged(l, true, false), flagged(l, false, true), flagged(l, true, true), counted(l, 257), counted(l, 258), counted(l, 65536+8), counted(l, math.MaxInt))
				for bit := range 8 * len(l) {
					m := slices.Clone(l)
					m[bit/8] ^= 1 << (bit % 8)
					wrongs = append(wrongs, segment(m), flagged(m, true, false), flagged(m, true, true))
				}
			}
			for _, g := range wrongs {
				q := p.apart(t)
				was := q.s.Clone()
				if got := q.take(5, g); len(got) > 0 {
					t.Fatalf("%v: %v", g, got)
				}
				if !sameFile(q.s.File(), was.File()) {
					t.Fatalf("%v: the cells are others", g)
				}
				more := uint16(0)
				if class(g, 5) == 1 {
					more = 1
				} else {
					same(t, q.s, was, fmt.Sprintf("%v", g))
				}
				if got, want := q.s.All()[1], was.All()[1]+more; got != want {
					t.Fatalf("%v: the counter Error is %d, not %d", g, got, want)
				}
			}
		})
	}
}

// TestOther: FL3: to another station a frame changes nothing but the counter Bus.
func TestOther(t *testing.T) {
	for name, p := range pairs(t) {
		t.Run(name, func(t *testing.T) {
			for _, pdu := range said {
				for _, to := range []int{1, 4, 6, 133, 255} {
					q := p.apart(t)
					was := q.s.Clone()
					if got := q.takeFrame(5, to, pdu...); len(got) > 0 {
						t.Fatalf("%v to %d: %v", pdu, to, got)
					}
					if q.s.All()[0] != was.All()[0]+1 {
						t.Fatalf("%v to %d: the counter Bus is not one more", pdu, to)
					}
					was.Count(0)
					same(t, q.s, was, fmt.Sprintf("%v to %d", pdu, to))
				}
			}
		})
	}
}

// TestLengths: FL2: frames of all lengths that there are, and longer ones than there are.
func TestLengths(t *testing.T) {
	for name, p := range pairs(t) {
		t.Run(name, func(t *testing.T) {
			for n := 1; n <= 300; n++ {
				pdu := make([]byte, n)
				for _, function := range []byte{8, 9, 16} {
					pdu[0] = function
					for _, to := range []int{0, 5, 6} {
						q := p.apart(t)
						l := frame(to, pdu...)
						q.take(5, segment(l))
						// Bytes that say so many came, or so few, come from nobody that keeps the document's words; it must go well all the same.
						q.take(5, counted(l, 256))
						q.take(5, counted(l, 0))
						q.take(5, counted(l, -len(l)))
					}
				}
			}
		})
	}
	p := start(t)
	echo := append([]byte{8, 0, 0}, make([]byte, 250)...)
	if got := p.takeFrame(5, 5, echo...); len(got) != 256 || !bytes.Equal(got, frame(5, echo...)) {
		t.Errorf("253 bytes said to it: %d bytes", len(got))
	}
}

// TestTooManyBytes: FL2: more bytes than a frame has, of which it is said that fewer came, say nothing; so they are not answered.
func TestTooManyBytes(t *testing.T) {
	l := frame(5, append([]byte{8, 0, 0}, make([]byte, 252)...)...)
	p := start(t)
	if got := p.take(5, counted(l, 256)); len(got) > 0 || !slices.Equal(p.s.All(), []uint16{1, 0, 0, 1, 1, 0, 0, 0}) {
		t.Errorf("%v, the counters %v", got, p.s.All())
	}
	l = frame(0, append([]byte{16, 0, 1, 0, 125, 250}, make([]byte, 252)...)...)
	p = start(t)
	if got := p.take(5, counted(l, 256)); len(got) > 0 || !slices.Equal(p.s.All(), []uint16{1, 0, 0, 1, 1, 0, 0, 0}) {
		t.Errorf("to all: %v, the counters %v", got, p.s.All())
	}
}

// TestNoServer: FL2: nothing comes to no server, and to one that no call made.
func TestNoServer(t *testing.T) {
	for _, v := range []*server.Server{nil, {}} {
		for _, pdu := range said {
			for _, to := range []int{0, 5, 6} {
				for _, g := range []api.Segment{segment(frame(to, pdu...)), flagged(frame(to, pdu...), true, false), flagged(frame(to, pdu...), false, true), counted(nil, 257), {}} {
					if got := filter.Take(v, 5, g); len(got) > 0 {
						t.Errorf("Take(%v): %v", g, got)
					}
				}
			}
		}
		if v != nil && (len(v.All()) > 0 || len(v.Events()) > 0 || v.Finished() > 0 || v.Listening()) {
			t.Errorf("something happened in what no call made")
		}
		for _, station := range far {
			if got := filter.Take(v, station, segment(frame(station, 7))); len(got) > 0 {
				t.Errorf("at station %d: %v", station, got)
			}
		}
	}
}

// TestBehind: nothing behind the length of a segment's bytes is read or written.
func TestBehind(t *testing.T) {
	for _, pdu := range said {
		for _, to := range []int{0, 5, 6} {
			l := frame(to, pdu...)
			n := len(l)
			room := append(slices.Clone(l), 1, 2, 3, 4)
			p := start(t)
			p.take(5, segment(room[:n]))
			if !bytes.Equal(room[:n], l) || !bytes.Equal(room[n:], []byte{1, 2, 3, 4}) {
				t.Fatalf("%v: the bytes are %v", l, room)
			}
			p.take(5, segment(room[:n-1]))
			p.take(5, segment(l[:n-2:n]))
			if short := room[:0]; filter.What(segment(short), 5) != 0 {
				t.Fatalf("no byte of %v is not noise", room)
			}
		}
	}
}

// TestApart: what is handed in is not kept, and what is answered is new memory.
func TestApart(t *testing.T) {
	p := start(t)
	p.fill()
	for _, pdu := range said {
		l := frame(5, pdu...)
		first := p.take(5, segment(l))
		kept := slices.Clone(first)
		for i := range l {
			l[i] ^= 255
		}
		same(t, p.s, p.m, "bytes were changed")
		second := p.takeFrame(5, 5, pdu...)
		if !bytes.Equal(first, kept) {
			t.Fatalf("%v: the answer is another one: %v", pdu, first)
		}
		for i := range first {
			first[i] ^= 255
		}
		for i := range second {
			second[i] ^= 255
		}
		same(t, p.s, p.m, "answers were changed")
		if p.s.Listening() {
			p.takeFrame(5, 5, 8, 0, 1, 0, 0)
		}
	}
}

// TestClones: what comes to a server does not come to its clone.
func TestClones(t *testing.T) {
	p := start(t)
	p.fill()
	q := p.apart(t)
	for _, pdu := range said {
		p.takeFrame(5, 5, pdu...)
		same(t, q.s, q.m, "the clone")
		if p.s.Listening() {
			p.takeFrame(5, 5, 8, 0, 1, 0, 0)
		}
	}
}

// TestRound: FL2: counters go round behind 65535.
func TestRound(t *testing.T) {
	p := start(t)
	for _, s := range []*server.Server{p.s, p.m} {
		for i := range 8 {
			for range 65535 {
				s.Count(i)
			}
		}
	}
	for _, g := range []api.Segment{counted(nil, 257), segment(frame(6, 7)), segment(frame(0, 7)), segment(frame(5, 128)), segment(frame(5, 9))} {
		p.take(5, g)
	}
	if got := p.s.All(); !slices.Equal(got, []uint16{3, 0, 0, 2, 1, 65535, 65535, 0}) {
		t.Errorf("the counters: %v", got)
	}
}

// chance is a segment by chance: most are frames, and many of them are wrong.
func chance(r *rand.Rand) api.Segment {
	pdu := slices.Clone(said[r.IntN(len(said))])
	if r.IntN(4) == 0 {
		pdu[r.IntN(len(pdu))] = byte(r.IntN(256))
	}
	l := frame([]int{0, 5, 5, 5, 6, r.IntN(256)}[r.IntN(6)], pdu...)
	if r.IntN(8) == 0 {
		l[r.IntN(len(l))] ^= byte(1 + r.IntN(255))
	}
	if r.IntN(12) == 0 {
		l = l[:r.IntN(len(l))]
	}
	g := flagged(l, r.IntN(8) == 0, r.IntN(12) == 0)
	if r.IntN(12) == 0 {
		g.Count = 250 + r.IntN(12)
	}
	return g
}

// TestLong: FL1 to FL3 over long runs by chance.
func TestLong(t *testing.T) {
	r := rand.New(rand.NewPCG(24, 1))
	for range 30 {
		p := start(t)
		for range 700 {
			g := chance(r)
			station := []int{5, 5, 5, 6, r.IntN(250)}[r.IntN(5)]
			what(t, g, station, class(g, station))
			if station < 1 || station > 247 {
				continue
			}
			p.take(station, g)
			if p.s.Listening() && r.IntN(6) == 0 {
				p.takeFrame(5, r.IntN(2)*5, 8, 0, 1, byte(r.IntN(2)*255), 0)
			}
		}
	}
}
