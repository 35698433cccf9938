package diag_test

import (
	"bytes"
	"fmt"
	"math"
	"math/rand"
	"slices"
	"testing"

	"bilge/api"
	"bilge/diag"
	"bilge/tally"
)

// many is how many counters there are.
const many = 8

// numbers are those of the questions that there are.
var numbers = []int{0, 1, 2, 3, 4, 10, 11, 12, 13, 14, 15, 16, 17, 18, 20}

// telling are those that only tell.
var telling = []int{0, 2, 11, 12, 13, 14, 15, 16, 17, 18}

// notThere are numbers that no counter has.
var notThere = []int{math.MinInt, math.MinInt + 1, -1 << 32, -65536, -256, -9, -8, -1, 8, 9, 11, 15, 16, 18, 255, 256, 257, 65535, 65536, 65543, 1 << 32, 1<<32 + 7, math.MaxInt - 1, math.MaxInt}

// plain is what a state should be.
type plain struct {
	counters  [many]int
	register  int
	listening bool
	delim     byte
}

// fresh is what a new state should be.
func fresh() plain { return plain{delim: 10} }

// told is what its counters should tell.
func (p plain) told() []uint16 {
	l := make([]uint16, many)
	for i, n := range p.counters {
		l[i] = uint16(n)
	}
	return l
}

// may tells by which error a question is refused, byte by byte; OK: it is not.
func may(data []byte) api.Errno {
	if len(data) < 2 {
		return api.BadValue
	}
	number := int(data[0])*256 + int(data[1])
	if !slices.Contains(numbers, number) {
		return api.BadFunction
	}
	behind := data[2:]
	ok := len(behind) == 2
	if ok {
		switch number {
		case 0:
		case 1:
			ok = (behind[0] == 0 || behind[0] == 255) && behind[1] == 0
		case 3:
			ok = behind[1] == 0
		default:
			ok = behind[0] == 0 && behind[1] == 0
		}
	}
	if number == 0 {
		ok = len(behind) >= 2 && len(behind) <= 250 && len(behind)%2 == 0
	}
	if !ok {
		return api.BadValue
	}
	return api.OK
}

// do is what should come of a question.
func (p *plain) do(data []byte) ([]byte, int, api.Errno) {
	if err := may(data); err != api.OK {
		return nil, 0, err
	}
	switch number := int(data[1]); number { // each number that there is has a first byte of 0
	case 1:
		p.counters, p.listening = [many]int{}, false
		if data[2] == 255 {
			return data, 2, api.OK
		}
		return data, 1, api.OK
	case 2:
		return []byte{0, 2, byte(p.register / 256), byte(p.register % 256)}, 0, api.OK
	case 3:
		p.delim = data[2]
	case 4:
		p.listening = true
		return nil, 3, api.OK
	case 10:
		p.counters, p.register = [many]int{}, 0
	case 11, 12, 13, 14, 15, 16, 17, 18:
		n := p.counters[number-11]
		return []byte{0, data[1], byte(n / 256), byte(n % 256)}, 0, api.OK
	case 20:
		p.counters[7] = 0
	}
	return data, 0, api.OK
}

// newState is a state in which nothing happened.
func newState(t *testing.T) *diag.State {
	t.Helper()
	s := diag.New()
	if s == nil {
		t.Fatal("New() = nil")
	}
	return s
}

// count lets a counter be so much more.
func count(t *testing.T, s *diag.State, i, n int) {
	t.Helper()
	for range n {
		if err := s.Count(i); err != api.OK {
			t.Fatalf("Count(%d) = %d, want OK", i, err)
		}
	}
}

// checkIs asks a state for all that it is, twice: the asking changes nothing.
func checkIs(t *testing.T, s *diag.State, want plain) {
	t.Helper()
	for range 2 {
		if got := s.All(); !slices.Equal(got, want.told()) {
			t.Fatalf("All() = %v, want %v", got, want.told())
		}
		if got := s.Register(); int(got) != want.register {
			t.Fatalf("Register() = %d, want %d", got, want.register)
		}
		if got := s.Listening(); got != want.listening {
			t.Fatalf("Listening() = %v, want %v", got, want.listening)
		}
		if got := s.Delim(); got != want.delim {
			t.Fatalf("Delim() = %d, want %d", got, want.delim)
		}
	}
}

// checkDo asks a state a question: what it is told, and what that is in the end.
func checkDo(t *testing.T, s *diag.State, data []byte, want []byte, what int, e api.Errno) {
	t.Helper()
	kept := slices.Clone(data)
	got, w, err := s.Do(data)
	if !bytes.Equal(got, want) || w != what || err != e {
		t.Fatalf("Do(%v) = %v, %d, %d, want %v, %d, %d", data, got, w, err, want, what, e)
	}
	if !bytes.Equal(data, kept) {
		t.Fatalf("Do(%v) changes it to %v", kept, data)
	}
}

// checkAsk asks a state a question, and holds it against what it should be.
func checkAsk(t *testing.T, s *diag.State, p *plain, data []byte) {
	t.Helper()
	want, what, e := p.do(slices.Clone(data))
	checkDo(t, s, data, want, what, e)
	checkIs(t, s, *p)
}

// full is a state in which all is other than in a new one, and what it should be: each of its counters is another number above 255.
func full(t *testing.T) (*diag.State, plain) {
	t.Helper()
	s, p := newState(t), plain{register: 40000, listening: true, delim: 77}
	for i := range many {
		p.counters[i] = 259 + 300*i
		count(t, s, i, p.counters[i])
	}
	s.SetRegister(40000)
	checkDo(t, s, []byte{0, 3, 77, 0}, []byte{0, 3, 77, 0}, diag.Nothing, api.OK)
	checkDo(t, s, []byte{0, 4, 0, 0}, nil, diag.Listen, api.OK)
	checkIs(t, s, p)
	return s, p
}

// ask is a question of one word, or of none.
func ask(number int, words ...int) []byte {
	b := []byte{byte(number / 256), byte(number % 256)}
	for _, w := range words {
		b = append(b, byte(w/256), byte(w%256))
	}
	return b
}

// What comes of a question.

func TestNumbersOfWhatItComesTo(t *testing.T) {
	for want, got := range []int{diag.Nothing, diag.Restart, diag.Wipe, diag.Listen} {
		if got != want {
			t.Errorf("the number at place %d is %d", want, got)
		}
	}
}

// The sentence above the rules: a nil state, and one that no call made.

// questions are some of each sort: those that may be, and those that may not.
func questions() [][]byte {
	l := [][]byte{nil, {}, {0}, {0, 0}, {0, 5}, {0, 5, 0, 0}, {255, 255, 0, 0}, {0, 1, 0, 1}, {0, 1, 255, 0}, {0, 3, 65, 0}, {0, 0, 1, 2, 3, 4}}
	for _, n := range numbers {
		l = append(l, ask(n, 0), ask(n, 1), ask(n), ask(n, 0, 0), append(ask(n), 0))
	}
	return l
}

func checkUnmade(t *testing.T, s *diag.State) {
	t.Helper()
	checkNone := func() {
		t.Helper()
		if l := s.All(); len(l) != 0 {
			t.Fatalf("All() = %v, want nothing", l)
		}
		if s.Listening() || s.Register() != 0 || s.Delim() != 0 {
			t.Fatalf("it has %v, %d, %d, want false, 0, 0", s.Listening(), s.Register(), s.Delim())
		}
	}
	for range 2 {
		checkNone()
		for i := -2; i <= many+1; i++ {
			if err := s.Count(i); err != api.ErrArg {
				t.Fatalf("Count(%d) = %d, want ErrArg", i, err)
			}
			checkNone()
		}
		for _, w := range []uint16{0, 1, 9, 65535} {
			s.SetRegister(w)
			checkNone()
		}
		for _, q := range questions() {
			checkDo(t, s, q, nil, diag.Nothing, api.ErrArg)
			checkNone()
		}
	}
}

func TestNilState(t *testing.T) {
	var s *diag.State
	checkUnmade(t, s)
	if c := s.Clone(); c != nil {
		t.Errorf("Clone() = %v, want nil", c)
	}
	checkUnmade(t, s.Clone())
}

func TestStateThatNoCallMade(t *testing.T) {
	var none diag.State
	for _, s := range []*diag.State{{}, new(diag.State), &none} {
		checkUnmade(t, s)
		c := s.Clone()
		if c == nil || c == s {
			t.Fatalf("Clone() of %p = %p, want another one", s, c)
		}
		checkUnmade(t, c)
		checkUnmade(t, c.Clone())
		checkUnmade(t, s)
	}
}

// DI1: New.

func TestNew(t *testing.T) {
	s := newState(t)
	checkIs(t, s, plain{delim: 10})
	if l := s.All(); len(l) != many {
		t.Errorf("All() = %v, want eight", l)
	}
}

func TestNewStatesAreApart(t *testing.T) {
	a, b := newState(t), newState(t)
	p := fresh()
	count(t, a, 3, 5)
	a.SetRegister(9)
	checkDo(t, a, []byte{0, 3, 1, 0}, []byte{0, 3, 1, 0}, diag.Nothing, api.OK)
	checkDo(t, a, []byte{0, 4, 0, 0}, nil, diag.Listen, api.OK)
	checkIs(t, b, p)
	count(t, b, 0, 2)
	checkIs(t, a, plain{counters: [many]int{3: 5}, register: 9, listening: true, delim: 1})
	checkDo(t, a, []byte{0, 10, 0, 0}, []byte{0, 10, 0, 0}, diag.Nothing, api.OK)
	p.counters[0] = 2
	checkIs(t, b, p)
	checkIs(t, newState(t), fresh())
}

// DI1: Count and All.

func TestCountOfEachCounter(t *testing.T) {
	s, p := newState(t), fresh()
	for _, i := range []int{tally.Overrun, tally.Bus, tally.Silent, tally.Error, tally.Busy, tally.Exception, tally.Nak, tally.Server} {
		for range i + 2 {
			count(t, s, i, 1)
			p.counters[i]++
			checkIs(t, s, p)
		}
	}
	checkIs(t, s, plain{counters: [many]int{2, 3, 4, 5, 6, 7, 8, 9}, delim: 10})
}

func TestCountBehind65535IsNought(t *testing.T) {
	for i := range many {
		s, p := newState(t), fresh()
		count(t, s, i, 65535)
		p.counters[i] = 65535
		checkIs(t, s, p)
		checkDo(t, s, ask(11+i, 0), ask(11+i, 65535), diag.Nothing, api.OK)
		for n := range 3 {
			count(t, s, i, 1)
			p.counters[i] = n
			checkIs(t, s, p)
			checkDo(t, s, ask(11+i, 0), ask(11+i, n), diag.Nothing, api.OK)
		}
	}
}

func TestCountOfWhatIsNotThere(t *testing.T) {
	for _, i := range notThere {
		s, p := full(t)
		if err := s.Count(i); err != api.ErrArg {
			t.Errorf("Count(%d) = %d, want ErrArg", i, err)
		}
		checkIs(t, s, p)
	}
}

func TestCountChangesNothingElse(t *testing.T) {
	for i := range many {
		s, p := full(t)
		count(t, s, i, 1)
		p.counters[i]++
		checkIs(t, s, p)
	}
}

func TestAllIsNewMemory(t *testing.T) {
	s, p := full(t)
	a, b := s.All(), s.All()
	clear(a)
	_ = append(a, 98, 97)
	checkIs(t, s, p)
	kept := p.told()
	count(t, s, 2, 1)
	checkDo(t, s, []byte{0, 10, 0, 0}, []byte{0, 10, 0, 0}, diag.Nothing, api.OK)
	if !slices.Equal(b, kept) {
		t.Errorf("what was told is %v then, want %v", b, kept)
	}
}

// DI1: SetRegister, Register, Delim.

func TestSetRegisterOfEachWord(t *testing.T) {
	s, p := full(t)
	for w := range 65536 {
		s.SetRegister(uint16(w))
		if got := s.Register(); int(got) != w {
			t.Fatalf("Register() = %d, want %d", got, w)
		}
	}
	p.register = 65535
	checkIs(t, s, p)
	s.SetRegister(0)
	p.register = 0
	checkIs(t, s, p)
}

// DI1: Clone.

func TestCloneIsTheSame(t *testing.T) {
	s, p := full(t)
	for range 3 {
		c := s.Clone()
		if c == nil || c == s {
			t.Fatalf("Clone() of %p = %p, want another one", s, c)
		}
		checkIs(t, c, p)
		for _, n := range numbers { // it goes on as that does
			one, q := c.Clone(), p
			checkAsk(t, one, &q, ask(n, 0))
		}
		s = c
	}
	c := newState(t).Clone()
	checkIs(t, c, fresh())
	count(t, c, 4, 1)
	checkIs(t, c, plain{counters: [many]int{4: 1}, delim: 10})
}

// changes are all that can change a state, each by itself.
func changes(t *testing.T) map[string]func(*diag.State, *plain) {
	l := map[string]func(*diag.State, *plain){
		"SetRegister": func(s *diag.State, p *plain) {
			s.SetRegister(3)
			p.register = 3
		},
		"a change of All": func(s *diag.State, p *plain) { clear(s.All()) },
		"a clone of it": func(s *diag.State, p *plain) {
			c := s.Clone()
			c.Count(0)
			c.SetRegister(1)
			c.Do([]byte{0, 3, 1, 0})
			c.Do([]byte{0, 1, 0, 0})
		},
	}
	for i := range many {
		l[fmt.Sprintf("Count(%d)", i)] = func(s *diag.State, p *plain) {
			count(t, s, i, 1)
			p.counters[i]++
		}
	}
	for _, n := range numbers {
		l[fmt.Sprintf("Do of %d", n)] = func(s *diag.State, p *plain) {
			s.Do(ask(n, 0))
			p.do(ask(n, 0))
		}
	}
	return l
}

func TestCloneIsApart(t *testing.T) {
	for name, change := range changes(t) {
		t.Run(name, func(t *testing.T) {
			s, p := full(t)
			c, kept := s.Clone(), p
			change(s, &p)
			checkIs(t, s, p)
			checkIs(t, c, kept)

			s, p = full(t)
			c, kept = s.Clone(), p
			change(c, &p)
			checkIs(t, c, p)
			checkIs(t, s, kept)
		})
	}
}

// DI2: what is refused.

// firsts are numbers near those that there are, the same ones with another first byte, and the greatest ones.
func firsts() []int {
	var l []int
	for n := range 65536 {
		if n < 600 || n%256 <= 21 && n%1024 < 256 || n > 65500 {
			l = append(l, n)
		}
	}
	return l
}

func TestFewerThanTwoBytes(t *testing.T) {
	s, p := full(t)
	checkDo(t, s, nil, nil, diag.Nothing, api.BadValue)
	checkDo(t, s, []byte{}, nil, diag.Nothing, api.BadValue)
	for b := range 256 {
		checkDo(t, s, []byte{byte(b)}, nil, diag.Nothing, api.BadValue)
	}
	checkIs(t, s, p)
}

func TestNumbersThatThereAreNot(t *testing.T) {
	s, p := full(t)
	for n := range 65536 {
		if slices.Contains(numbers, n) {
			continue
		}
		// Whatever is behind: that it may not be is looked at last.
		for _, q := range [][]byte{ask(n, 0), ask(n), append(ask(n), 0), ask(n, 65280), ask(n, 1), ask(n, 0, 0), append(ask(n, 0), 7)} {
			checkDo(t, s, q, nil, diag.Nothing, api.BadFunction)
		}
	}
	for _, n := range []int{5, 6, 7, 8, 9, 19, 21, 22, 256, 65535} {
		for k := range 300 {
			checkDo(t, s, append(ask(n), make([]byte, k)...), nil, diag.Nothing, api.BadFunction)
		}
	}
	checkIs(t, s, p)
}

func TestEachNumberWithEachLength(t *testing.T) {
	for _, n := range numbers {
		s, p := full(t)
		for k := range 600 {
			q := append(ask(n), make([]byte, k)...)
			want := api.BadValue
			if k == 2 || n == 0 && k >= 2 && k <= 250 && k%2 == 0 {
				want = api.OK
			}
			if got := may(q); got != want {
				t.Fatalf("%v: %d, want %d", q, got, want)
			}
			checkAsk(t, s, &p, q)
			s, p = again(t, s, p)
		}
	}
}

// again is a state of which nothing is lost: the same one, or, behind a question that changed it, a full one.
func again(t *testing.T, s *diag.State, p plain) (*diag.State, plain) {
	t.Helper()
	if p.counters[7] == 0 || p.register == 0 || !p.listening || p.delim != 77 {
		return full(t)
	}
	return s, p
}

func TestEachNumberWithEachWord(t *testing.T) {
	for _, n := range numbers {
		whole, kept := full(t)
		s, p := whole.Clone(), kept
		for w := range 65536 {
			want := api.BadValue
			if w == 0 || n == 0 || n == 1 && w == 65280 || n == 3 && w%256 == 0 {
				want = api.OK
			}
			if got := may(ask(n, w)); got != want {
				t.Fatalf("%v: %d, want %d", ask(n, w), got, want)
			}
			checkAsk(t, s, &p, ask(n, w))
			if p != kept {
				s, p = whole.Clone(), kept
			}
		}
	}
}

func TestOtherNumbersWithOtherBytesBehind(t *testing.T) {
	r := rand.New(rand.NewSource(18))
	s, p := full(t)
	for _, n := range firsts() {
		for range 3 {
			q := ask(n)
			for range r.Intn(7) {
				q = append(q, []byte{0, 0, 0, 255, 1, 128}[r.Intn(6)])
			}
			checkAsk(t, s, &p, q)
			s, p = again(t, s, p)
		}
	}
}

// DI2: what is done.

func TestExamplesOfTheChapter(t *testing.T) {
	s, p := newState(t), fresh()
	count(t, s, tally.Bus, 515)
	p.counters[0] = 515
	checkDo(t, s, []byte{0, 11, 0, 0}, []byte{0, 11, 2, 3}, diag.Nothing, api.OK)
	checkDo(t, s, []byte{0, 5, 0, 0}, nil, diag.Nothing, api.BadFunction)
	checkDo(t, s, []byte{0, 1, 0, 1}, nil, diag.Nothing, api.BadValue)
	checkIs(t, s, p)
}

func TestRepeat(t *testing.T) {
	for n := 1; n <= 126; n++ {
		s, p := full(t)
		q := []byte{0, 0}
		for k := range 2 * n {
			q = append(q, byte(7*k+n))
		}
		if n > 125 {
			checkDo(t, s, q, nil, diag.Nothing, api.BadValue)
		} else {
			checkDo(t, s, q, q, diag.Nothing, api.OK)
			checkDo(t, s, q[:len(q)-1], nil, diag.Nothing, api.BadValue)
		}
		checkIs(t, s, p)
	}
	checkDo(t, newState(t), []byte{0, 0, 0, 5}, []byte{0, 0, 0, 5}, diag.Nothing, api.OK)
}

func TestRestart(t *testing.T) {
	for word, what := range map[int]int{0: diag.Restart, 65280: diag.Wipe} {
		q := ask(1, word)
		s, p := full(t)
		checkDo(t, s, q, q, what, api.OK)
		p.counters, p.listening = [many]int{}, false // the register and the byte stay
		checkIs(t, s, p)
		for range 2 {
			checkDo(t, s, q, q, what, api.OK)
			checkIs(t, s, p)
		}
		s = newState(t)
		checkDo(t, s, q, q, what, api.OK)
		checkIs(t, s, fresh())
	}
	s, p := full(t)
	for _, w := range []int{1, 255, 256, 32768, 65024, 65279, 65281, 65535} {
		checkDo(t, s, ask(1, w), nil, diag.Nothing, api.BadValue)
	}
	checkIs(t, s, p)
}

func TestTellRegister(t *testing.T) {
	s, p := full(t)
	for w := range 65536 {
		s.SetRegister(uint16(w))
		checkDo(t, s, []byte{0, 2, 0, 0}, ask(2, w), diag.Nothing, api.OK)
	}
	p.register = 65535
	checkIs(t, s, p)
}

func TestSetDelim(t *testing.T) {
	s, p := full(t)
	for b := range 256 {
		q := []byte{0, 3, byte(b), 0}
		checkDo(t, s, q, q, diag.Nothing, api.OK)
		p.delim = byte(b)
		checkIs(t, s, p)
		checkDo(t, s, []byte{0, 3, byte(b + 1), 1}, nil, diag.Nothing, api.BadValue)
		checkIs(t, s, p)
	}
}

func TestListen(t *testing.T) {
	s, p := newState(t), fresh()
	count(t, s, 3, 300)
	p.counters[3] = 300
	p.listening = true
	for range 2 {
		checkDo(t, s, []byte{0, 4, 0, 0}, nil, diag.Listen, api.OK)
		checkIs(t, s, p)
	}
	for _, n := range numbers { // it is asked and told all the same
		if n != 1 {
			checkAsk(t, s, &p, ask(n, 0))
		}
	}
	checkAsk(t, s, &p, []byte{0, 1, 0, 0})
	checkIs(t, s, plain{delim: p.delim}) // it listens only no more
}

func TestClearAll(t *testing.T) {
	s, p := full(t)
	q := []byte{0, 10, 0, 0}
	p.counters, p.register = [many]int{}, 0 // it listens only, and the byte stays
	for range 2 {
		checkDo(t, s, q, q, diag.Nothing, api.OK)
		checkIs(t, s, p)
	}
	count(t, s, 7, 2)
	p.counters[7] = 2
	checkIs(t, s, p)
}

func TestTellEachCounter(t *testing.T) {
	s, p := full(t)
	for i, n := range p.counters {
		checkDo(t, s, ask(11+i, 0), ask(11+i, n), diag.Nothing, api.OK)
	}
	checkIs(t, s, p)
	for i := range many {
		one := newState(t)
		count(t, one, i, 258)
		for k := range many {
			want := []byte{0, byte(11 + k), 0, 0}
			if k == i {
				want = []byte{0, byte(11 + k), 1, 2}
			}
			checkDo(t, one, ask(11+k, 0), want, diag.Nothing, api.OK)
		}
	}
}

func TestDropOverrun(t *testing.T) {
	s, p := full(t)
	q := []byte{0, 20, 0, 0}
	p.counters[7] = 0 // the others stay
	for range 2 {
		checkDo(t, s, q, q, diag.Nothing, api.OK)
		checkIs(t, s, p)
	}
	checkDo(t, s, []byte{0, 18, 0, 0}, []byte{0, 18, 0, 0}, diag.Nothing, api.OK)
	count(t, s, 7, 1)
	checkDo(t, s, []byte{0, 18, 0, 0}, []byte{0, 18, 0, 1}, diag.Nothing, api.OK)
}

func TestWhatIsToldIsNewMemory(t *testing.T) {
	for _, q := range questions() {
		s, p := full(t)
		data := slices.Clone(q)
		a, _, _ := s.Do(data)
		kept := slices.Clone(a)
		for i := range data {
			data[i] ^= 255
		}
		if !bytes.Equal(a, kept) {
			t.Fatalf("Do(%v) told the question's memory", q)
		}
		s, p = full(t)
		b, _, _ := s.Do(q)
		p.do(q)
		c, _, _ := s.Do(q)
		for i := range b {
			b[i] ^= 255
		}
		_ = append(b, 98, 97)
		if want, _, _ := p.do(q); !bytes.Equal(c, want) {
			t.Fatalf("Do(%v) = %v behind a change of what it told, want %v", q, c, want)
		}
		checkIs(t, s, p)
	}
}

func TestWhatLiesBehindTheLengthIsNotTouched(t *testing.T) {
	for _, q := range questions() {
		for _, more := range [][]byte{{0}, {0, 0}, {255, 255, 255, 255}} {
			whole := append(slices.Clone(q), more...)
			s, p := full(t)
			checkAsk(t, s, &p, whole[:len(q)])
			if !bytes.Equal(whole[len(q):], more) {
				t.Fatalf("Do(%v) writes behind its length: %v", q, whole)
			}
		}
	}
}

// DI3: what follows.

func TestAsManyBytesAsWereAsked(t *testing.T) {
	for _, q := range questions() {
		s, _ := full(t)
		out, _, err := s.Do(q)
		want := len(q)
		if err != api.OK || bytes.Equal(q, []byte{0, 4, 0, 0}) {
			want = 0
		}
		if len(out) != want {
			t.Errorf("Do(%v) = %v, want %d bytes", q, out, want)
		}
		if want > 0 && !bytes.Equal(out[:2], q[:2]) {
			t.Errorf("Do(%v) = %v, want the same number", q, out)
		}
	}
}

func TestWhatOnlyTellsChangesNothing(t *testing.T) {
	s, p := full(t)
	for range 3 {
		for _, n := range telling {
			want, what, e := p.do(ask(n, 0))
			for range 2 { // it is told the same then
				checkDo(t, s, ask(n, 0), want, what, e)
				checkIs(t, s, p)
			}
		}
	}
}

// Long runs.

// byChance is a question by chance, most of them with a number that there is.
func byChance(r *rand.Rand) []byte {
	n := numbers[r.Intn(len(numbers))]
	switch r.Intn(12) {
	case 0:
		n = r.Intn(24)
	case 1:
		n = r.Intn(65536)
	}
	q := ask(n, 0)
	switch k := r.Intn(20); {
	case n == 0:
		for range r.Intn(127) {
			q = append(q, byte(r.Intn(256)), byte(r.Intn(256)))
		}
	case n == 1 && k < 8:
		q[2] = 255
	case n == 3:
		q[2] = byte(r.Intn(256))
	case k == 0:
		q[2+r.Intn(2)] = byte(r.Intn(256))
	}
	switch r.Intn(20) {
	case 0:
		q = q[:r.Intn(len(q)+1)]
	case 1:
		q = append(q, make([]byte, r.Intn(4))...)
	case 2:
		q[r.Intn(len(q))] ^= 1 << r.Intn(8)
	}
	return q
}

// step does one call by chance to a state, and to the plain one.
func step(t *testing.T, r *rand.Rand, s *diag.State, p *plain) *diag.State {
	t.Helper()
	switch r.Intn(12) {
	case 0:
		w := r.Intn(65536)
		s.SetRegister(uint16(w))
		p.register = w
	case 1:
		return s.Clone()
	case 2, 3, 4, 5:
		i := r.Intn(many+4) - 2
		want := api.ErrArg
		if i >= 0 && i < many {
			want = api.OK
			p.counters[i]++
		}
		if err := s.Count(i); err != want {
			t.Fatalf("Count(%d) = %d, want %d", i, err, want)
		}
	default:
		checkAsk(t, s, p, byChance(r))
	}
	return s
}

func TestLongRunsOfAllCalls(t *testing.T) {
	for seed := range int64(8) {
		r := rand.New(rand.NewSource(seed))
		s, p := newState(t), fresh()
		for range 5000 {
			s = step(t, r, s, &p)
			checkIs(t, s, p)
		}
	}
}
