package tally_test

import (
	"fmt"
	"math"
	"math/rand"
	"slices"
	"testing"

	"bilge/api"
	"bilge/tally"
)

// many is how many counters there are; most is the most that one call can add.
const many, most = 8, 65536

// plain is what counters should be: each is kept as the whole sum, whatever its size.
type plain [many]int

// told is what these counters should tell: modulo 65536.
func (p plain) told() []uint16 {
	l := make([]uint16, many)
	for i, n := range p {
		l[i] = uint16(n % 65536)
	}
	return l
}

// notThere are numbers that no counter has.
var notThere = []int{math.MinInt, math.MinInt + 1, -65536, -256, -9, -8, -7, -2, -1, 8, 9, 15, 16, 255, 256, 257, 263, 65535, 65536, 65543, 1 << 32, 1<<32 + 7, math.MaxInt - 1, math.MaxInt}

// notToAdd are numbers that can't be added.
var notToAdd = []int{math.MinInt, math.MinInt + 1, -1 << 32, -65537, -65536, -65535, -256, -2, -1, 65537, 65538, 131071, 131072, 1 << 32, 1<<32 + 1, math.MaxInt - 1, math.MaxInt}

// newSet is counters of 0.
func newSet(t *testing.T) *tally.Set {
	t.Helper()
	s := tally.New()
	if s == nil {
		t.Fatal("New() = nil")
	}
	return s
}

// add lets a counter be so much more; it must be able to.
func add(t *testing.T, s *tally.Set, i, n int) {
	t.Helper()
	if err := s.Add(i, n); err != api.OK {
		t.Fatalf("Add(%d, %d) = %d, want OK", i, n, err)
	}
}

// drop lets a counter be 0; it must be able to.
func drop(t *testing.T, s *tally.Set, i int) {
	t.Helper()
	if err := s.Drop(i); err != api.OK {
		t.Fatalf("Drop(%d) = %d, want OK", i, err)
	}
}

// setOf is counters to which these were added, from the first one on.
func setOf(t *testing.T, numbers ...int) *tally.Set {
	t.Helper()
	s := newSet(t)
	for i, n := range numbers {
		add(t, s, i, n)
	}
	return s
}

// checkHolds asks counters for all that they are, twice: the asking changes nothing.
func checkHolds(t *testing.T, s *tally.Set, want ...uint16) {
	t.Helper()
	for range 2 {
		if got := s.All(); !slices.Equal(got, want) {
			t.Fatalf("All() = %v, want %v", got, want)
		}
		for i, w := range want {
			if got, ok := s.Get(i); got != w || !ok {
				t.Fatalf("Get(%d) = %d, %v, want %d", i, got, ok, w)
			}
		}
	}
}

// The counters' numbers.

func TestNumbersOfTheCounters(t *testing.T) {
	named := []int{tally.Bus, tally.Error, tally.Exception, tally.Server, tally.Silent, tally.Nak, tally.Busy, tally.Overrun, tally.Many}
	for want, got := range named {
		if got != want {
			t.Errorf("the number at place %d is %d", want, got)
		}
	}
}

// The sentence above the rules: a nil set, and one that no call made.

func checkUnmade(t *testing.T, s *tally.Set) {
	t.Helper()
	for range 2 {
		for i := -2; i <= many+1; i++ {
			for _, n := range []int{-1, 0, 1, 65535, most, most + 1} {
				if err := s.Add(i, n); err != api.ErrArg {
					t.Fatalf("Add(%d, %d) = %d, want ErrArg", i, n, err)
				}
			}
			if err := s.Drop(i); err != api.ErrArg {
				t.Fatalf("Drop(%d) = %d, want ErrArg", i, err)
			}
			if n, ok := s.Get(i); n != 0 || ok {
				t.Fatalf("Get(%d) = %d, %v, want 0, false", i, n, ok)
			}
		}
		if l := s.All(); len(l) != 0 {
			t.Fatalf("All() = %v, want nothing", l)
		}
		s.Clear()
	}
}

func TestNilSet(t *testing.T) {
	var s *tally.Set
	checkUnmade(t, s)
	if c := s.Clone(); c != nil {
		t.Errorf("Clone() = %v, want nil", c)
	}
	checkUnmade(t, s.Clone())
}

func TestSetThatNoCallMade(t *testing.T) {
	var plain tally.Set
	for _, s := range []*tally.Set{{}, new(tally.Set), &plain} {
		checkUnmade(t, s)
		c := s.Clone()
		if c == nil || c == s {
			t.Fatalf("Clone() of %p = %p, want another one", s, c)
		}
		checkUnmade(t, c)
		checkUnmade(t, c.Clone())
		checkUnmade(t, s)
	}
}

// TA1: New.

func TestNewIsAllNoughts(t *testing.T) {
	checkHolds(t, newSet(t), make([]uint16, many)...)
}

func TestNewSetsAreApart(t *testing.T) {
	a, b := newSet(t), newSet(t)
	add(t, a, 3, 5)
	checkHolds(t, b, 0, 0, 0, 0, 0, 0, 0, 0)
	add(t, b, 3, 7)
	add(t, b, 0, 1)
	checkHolds(t, a, 0, 0, 0, 5, 0, 0, 0, 0)
	checkHolds(t, b, 1, 0, 0, 7, 0, 0, 0, 0)
	a.Clear()
	checkHolds(t, b, 1, 0, 0, 7, 0, 0, 0, 0)
	checkHolds(t, newSet(t), 0, 0, 0, 0, 0, 0, 0, 0)
}

// TA1: Add.

func TestAddOfTheExamples(t *testing.T) {
	s := newSet(t)
	add(t, s, 0, 65536)
	checkHolds(t, s, 0, 0, 0, 0, 0, 0, 0, 0)
	add(t, s, 7, 2)
	checkHolds(t, s, 0, 0, 0, 0, 0, 0, 0, 2)
}

func TestAddToEachCounter(t *testing.T) {
	for i := range many {
		for _, n := range []int{0, 1, 2, 3, 127, 128, 255, 256, 257, 32767, 32768, 32769, 65534, 65535, 65536} {
			var p plain
			s := newSet(t)
			for range 5 {
				add(t, s, i, n)
				p[i] += n
				checkHolds(t, s, p.told()...)
			}
		}
	}
}

func TestAddOfEachNumberThatMayBe(t *testing.T) {
	for n := range most + 1 {
		s := newSet(t)
		add(t, s, n%many, 1)
		add(t, s, n%many, n)
		if got, ok := s.Get(n % many); got != uint16((n+1)%65536) || !ok {
			t.Fatalf("1 and %d more: %d, %v", n, got, ok)
		}
	}
}

func TestAddToEachNumberThatMayBe(t *testing.T) {
	one, s := newSet(t), newSet(t)
	for n := range most + 1 {
		for i, more := range []int{0, 1, 65535, 65536} {
			got := one.Clone()
			add(t, got, 4, more)
			if g, ok := got.Get(4); g != uint16((n+more)%65536) || !ok {
				t.Fatalf("%d and %d more: %d, %v", n, more, g, ok)
			}
			add(t, s, i, more)
		}
		add(t, one, 4, 1)
	}
	checkHolds(t, one, 0, 0, 0, 0, 1, 0, 0, 0)
	checkHolds(t, s, 0, 1, 65535, 0, 0, 0, 0, 0) // 65537 times 0, 1, 65535 and 65536
}

func TestAddBehind65535IsNoughtAgain(t *testing.T) {
	for i := range many {
		var p plain
		s := newSet(t)
		add(t, s, i, 65535)
		p[i] = 65535
		checkHolds(t, s, p.told()...)
		for range 4 {
			add(t, s, i, 1)
			p[i]++
			checkHolds(t, s, p.told()...) // 0, 1, 2 and 3; none beside it is one more
		}
	}
}

func TestAddOfNothingChangesNothing(t *testing.T) {
	s := setOf(t, 1, 2, 3, 65535, 5, 6, 7, 8)
	for i := range many {
		add(t, s, i, 0)
		add(t, s, i, 65536)
		checkHolds(t, s, 1, 2, 3, 65535, 5, 6, 7, 8)
	}
}

func TestAddToWhatIsNotThere(t *testing.T) {
	s := setOf(t, 9, 8, 7, 6, 5, 4, 3, 2)
	for _, i := range notThere {
		for _, n := range append([]int{0, 1, 2, 255, 65535, 65536}, notToAdd...) {
			if err := s.Add(i, n); err != api.ErrArg {
				t.Errorf("Add(%d, %d) = %d, want ErrArg", i, n, err)
			}
			checkHolds(t, s, 9, 8, 7, 6, 5, 4, 3, 2)
		}
	}
}

func TestAddOfNumbersThatMayNotBe(t *testing.T) {
	s := setOf(t, 9, 8, 7, 6, 5, 4, 3, 2)
	for i := range many {
		for _, n := range notToAdd {
			if err := s.Add(i, n); err != api.ErrArg {
				t.Errorf("Add(%d, %d) = %d, want ErrArg", i, n, err)
			}
			checkHolds(t, s, 9, 8, 7, 6, 5, 4, 3, 2)
		}
	}
}

// TA1: Drop.

func TestDropOfEachCounter(t *testing.T) {
	for i := range many {
		for _, n := range []int{0, 1, 255, 256, 65535, 65536} {
			want := []uint16{1, 2, 3, 4, 5, 6, 7, 8}
			s := setOf(t, 1, 2, 3, 4, 5, 6, 7, 8)
			add(t, s, i, n)
			want[i] = 0
			for range 2 { // one that is 0 can be dropped too
				drop(t, s, i)
				checkHolds(t, s, want...)
			}
			add(t, s, i, 65535) // it goes on from 0
			want[i] = 65535
			checkHolds(t, s, want...)
		}
	}
}

func TestDropOfAll(t *testing.T) {
	s := setOf(t, 1, 2, 3, 4, 5, 6, 7, 8)
	want := s.All()
	for _, i := range []int{7, 0, 3, 5, 1, 6, 2, 4} {
		drop(t, s, i)
		want[i] = 0
		checkHolds(t, s, want...)
	}
}

func TestDropOfWhatIsNotThere(t *testing.T) {
	s := setOf(t, 9, 8, 7, 6, 5, 4, 3, 2)
	for _, i := range notThere {
		if err := s.Drop(i); err != api.ErrArg {
			t.Errorf("Drop(%d) = %d, want ErrArg", i, err)
		}
		checkHolds(t, s, 9, 8, 7, 6, 5, 4, 3, 2)
	}
}

// TA1: Clear.

func TestClearOfEachCounter(t *testing.T) {
	for i := range many {
		s := newSet(t)
		add(t, s, i, 65535)
		for range 2 {
			s.Clear()
			checkHolds(t, s, 0, 0, 0, 0, 0, 0, 0, 0)
		}
		add(t, s, i, 3) // they are there as ahead
		want := make([]uint16, many)
		want[i] = 3
		checkHolds(t, s, want...)
	}
}

func TestClearOfAll(t *testing.T) {
	s := setOf(t, 1, 2, 3, 4, 5, 6, 7, 65535)
	s.Clear()
	checkHolds(t, s, 0, 0, 0, 0, 0, 0, 0, 0)
	for i := range many {
		add(t, s, i, i)
	}
	checkHolds(t, s, 0, 1, 2, 3, 4, 5, 6, 7)
}

// TA2: Get.

func TestGetOfEachCounter(t *testing.T) {
	s := setOf(t, 10, 20, 30, 40, 50, 60, 70, 80)
	for i := range many {
		if n, ok := s.Get(i); n != uint16(10*i+10) || !ok {
			t.Errorf("Get(%d) = %d, %v, want %d", i, n, ok, 10*i+10)
		}
	}
}

func TestGetTellsANoughtApartFromNone(t *testing.T) {
	s := newSet(t)
	if n, ok := s.Get(7); n != 0 || !ok {
		t.Errorf("Get(7) = %d, %v, want 0, true", n, ok)
	}
	if n, ok := s.Get(8); n != 0 || ok {
		t.Errorf("Get(8) = %d, %v, want 0, false", n, ok)
	}
}

func TestGetOfWhatIsNotThere(t *testing.T) {
	s := setOf(t, 9, 8, 7, 6, 5, 4, 3, 2)
	for _, i := range notThere {
		if n, ok := s.Get(i); n != 0 || ok {
			t.Errorf("Get(%d) = %d, %v, want 0, false", i, n, ok)
		}
	}
	checkHolds(t, s, 9, 8, 7, 6, 5, 4, 3, 2)
}

// TA2: All.

func TestAllIsByNumber(t *testing.T) {
	s := newSet(t)
	for _, i := range []int{tally.Overrun, tally.Bus, tally.Silent, tally.Error, tally.Busy, tally.Exception, tally.Nak, tally.Server} {
		add(t, s, i, 100+i)
	}
	checkHolds(t, s, 100, 101, 102, 103, 104, 105, 106, 107)
}

func TestAllIsNewMemory(t *testing.T) {
	s := setOf(t, 1, 2, 3, 4, 5, 6, 7, 8)
	a, b := s.All(), s.All()
	for i := range a {
		a[i] = 99
	}
	_ = append(a, 98, 97)
	checkHolds(t, s, 1, 2, 3, 4, 5, 6, 7, 8)
	for name, change := range map[string]func(){
		"a change of another list": func() {},
		"Add":                      func() { add(t, s, 0, 5) },
		"Drop":                     func() { drop(t, s, 1) },
		"Clear":                    func() { s.Clear() },
	} {
		change()
		if !slices.Equal(b, []uint16{1, 2, 3, 4, 5, 6, 7, 8}) {
			t.Fatalf("%s makes what was told %v", name, b)
		}
	}
}

// TA2: Clone.

func TestCloneIsTheSame(t *testing.T) {
	for _, numbers := range [][]int{nil, {1}, {0, 0, 0, 0, 0, 0, 0, 65535}, {65535, 65536, 1, 2, 3, 4, 5, 6}} {
		s := setOf(t, numbers...)
		c := s.Clone()
		if c == nil || c == s {
			t.Fatalf("Clone() of %p = %p, want another one", s, c)
		}
		want := s.All()
		checkHolds(t, c, want...)
		for i := range many { // it goes on as they do
			add(t, c, i, 65530)
			want[i] += 65530
			checkHolds(t, c, want...)
		}
		c.Clear()
		checkHolds(t, c, make([]uint16, many)...)
	}
}

func TestCloneIsApart(t *testing.T) {
	for name, change := range map[string]func(s *tally.Set){
		"Add": func(s *tally.Set) { s.Add(2, 9) },
		"Add to all": func(s *tally.Set) {
			for i := range many {
				s.Add(i, 9)
			}
		},
		"Drop":            func(s *tally.Set) { s.Drop(3) },
		"Clear":           func(s *tally.Set) { s.Clear() },
		"a change of All": func(s *tally.Set) { clear(s.All()) },
		"Add to a clone":  func(s *tally.Set) { s.Clone().Add(0, 1) },
		"Clear a clone":   func(s *tally.Set) { s.Clone().Clear() },
	} {
		t.Run(name, func(t *testing.T) {
			s := setOf(t, 1, 2, 3, 4, 5, 6, 7, 8)
			c := s.Clone()
			change(s)
			checkHolds(t, c, 1, 2, 3, 4, 5, 6, 7, 8)

			s = setOf(t, 1, 2, 3, 4, 5, 6, 7, 8)
			c = s.Clone()
			change(c)
			checkHolds(t, s, 1, 2, 3, 4, 5, 6, 7, 8)
		})
	}
}

func TestCloneAndItsSetGoOnEachByItself(t *testing.T) {
	s := setOf(t, 1, 2, 3)
	c := s.Clone()
	a, b := plain{1, 2, 3}, plain{1, 2, 3}
	for n := range 40 {
		i := n % many
		add(t, s, i, 5000)
		a[i] += 5000
		checkHolds(t, c, b.told()...)
		add(t, c, many-1-i, 7000)
		b[many-1-i] += 7000
		checkHolds(t, s, a.told()...)
		checkHolds(t, c, b.told()...)
	}
}

// TA3: what follows.

// step does one call by chance to counters, and to the plain ones; what may not be done changes neither.
func step(t *testing.T, r *rand.Rand, s *tally.Set, p *plain) *tally.Set {
	t.Helper()
	i, n := r.Intn(many+4)-2, r.Intn(most+5)-2
	there := i >= 0 && i < many
	want := api.OK
	switch r.Intn(40) {
	case 0:
		s.Clear()
		*p = plain{}
	case 1:
		return s.Clone()
	case 2, 3, 4, 5:
		if there {
			p[i] = 0
		} else {
			want = api.ErrArg
		}
		checkErr(t, fmt.Sprintf("Drop(%d)", i), s.Drop(i), want)
	default:
		if r.Intn(3) == 0 {
			n = []int{-1, 0, 1, 2, 255, 256, 65534, 65535, 65536, 65537}[r.Intn(10)]
		}
		if there && n >= 0 && n <= most {
			p[i] += n
		} else {
			want = api.ErrArg
		}
		checkErr(t, fmt.Sprintf("Add(%d, %d)", i, n), s.Add(i, n), want)
	}
	return s
}

// checkErr holds what a call answered against what it should.
func checkErr(t *testing.T, call string, got, want api.Errno) {
	t.Helper()
	if got != want {
		t.Fatalf("%s = %d, want %d", call, got, want)
	}
}

func TestLongRunsOfAllCalls(t *testing.T) {
	for seed := range int64(8) {
		r := rand.New(rand.NewSource(seed))
		s, p := newSet(t), plain{}
		for range 5000 {
			s = step(t, r, s, &p)
			checkHolds(t, s, p.told()...)
		}
	}
}

func TestAddIsASumInAnyOrder(t *testing.T) {
	r := rand.New(rand.NewSource(8))
	for range 200 {
		var p plain
		var adds [][2]int
		for range 30 {
			a := [2]int{r.Intn(many), r.Intn(most + 1)}
			adds = append(adds, a)
			p[a[0]] += a[1]
		}
		for range 5 {
			r.Shuffle(len(adds), func(i, j int) { adds[i], adds[j] = adds[j], adds[i] })
			s := newSet(t)
			for _, a := range adds {
				add(t, s, a[0], a[1])
			}
			checkHolds(t, s, p.told()...)
		}
	}
}
