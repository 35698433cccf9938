package window_test

import (
	"math"
	"math/big"
	"testing"

	"bilge/api"
	"bilge/window"
)

// numbers are at, and one beside, each bound that is told, and far away.
var numbers = []int{
	math.MinInt, math.MinInt + 1, math.MinInt + 65535, math.MinInt + 65536, -1 << 32, -65537, -65536, -65535, -2, -1,
	0, 1, 2, 3, 9, 10, 11, 14, 15, 16, 255, 256, 32767, 32768, 65533, 65534, 65535, 65536, 65537, 65538, 131071, 131072,
	1 << 31, 1 << 32, 1<<32 + 1, math.MaxInt - 65536, math.MaxInt - 65535, math.MaxInt - 1, math.MaxInt,
}

// rightOnes are windows that may be.
var rightOnes = []api.Window{
	{}, {From: 0, Count: 1}, {From: 0, Count: 2}, {From: 0, Count: 65535}, {From: 0, Count: 65536},
	{From: 1}, {From: 1, Count: 1}, {From: 1, Count: 65535}, {From: 10}, {From: 10, Count: 1}, {From: 10, Count: 5},
	{From: 15, Count: 1}, {From: 15, Count: 65521}, {From: 255, Count: 256}, {From: 32768, Count: 32768},
	{From: 65534, Count: 1}, {From: 65534, Count: 2}, {From: 65535}, {From: 65535, Count: 1},
}

// wrongOnes are windows that may not be.
var wrongOnes = []api.Window{
	{From: -1}, {From: -1, Count: 1}, {From: -1, Count: 2}, {From: -1, Count: 65537}, {From: -5, Count: 10},
	{From: -65536, Count: 65536}, {From: 0, Count: -1}, {From: 5, Count: -1}, {From: 65535, Count: -65535},
	{From: 0, Count: 65537}, {From: 1, Count: 65536}, {From: 2, Count: 65535}, {From: 65535, Count: 2},
	{From: 65536}, {From: 65536, Count: 1}, {From: 65536, Count: -1}, {From: 65537, Count: -1}, {From: 32768, Count: 32769},
	{From: math.MaxInt, Count: math.MaxInt}, {From: math.MaxInt, Count: 1}, {From: 1, Count: math.MaxInt},
	{From: math.MinInt, Count: math.MinInt}, {From: math.MinInt, Count: math.MaxInt}, {From: math.MaxInt, Count: math.MinInt},
	{From: -1, Count: math.MinInt}, {From: 0, Count: math.MinInt}, {From: 0, Count: math.MaxInt}, {From: 1 << 32, Count: 1},
	{From: 0, Count: 1<<32 + 1}, {From: 1 << 32}, {From: -1, Count: -1},
}

// every tells each window of numbers, those that may be and those that may not.
func every(tell func(api.Window)) {
	for _, from := range numbers {
		for _, count := range numbers {
			tell(api.Window{From: from, Count: count})
		}
	}
}

// small tells each window near 0, and as near to the last place.
func small(tell func(api.Window)) {
	for _, from := range []int{-2, 65528} {
		for at := range 11 {
			for count := -1; count <= 9; count++ {
				tell(api.Window{From: from + at, Count: count})
			}
		}
	}
}

// exact is numbers that leave no type.
func exact(n int) *big.Int { return big.NewInt(int64(n)) }

// behind is the first number that lies behind so many from one on.
func behind(from, count int) *big.Int { return new(big.Int).Add(exact(from), exact(count)) }

// mayBe is the document's words, reckoned in numbers that leave no type.
func mayBe(w api.Window) bool {
	return 0 <= w.From && w.From <= 65535 && 0 <= w.Count && w.Count <= 65536 && behind(w.From, w.Count).Cmp(exact(65536)) <= 0
}

// isPlace tells the same of one place.
func isPlace(w api.Window, at int) bool {
	return mayBe(w) && exact(at).Cmp(exact(w.From)) >= 0 && exact(at).Cmp(behind(w.From, w.Count)) < 0
}

// allAre tells whether each of so many from one on is a place of a window.
func allAre(w api.Window, from, count int) bool {
	return mayBe(w) && count >= 1 && from >= w.From && behind(from, count).Cmp(behind(w.From, w.Count)) <= 0
}

// oneIs tells whether one of so many from one on is a place of a window, by leaving out where none can be.
func oneIs(w api.Window, from, count int) bool {
	ahead := behind(from, count).Cmp(exact(w.From)) <= 0
	after := exact(from).Cmp(behind(w.From, w.Count)) >= 0
	return mayBe(w) && count >= 1 && w.Count >= 1 && !ahead && !after
}

// WI1: Right.

func TestRightOfSomeWindows(t *testing.T) {
	for _, w := range rightOnes {
		if !window.Right(w) {
			t.Errorf("Right(%v) = false", w)
		}
	}
	for _, w := range wrongOnes {
		if window.Right(w) {
			t.Errorf("Right(%v) = true", w)
		}
	}
}

func TestRightAtEachBound(t *testing.T) {
	for from := -3; from <= 65539; from++ {
		most := 65536 - from
		inside := from >= 0 && from <= 65535
		for _, count := range []int{0, 1, most - 1, most, most + 1} {
			want := inside && count >= 0 && count <= most
			if w := (api.Window{From: from, Count: count}); window.Right(w) != want {
				t.Fatalf("Right(%v) = %v", w, !want)
			}
		}
	}
}

func TestRightOfEachWindow(t *testing.T) {
	ask := func(w api.Window) {
		if got, want := window.Right(w), mayBe(w); got != want {
			t.Errorf("Right(%v) = %v", w, got)
		}
	}
	every(ask)
	small(ask)
}

// WI1: Has and Place.

// checkHas asks whether a place is one of a window's, or not.
func checkHas(t *testing.T, w api.Window, at int, want bool) {
	t.Helper()
	which := 0
	if want {
		which = at - w.From
	}
	if got := window.Has(w, at); got != want {
		t.Fatalf("Has(%v, %d) = %v", w, at, got)
	}
	if n, ok := window.Place(w, at); n != which || ok != want {
		t.Fatalf("Place(%v, %d) = %d, %v, want %d, %v", w, at, n, ok, which, want)
	}
}

func TestHasAndPlaceOfSomePlaces(t *testing.T) {
	w := api.Window{From: 10, Count: 5}
	for at := -20; at < 40; at++ {
		checkHas(t, w, at, at == 10 || at == 11 || at == 12 || at == 13 || at == 14)
	}
	if n, ok := window.Place(w, 12); n != 2 || !ok {
		t.Errorf("Place(%v, 12) = %d, %v", w, n, ok)
	}
}

func TestHasAndPlaceAtTheEndsOfEachRightWindow(t *testing.T) {
	for _, w := range rightOnes {
		last := w.From + w.Count - 1
		checkHas(t, w, w.From-1, false)
		checkHas(t, w, w.From, w.Count > 0)
		checkHas(t, w, last, w.Count > 0)
		checkHas(t, w, last+1, false)
		checkHas(t, w, w.From+w.Count/2, w.Count > 0)
	}
}

func TestAllPlacesOfAWindowThatHasThemAll(t *testing.T) {
	w := api.Window{Count: 65536}
	for at := -10; at < 65546; at++ {
		checkHas(t, w, at, at >= 0 && at <= 65535)
	}
}

func TestAWindowThatMayNotBeHasNoPlace(t *testing.T) {
	for _, w := range wrongOnes {
		for _, at := range append([]int{w.From, w.From + 1, w.From + w.Count - 1, w.From + w.Count}, numbers...) {
			checkHas(t, w, at, false)
		}
	}
}

func TestHasAndPlaceOfEachWindow(t *testing.T) {
	every(func(w api.Window) {
		for _, at := range numbers {
			checkHas(t, w, at, isPlace(w, at))
		}
	})
	small(func(w api.Window) {
		for at := -5; at < 15; at++ {
			checkHas(t, w, at, isPlace(w, at))
			checkHas(t, w, at+65526, isPlace(w, at+65526))
		}
	})
}

// WI2.

// checkAsked asks whether a window holds so many from one on, and whether it meets them.
func checkAsked(t *testing.T, w api.Window, from, count int, holds, meets bool) {
	t.Helper()
	if got := window.Holds(w, from, count); got != holds {
		t.Fatalf("Holds(%v, %d, %d) = %v", w, from, count, got)
	}
	if got := window.Meets(w, from, count); got != meets {
		t.Fatalf("Meets(%v, %d, %d) = %v", w, from, count, got)
	}
}

func TestHoldsAndMeetsOfSomePlaces(t *testing.T) {
	w := api.Window{From: 10, Count: 5}
	cases := []struct {
		from, count  int
		holds, meets bool
	}{
		{12, 3, true, true}, {12, 4, false, true}, {10, 5, true, true}, {10, 6, false, true}, {9, 5, false, true},
		{9, 1, false, false}, {9, 2, false, true}, {9, 6, false, true}, {9, 7, false, true}, {10, 1, true, true},
		{14, 1, true, true}, {14, 2, false, true}, {15, 1, false, false}, {15, 9, false, false}, {5, 5, false, false},
		{5, 6, false, true}, {0, 10, false, false}, {0, 11, false, true}, {0, 65536, false, true}, {-1, 11, false, false},
		{-1, 12, false, true}, {16, 65536, false, false},
	}
	for _, c := range cases {
		checkAsked(t, w, c.from, c.count, c.holds, c.meets)
	}
}

func TestNoneIsNeitherHeldNorMet(t *testing.T) {
	for _, w := range rightOnes {
		for _, from := range append([]int{w.From, w.From + 1, w.From + w.Count}, numbers...) {
			for _, count := range []int{0, -1, -2, -5, -65536, -1 << 32, math.MinInt, math.MinInt + 1} {
				checkAsked(t, w, from, count, false, false)
			}
		}
	}
}

func TestAWindowWithoutPlacesHoldsAndMeetsNone(t *testing.T) {
	for _, from := range []int{0, 1, 10, 65535} {
		for _, first := range numbers {
			for _, count := range numbers {
				checkAsked(t, api.Window{From: from}, first, count, false, false)
			}
		}
	}
}

func TestAWindowThatMayNotBeHoldsAndMeetsNone(t *testing.T) {
	for _, w := range wrongOnes {
		for _, from := range append([]int{w.From, w.From + 1}, numbers...) {
			for _, count := range append([]int{w.Count, 5}, numbers...) {
				checkAsked(t, w, from, count, false, false)
			}
		}
	}
}

func TestHoldsAndMeetsAtTheEndsOfEachRightWindow(t *testing.T) {
	for _, w := range rightOnes {
		if w.Count == 0 {
			continue
		}
		last := w.From + w.Count - 1
		checkAsked(t, w, w.From, w.Count, true, true)
		checkAsked(t, w, w.From, w.Count+1, false, true)
		checkAsked(t, w, w.From-1, w.Count+1, false, true)
		checkAsked(t, w, w.From-1, 1, false, false)
		checkAsked(t, w, w.From-1, 2, false, true)
		checkAsked(t, w, w.From-3, 3, false, false)
		checkAsked(t, w, last, 1, true, true)
		checkAsked(t, w, last, 2, false, true)
		checkAsked(t, w, last+1, 1, false, false)
		checkAsked(t, w, last+1, 65536, false, false)
	}
}

func TestMeetsOfMoreThanThereAre(t *testing.T) {
	for _, w := range rightOnes {
		if w.Count == 0 {
			continue
		}
		checkAsked(t, w, -100000, 1000000, false, true)
		checkAsked(t, w, -1, math.MaxInt, false, true)
		checkAsked(t, w, w.From-1, math.MaxInt, false, true)
		checkAsked(t, w, w.From, math.MaxInt, false, true)
		checkAsked(t, w, w.From+w.Count-1, math.MaxInt, false, true)
		checkAsked(t, w, w.From+w.Count, math.MaxInt, false, false)
		checkAsked(t, w, math.MinInt, math.MaxInt, false, false)
		checkAsked(t, w, math.MaxInt, math.MaxInt, false, false)
		checkAsked(t, w, -math.MaxInt, math.MaxInt, false, false)
		checkAsked(t, w, w.From+1-math.MaxInt, math.MaxInt, false, true)
		checkAsked(t, w, w.From-math.MaxInt, math.MaxInt, false, false)
	}
}

func TestHoldsAndMeetsOfEachWindow(t *testing.T) {
	every(func(w api.Window) {
		for _, from := range numbers {
			for _, count := range numbers {
				checkAsked(t, w, from, count, allAre(w, from, count), oneIs(w, from, count))
			}
		}
	})
}

// WI3.

// checkCut asks whether two windows share just those places, whichever is named first.
func checkCut(t *testing.T, a, b, want api.Window) {
	t.Helper()
	if got := window.Cut(a, b); got != want {
		t.Fatalf("Cut(%v, %v) = %v, want %v", a, b, got, want)
	}
	if got := window.Cut(b, a); got != want {
		t.Fatalf("Cut(%v, %v) = %v, want %v", b, a, got, want)
	}
}

func TestCutOfSomeWindows(t *testing.T) {
	w := api.Window{From: 10, Count: 5}
	cases := []struct{ b, want api.Window }{
		{api.Window{From: 10, Count: 5}, api.Window{From: 10, Count: 5}},
		{api.Window{From: 0, Count: 65536}, api.Window{From: 10, Count: 5}},
		{api.Window{From: 12, Count: 3}, api.Window{From: 12, Count: 3}},
		{api.Window{From: 12, Count: 4}, api.Window{From: 12, Count: 3}},
		{api.Window{From: 11, Count: 2}, api.Window{From: 11, Count: 2}},
		{api.Window{From: 0, Count: 11}, api.Window{From: 10, Count: 1}},
		{api.Window{From: 0, Count: 10}, api.Window{}},
		{api.Window{From: 9, Count: 3}, api.Window{From: 10, Count: 2}},
		{api.Window{From: 14, Count: 65522}, api.Window{From: 14, Count: 1}},
		{api.Window{From: 15, Count: 5}, api.Window{}},
		{api.Window{From: 12}, api.Window{}},
		{api.Window{}, api.Window{}},
	}
	for _, c := range cases {
		checkCut(t, w, c.b, c.want)
	}
	checkCut(t, api.Window{From: 65535, Count: 1}, api.Window{From: 65535, Count: 1}, api.Window{From: 65535, Count: 1})
	checkCut(t, api.Window{Count: 1}, api.Window{Count: 9}, api.Window{Count: 1})
	checkCut(t, api.Window{Count: 65536}, api.Window{Count: 65536}, api.Window{Count: 65536})
}

func TestCutWithOneThatMayNotBeIsTheZeroOne(t *testing.T) {
	for _, w := range wrongOnes {
		for _, other := range append(append([]api.Window{}, rightOnes...), wrongOnes...) {
			checkCut(t, w, other, api.Window{})
		}
	}
}

func TestCutWithNothingIsTheZeroOne(t *testing.T) {
	for _, from := range []int{0, 1, 10, 65535} {
		for _, other := range rightOnes {
			checkCut(t, api.Window{From: from}, other, api.Window{})
		}
	}
}

func TestCutOfAWindowWithItselfIsThatOne(t *testing.T) {
	every(func(w api.Window) {
		want := w
		if !mayBe(w) || w.Count == 0 {
			want = api.Window{}
		}
		checkCut(t, w, w, want)
	})
}

func TestCutHasThePlacesThatBothHave(t *testing.T) {
	small(func(a api.Window) {
		small(func(b api.Window) {
			want := api.Window{}
			for at := -2; at < 65548; at++ {
				if at == 20 {
					at = 65520 // none of them has a place between
				}
				switch {
				case !isPlace(a, at) || !isPlace(b, at):
				case want.Count == 0:
					want = api.Window{From: at, Count: 1}
				default:
					want.Count++
				}
			}
			checkCut(t, a, b, want)
		})
	})
}

func TestCutOfEachWindow(t *testing.T) {
	every(func(a api.Window) {
		for _, b := range append(append([]api.Window{}, rightOnes...), wrongOnes...) {
			want := api.Window{}
			if mayBe(a) && mayBe(b) {
				from := max(a.From, b.From)
				if count := min(a.From+a.Count, b.From+b.Count) - from; count > 0 {
					want = api.Window{From: from, Count: count}
				}
			}
			checkCut(t, a, b, want)
		}
	})
}

// WI4.

func TestHoldsAndMeetsAreWhatHasTellsOfEachPlace(t *testing.T) {
	small(func(w api.Window) {
		for _, first := range []int{-5, 65523} {
			for from := first; from < first+20; from++ {
				for count := -2; count <= 16; count++ {
					all, one := count > 0, false
					for at := from; at < from+count; at++ {
						has := window.Has(w, at)
						all, one = all && has, one || has
					}
					checkAsked(t, w, from, count, all, one)
				}
			}
		}
	})
}

func TestWhatIsHeldIsMetAndHasAPlaceInTheCut(t *testing.T) {
	every(func(w api.Window) {
		for _, other := range rightOnes {
			cut := window.Cut(w, other)
			if meets := window.Meets(w, other.From, other.Count); meets != (cut.Count > 0) {
				t.Fatalf("Meets(%v, %v) = %v, but Cut tells %v", w, other, meets, cut)
			}
			if holds := window.Holds(w, other.From, other.Count); holds != (cut == other && cut.Count > 0) {
				t.Fatalf("Holds(%v, %v) = %v, but Cut tells %v", w, other, holds, cut)
			}
			if cut.Count > 0 && !(window.Holds(w, cut.From, cut.Count) && window.Holds(other, cut.From, cut.Count)) {
				t.Fatalf("Cut(%v, %v) = %v, which they don't both hold", w, other, cut)
			}
		}
	})
}

func TestCallsKeepNothing(t *testing.T) {
	w := api.Window{From: 10, Count: 5}
	for range 3 {
		checkAsked(t, w, 12, 3, true, true)
		checkAsked(t, w, 12, 4, false, true)
		checkHas(t, w, 15, false)
		checkHas(t, w, 14, true)
		checkCut(t, w, api.Window{From: 14, Count: 4}, api.Window{From: 14, Count: 1})
		checkCut(t, w, api.Window{From: -1, Count: 40}, api.Window{})
	}
}
