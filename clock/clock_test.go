package clock_test

import (
	"math"
	"math/big"
	"testing"

	"bilge/api"
	"bilge/clock"
)

const maxLine = 16777216 // what none of a line's times is above

// line is a line's times.
func line(char, short, long, turn int) api.Times {
	return api.Times{Char: char, Short: short, Long: long, Turn: turn}
}

// up is the least whole number that is not below n / d, by steps from below.
func up(n, d int) int {
	whole := n / d
	for whole*d < n {
		whole++
	}
	return whole
}

// told is what CL1 says of a line, word by word, without asking whether the times may be.
func told(baud, ticks, turn int) api.Times {
	c := up(11*ticks, baud)
	s, l := up(33*ticks, 2*baud), up(77*ticks, 2*baud)
	if baud > 19200 {
		s, l = up(750*ticks, 1000000), up(1750*ticks, 1000000)
	}
	return line(c, c+s, c+l, turn)
}

// may is whether times may be, by the words of the chapter.
func may(t api.Times) bool {
	switch {
	case t.Char < 1, t.Short < t.Char, t.Long <= t.Short, t.Turn < 0:
		return false
	case t.Char > maxLine, t.Short > maxLine, t.Long > maxLine, t.Turn > maxLine:
		return false
	}
	return true
}

// wide are numbers at the edges of all that a time may be.
var wide = []int{
	math.MinInt, math.MinInt + 1, -api.MaxTime - 1, -api.MaxTime, -2, -1, 0, 1, 2, 1000, maxLine - 1, maxLine, maxLine + 1,
	api.MaxTime / 2, api.MaxTime/2 + 1, api.MaxTime - 1, api.MaxTime, api.MaxTime + 1, math.MaxInt - api.MaxTime, math.MaxInt - 1, math.MaxInt,
}

// clamped is a number of any size, as CL2 clamps it.
func clamped(n *big.Int) *big.Int {
	most := big.NewInt(api.MaxTime)
	switch {
	case n.Sign() < 0:
		return big.NewInt(0)
	case n.Cmp(most) > 0:
		return most
	}
	return n
}

// checkPairs holds a call, of each two of the edges, against what comes of these, clamped, in numbers of any size.
func checkPairs(t *testing.T, name string, call func(a, b int) int, comes func(a, b *big.Int) *big.Int) {
	for _, a := range wide {
		for _, b := range wide {
			want := clamped(comes(clamped(big.NewInt(int64(a))), clamped(big.NewInt(int64(b)))))
			if got := call(a, b); int64(got) != want.Int64() {
				t.Errorf("%s(%d, %d) = %d, want %d", name, a, b, got, want)
			}
		}
	}
}

// CL1: Of.

func TestOfSomeLines(t *testing.T) {
	cases := []struct {
		baud, ticks, turn int
		want              api.Times
	}{
		{9600, 1000000, 0, line(1146, 2865, 5157, 0)},
		{9600, 1000000, 1, line(1146, 2865, 5157, 1)},
		{9600, 1000000, maxLine, line(1146, 2865, 5157, maxLine)},
		{19200, 1000000, 500, line(573, 1433, 2579, 500)},
		{19201, 1000000, 500, line(573, 1323, 2323, 500)},
		{38400, 1000000, 0, line(287, 1037, 2037, 0)},
		{115200, 1000000, 0, line(96, 846, 1846, 0)},
		{1000000, 1000000, 0, line(11, 761, 1761, 0)},
		{1000000, 1000000000, 7, line(11000, 761000, 1761000, 7)},
		{1000, 1000000, 0, line(11000, 27500, 49500, 0)}, // nothing to round
		{1, 2, 0, line(22, 55, 99, 0)},
		{1, 1, 0, line(11, 28, 50, 0)},
		{300, 1000, 3, line(37, 92, 166, 3)},
		{1, 3, 0, line(33, 83, 149, 0)}, // the silences alone are rounded
	}
	for _, c := range cases {
		if got, err := clock.Of(c.baud, c.ticks, c.turn); got != c.want || err != api.OK {
			t.Errorf("Of(%d, %d, %d) = %v, %v, want %v", c.baud, c.ticks, c.turn, got, err, c.want)
		}
	}
}

func TestOfEachSpeedRoundsUp(t *testing.T) {
	for _, ticks := range []int{1, 2, 571, 572, 1333, 1334, 9600, 19201, 32768, 999983, 1000000, 1000003, 999999999, 1000000000} {
		for baud := 1; baud <= 1000000; baud++ {
			want, wantErr := told(baud, ticks, 9), api.OK
			if !may(want) {
				want, wantErr = api.Times{}, api.ErrArg
			}
			if got, err := clock.Of(baud, ticks, 9); got != want || err != wantErr {
				t.Fatalf("Of(%d, %d, 9) = %v, %v, want %v, %v", baud, ticks, got, err, want, wantErr)
			}
		}
	}
}

func TestOfEachNumberOfTicks(t *testing.T) {
	for _, baud := range []int{1, 2, 7, 11, 38, 39, 300, 9600, 19199, 19200, 19201, 57600, 1000000} {
		for ticks := 1; ticks <= 200000; ticks++ {
			want, wantErr := told(baud, ticks, 0), api.OK
			if !may(want) {
				want, wantErr = api.Times{}, api.ErrArg
			}
			if got, err := clock.Of(baud, ticks, 0); got != want || err != wantErr {
				t.Fatalf("Of(%d, %d, 0) = %v, %v, want %v, %v", baud, ticks, got, err, want, wantErr)
			}
		}
	}
}

func TestOfTakesItsBoundsAndNoneBeyond(t *testing.T) {
	cases := []struct {
		baud, ticks, turn int
		err               api.Errno
	}{
		{1, 1000, 0, api.OK},
		{1000000, 1000, 0, api.OK},
		{0, 1000, 0, api.ErrArg},
		{-1, 1000, 0, api.ErrArg},
		{1000001, 1000, 0, api.ErrArg},
		{math.MinInt, 1000, 0, api.ErrArg},
		{math.MaxInt, 1000, 0, api.ErrArg},

		{1, 1, 0, api.OK},
		{9600, 1000000000, 0, api.OK},
		{9600, 0, 0, api.ErrArg},
		{9600, -1, 0, api.ErrArg},
		{9600, 1000000001, 0, api.ErrArg},
		{9600, math.MinInt, 0, api.ErrArg},
		{9600, math.MaxInt, 0, api.ErrArg},

		{9600, 1000000, maxLine, api.OK},
		{9600, 1000000, -1, api.ErrArg},
		{9600, 1000000, maxLine + 1, api.ErrArg},
		{9600, 1000000, math.MinInt, api.ErrArg},
		{9600, 1000000, math.MaxInt, api.ErrArg},

		{0, 0, -1, api.ErrArg},
		{math.MaxInt, math.MaxInt, math.MaxInt, api.ErrArg},
		{math.MinInt, math.MinInt, math.MinInt, api.ErrArg},
	}
	for _, c := range cases {
		got, err := clock.Of(c.baud, c.ticks, c.turn)
		if err != c.err {
			t.Errorf("Of(%d, %d, %d): %v, want %v", c.baud, c.ticks, c.turn, err, c.err)
		}
		if err != api.OK && got != (api.Times{}) {
			t.Errorf("Of(%d, %d, %d) = %v beside an error", c.baud, c.ticks, c.turn, got)
		}
	}
}

func TestOfRefusesTimesThatMayNotBe(t *testing.T) {
	cases := []struct {
		baud, ticks int
		want        api.Times
		err         api.Errno
	}{
		// So few ticks that both silences are as long.
		{38, 1, line(1, 2, 3, 0), api.OK},
		{39, 1, api.Times{}, api.ErrArg},
		{19200, 1, api.Times{}, api.ErrArg},
		{1000000, 1, api.Times{}, api.ErrArg},
		{19201, 571, api.Times{}, api.ErrArg},
		{19201, 572, line(1, 2, 3, 0), api.OK},
		{1000000, 571, api.Times{}, api.ErrArg},
		{1000000, 572, line(1, 2, 3, 0), api.OK},
		// So many that the long one is above what may be (none comes to just 16777216).
		{11, 3728270, line(3728270, 9320675, 16777215, 0), api.OK},
		{11, 3728271, api.Times{}, api.ErrArg},
		{14, 4745071, api.Times{}, api.ErrArg}, // it would be 16777217
		{1, 338933, line(3728263, 9320658, 16777184, 0), api.OK},
		{1, 338934, api.Times{}, api.ErrArg},
		{1, 1000000000, api.Times{}, api.ErrArg},
		{2950, 1000000000, api.Times{}, api.ErrArg},
		{2951, 1000000000, line(3727550, 9318875, 16773975, 0), api.OK},
	}
	for _, c := range cases {
		if got, err := clock.Of(c.baud, c.ticks, 0); got != c.want || err != c.err {
			t.Errorf("Of(%d, %d, 0) = %v, %v, want %v, %v", c.baud, c.ticks, got, err, c.want, c.err)
		}
	}
}

// CL2: Right.

func TestRightOfTimesThatMayBe(t *testing.T) {
	for _, c := range []api.Times{
		line(1, 1, 2, 0),
		line(1, 1, maxLine, maxLine),
		line(1146, 2865, 5157, 0),
		line(1146, 1146, 1147, 9),
		line(maxLine-1, maxLine-1, maxLine, maxLine),
		line(1, maxLine-1, maxLine, 1),
	} {
		if !clock.Right(c) {
			t.Errorf("Right(%v) = false", c)
		}
	}
}

func TestRightOfTimesThatMayNotBe(t *testing.T) {
	for _, c := range []api.Times{
		{},
		line(0, 1, 2, 0),
		line(-1, 1, 2, 0),
		line(2, 1, 3, 0),
		line(1, 0, 2, 0),
		line(1, 2, 2, 0),
		line(1, 2, 1, 0),
		line(1, 2, 3, -1),
		line(1, 2, 3, maxLine+1),
		line(1, 2, maxLine+1, 0),
		line(1, maxLine, maxLine, 0),
		line(1, maxLine, maxLine+1, 0),
		line(1, maxLine+1, maxLine+2, 0),
		line(maxLine, maxLine, maxLine, 0),
		line(maxLine+1, maxLine+1, maxLine+2, 0),
	} {
		if clock.Right(c) {
			t.Errorf("Right(%v) = true", c)
		}
	}
}

func TestRightAtAllEdges(t *testing.T) {
	edges := []int{math.MinInt, -1, 0, 1, 2, 3, maxLine - 1, maxLine, maxLine + 1, maxLine + 2, math.MaxInt}
	for _, char := range edges {
		for _, short := range edges {
			for _, long := range edges {
				for _, turn := range edges {
					c := line(char, short, long, turn)
					if got, want := clock.Right(c), may(c); got != want {
						t.Errorf("Right(%v) = %v, want %v", c, got, want)
					}
				}
			}
		}
	}
}

// CL2: Clamp.

func TestClamp(t *testing.T) {
	for at, want := range map[int]int{
		math.MinInt: 0, -api.MaxTime: 0, -1: 0, 0: 0, 1: 1, 5157: 5157, maxLine + 1: maxLine + 1,
		api.MaxTime - 1: 1099511627775, api.MaxTime: 1099511627776, api.MaxTime + 1: 1099511627776, math.MaxInt: 1099511627776,
	} {
		if got := clock.Clamp(at); got != want {
			t.Errorf("Clamp(%d) = %d, want %d", at, got, want)
		}
	}
}

// CL2: Add.

func TestAddSomeTimes(t *testing.T) {
	for _, c := range []struct{ at, d, want int }{
		{0, 0, 0},
		{3, 4, 7},
		{1146, 2865, 4011},
		{-5, 3, 3}, // not -2: each is clamped ahead
		{5, -3, 5},
		{-5, -3, 0},
		{api.MaxTime, 0, api.MaxTime},
		{api.MaxTime, 1, api.MaxTime},
		{api.MaxTime - 1, 1, api.MaxTime},
		{api.MaxTime - 2, 1, api.MaxTime - 1},
		{api.MaxTime, -1, api.MaxTime},
		{api.MaxTime + 10, -10, api.MaxTime},
		{math.MaxInt, math.MaxInt, api.MaxTime},
		{math.MinInt, math.MinInt, 0},
		{math.MaxInt, math.MinInt, api.MaxTime},
		{math.MinInt, math.MaxInt, api.MaxTime},
		{1, math.MaxInt, api.MaxTime},
	} {
		if got := clock.Add(c.at, c.d); got != c.want {
			t.Errorf("Add(%d, %d) = %d, want %d", c.at, c.d, got, c.want)
		}
	}
}

func TestAddAtAllEdges(t *testing.T) {
	checkPairs(t, "Add", clock.Add, func(at, d *big.Int) *big.Int { return new(big.Int).Add(at, d) })
}

// CL2: Since.

func TestSinceSomeTimes(t *testing.T) {
	for _, c := range []struct{ from, to, want int }{
		{0, 0, 0},
		{3, 10, 7},
		{10, 3, 0},
		{10, 10, 0},
		{-5, 3, 3}, // not 8: each is clamped ahead
		{-5, -3, 0},
		{3, -5, 0},
		{0, api.MaxTime, api.MaxTime},
		{1, api.MaxTime + 1, api.MaxTime - 1},
		{api.MaxTime, api.MaxTime + 1, 0},
		{api.MaxTime - 1, api.MaxTime, 1},
		{math.MinInt, math.MaxInt, api.MaxTime},
		{math.MaxInt, math.MinInt, 0},
		{math.MaxInt, math.MaxInt, 0},
		{math.MinInt, math.MinInt, 0},
	} {
		if got := clock.Since(c.from, c.to); got != c.want {
			t.Errorf("Since(%d, %d) = %d, want %d", c.from, c.to, got, c.want)
		}
	}
}

func TestSinceAtAllEdges(t *testing.T) {
	checkPairs(t, "Since", clock.Since, func(from, to *big.Int) *big.Int { return new(big.Int).Sub(to, from) })
}

// CL2: Span.

func TestSpanOfSomeBytes(t *testing.T) {
	fast, slow := line(1, 1, 2, 0), line(maxLine-1, maxLine-1, maxLine, 0)
	plain := line(1146, 2865, 5157, 0)
	for _, c := range []struct {
		t       api.Times
		n, want int
	}{
		{plain, 0, 0},
		{plain, 1, 1146},
		{plain, 2, 2292},
		{plain, 256, 293376},
		{plain, -1, 0},
		{plain, math.MinInt, 0},
		{plain, api.MaxTime / 1146, 1099511627580},
		{plain, api.MaxTime/1146 + 1, api.MaxTime},
		{plain, math.MaxInt, api.MaxTime},
		{fast, api.MaxTime - 1, api.MaxTime - 1},
		{fast, api.MaxTime, api.MaxTime},
		{fast, api.MaxTime + 1, api.MaxTime},
		{fast, math.MaxInt, api.MaxTime},
		{slow, 65536, 1099511562240},
		{slow, 65537, api.MaxTime},
		{slow, 1 << 40, api.MaxTime}, // their product would leave its type
		{slow, math.MaxInt, api.MaxTime},
		{line(1<<20, 1<<20, 1<<21, 0), 1 << 20, api.MaxTime}, // just all time
		{line(1<<20, 1<<20, 1<<21, 0), 1<<20 - 1, api.MaxTime - 1<<20},
		{line(1<<20, 1<<20, 1<<21, 0), 1 << 43, api.MaxTime},
		{line(1<<20, 1<<20, 1<<21, 0), 1 << 44, api.MaxTime}, // it would come to nothing, taken round
	} {
		if got := clock.Span(c.t, c.n); got != c.want {
			t.Errorf("Span(%v, %d) = %d, want %d", c.t, c.n, got, c.want)
		}
	}
}

func TestSpanOfTimesThatMayNotBe(t *testing.T) {
	for _, c := range []api.Times{
		{},
		line(0, 1, 2, 0),
		line(-1, 1, 2, 0),
		line(math.MinInt, 1, 2, 0),
		line(5, 4, 9, 0),
		line(5, 6, 6, 0),
		line(5, 6, 7, -1),
		line(5, 6, 7, maxLine+1),
		line(5, 6, maxLine+1, 0),
		line(math.MaxInt, math.MaxInt, math.MaxInt, 0),
	} {
		for _, n := range wide {
			if got := clock.Span(c, n); got != 0 {
				t.Errorf("Span(%v, %d) = %d, want 0", c, n, got)
			}
		}
	}
}

func TestSpanAtAllEdges(t *testing.T) {
	for _, char := range []int{1, 2, 3, 1146, 65535, 65536, 65537, 1 << 20, maxLine - 2, maxLine - 1} {
		times := line(char, char, maxLine, 0)
		near := api.MaxTime / char
		for _, n := range append([]int{near - 1, near, near + 1, near + 2, math.MaxInt / char, math.MaxInt/char + 1}, wide...) {
			product := new(big.Int).Mul(big.NewInt(int64(n)), big.NewInt(int64(char)))
			if got, want := int64(clock.Span(times, n)), clamped(product).Int64(); got != want {
				t.Errorf("Span(%v, %d) = %d, want %d", times, n, got, want)
			}
		}
	}
}

// CL3: what follows.

func TestTimesThatAreToldMayBe(t *testing.T) {
	some := 0
	for _, ticks := range []int{1, 2, 3, 100, 571, 572, 1000, 65536, 1000000, 3728270, 10000000, 1000000000} {
		for baud := 1; baud <= 1000000; baud += 1 + baud/500 {
			got, err := clock.Of(baud, ticks, baud%5)
			if err != api.OK {
				continue
			}
			some++
			if !may(got) || !clock.Right(got) {
				t.Fatalf("Of(%d, %d, %d) = %v, which may not be", baud, ticks, baud%5, got)
			}
		}
	}
	if some < 10000 {
		t.Errorf("only %d lines had times", some)
	}
}

func TestAFasterLineHasNoLongerTimes(t *testing.T) {
	for _, ticks := range []int{1000, 1001, 32768, 1000000, 16000000, 1000000000} {
		for _, speeds := range [][2]int{{1, 19200}, {19201, 1000000}} {
			last, some := line(maxLine, maxLine, maxLine, 4), 0
			for baud := speeds[0]; baud <= speeds[1]; baud++ {
				got, err := clock.Of(baud, ticks, 4)
				if err != api.OK {
					continue
				}
				some++
				if got.Char > last.Char || got.Short > last.Short || got.Long > last.Long || got.Turn > last.Turn {
					t.Fatalf("Of(%d, %d, 4) = %v is longer than %v", baud, ticks, got, last)
				}
				last = got
			}
			if some < 1000 {
				t.Errorf("of speeds %v, %d ticks a second, only %d had times", speeds, ticks, some)
			}
		}
	}
}
