package who_test

import (
	"bytes"
	"math"
	"math/rand/v2"
	"slices"
	"testing"

	"bilge/api"
	"bilge/file"
	"bilge/who"
)

// top is the greatest place.
const top = 65535

// most is how many bytes an ID has at most.
const most = 240

// far are numbers at the ends of int, and at those of other types.
var far = []int{
	math.MinInt, math.MinInt + 1, math.MinInt + 7, math.MinInt + 8, math.MinInt + 65536, -1 << 32, -1<<32 + 8, -1 << 31, -65544, -65537, -65536, -65535,
	65536, 65537, 65543, 65544, 131072, 1 << 31, 1 << 32, 1<<32 + 1, 1<<32 + 8, math.MaxInt - 65536,
	math.MaxInt - 8, math.MaxInt - 7, math.MaxInt - 6, math.MaxInt - 1, math.MaxInt,
}

// rightWindows may be.
var rightWindows = []api.Window{
	{}, {From: 7}, {From: 65535}, {From: 0, Count: 1}, {From: 0, Count: 7}, {From: 0, Count: 8}, {From: 0, Count: 9}, {From: 1, Count: 1}, {From: 7, Count: 1},
	{From: 8, Count: 8}, {From: 13, Count: 20}, {From: 300, Count: 100}, {From: 65535, Count: 1}, {From: 65528, Count: 8}, {From: 65529, Count: 7},
	{From: 65520, Count: 9}, {From: 32768, Count: 32768}, {From: 1, Count: 65535}, {From: 0, Count: 65535}, {From: 0, Count: 65536},
}

// wrongWindows may not be.
var wrongWindows = []api.Window{
	{From: -1}, {From: -1, Count: 3}, {From: -3, Count: 3}, {From: 0, Count: -1}, {From: 3, Count: -1}, {From: 65536}, {From: 65535, Count: 2},
	{From: 65534, Count: 3}, {From: 1, Count: 65536}, {From: 0, Count: 65537}, {From: math.MaxInt, Count: math.MaxInt},
	{From: math.MinInt, Count: 3}, {From: math.MaxInt, Count: 3}, {From: 1 << 32, Count: 3}, {From: 0, Count: math.MinInt}, {From: 0, Count: math.MaxInt},
}

// coil is what stands at a place in these tests; hardly two rows of eight are the same.
func coil(at int) bool { return (at*40503+at/7*30011)>>9&1 == 1 }

// cells are so many, each of them that one.
func cells[T any](n int, is T) []T {
	l := make([]T, n)
	for i := range l {
		l[i] = is
	}
	return l
}

// fileOf is a file with coils alone, each as it stands at its place.
func fileOf(w api.Window) api.File {
	f := api.File{Bank: api.Bank{Coils: w}}
	for k := range w.Count {
		f.Coils = append(f.Coils, coil(w.From+k))
	}
	return f
}

// full is a file all of whose cells are set.
func full(b api.Bank) api.File {
	return api.File{
		Bank:  b,
		Coils: cells(b.Coils.Count, true), Inputs: cells(b.Inputs.Count, true),
		Holding: cells(b.Holding.Count, uint16(65535)), Regs: cells(b.Regs.Count, uint16(65535)),
	}
}

// some is a bank whose windows have other places and other sizes each.
var some = api.Bank{
	Coils:   api.Window{From: 3, Count: 12},
	Inputs:  api.Window{From: 0, Count: 40},
	Holding: api.Window{From: 1, Count: 30},
	Regs:    api.Window{From: 2, Count: 20},
	Broken:  api.Window{From: 0, Count: 10},
}

// status is the document's words, of a file that may be.
func status(f api.File, at int) byte {
	var b byte
	if at > top || at < -7 {
		return 0
	}
	for k, one := range []byte{1, 2, 4, 8, 16, 32, 64, 128} {
		place := at + k
		if place >= f.Bank.Coils.From && place-f.Bank.Coils.From < f.Bank.Coils.Count && f.Coils[place-f.Bank.Coils.From] {
			b += one
		}
	}
	return b
}

// checkStatus holds what is told against the document's words.
func checkStatus(t *testing.T, f api.File, at int) {
	t.Helper()
	if got, want := who.Status(f, at), status(f, at); got != want {
		t.Errorf("Status of the coils %v from %d on: %d, not %d", f.Bank.Coils, at, got, want)
	}
}

// bytesOf is n bytes that tell an ID from others.
func bytesOf(n int) []byte {
	b := make([]byte, n)
	for i := range b {
		b[i] = byte(i*31 + n + 1)
	}
	return b
}

// reported is the document's words, of an ID that has at most 240 bytes.
func reported(id []byte, run bool) []byte {
	b := slices.Concat([]byte{byte(1 + len(id))}, id, []byte{0})
	if run {
		b[len(b)-1] = 255
	}
	return b
}

// checkReport holds what is reported, and read again, against the document's words.
func checkReport(t *testing.T, id []byte, run bool) {
	t.Helper()
	got, err := who.Report(id, run)
	if len(id) > most {
		if err != api.ErrLong || len(got) > 0 {
			t.Errorf("Report of %d bytes, %v: %v, %v", len(id), run, got, err)
		}
		return
	}
	if err != api.OK || !bytes.Equal(got, reported(id, run)) {
		t.Errorf("Report(%v, %v): %v, %v, not %v", id, run, got, err, reported(id, run))
	}
	again, runs, err := who.Read(got)
	if err != api.OK || !bytes.Equal(again, id) || runs != run {
		t.Errorf("Read what is reported of %v, %v: %v, %v, %v", id, run, again, runs, err)
	}
}

// isReport tells whether bytes are what is reported of something.
func isReport(b []byte) bool {
	n := len(b)
	return n >= 2 && n <= 242 && int(b[0]) == n-1 && (b[n-1] == 0 || b[n-1] == 255)
}

// checkRead holds what is read, and reported again, against the document's words.
func checkRead(t *testing.T, b []byte) {
	t.Helper()
	id, run, err := who.Read(b)
	if !isReport(b) {
		if err != api.ErrForm || len(id) > 0 || run {
			t.Errorf("Read(%v), which nothing reports: %v, %v, %v", b, id, run, err)
		}
		return
	}
	if err != api.OK || !bytes.Equal(id, b[1:len(b)-1]) || run != (b[len(b)-1] == 255) {
		t.Errorf("Read(%v): %v, %v, %v", b, id, run, err)
	}
	if again, err := who.Report(id, run); err != api.OK || !bytes.Equal(again, b) {
		t.Errorf("Report what is read of %v: %v, %v", b, again, err)
	}
}

func TestStatus(t *testing.T) {
	f := api.File{
		Bank:  api.Bank{Coils: api.Window{From: 10, Count: 10}},
		Coils: []bool{true, false, true, true, false, false, false, true, true, true},
	}
	for _, c := range []struct {
		at   int
		want byte
	}{
		{10, 1 + 4 + 8 + 128}, {11, 2 + 4 + 64 + 128}, {12, 1 + 2 + 32 + 64 + 128}, {13, 1 + 16 + 32 + 64}, {17, 7}, {18, 3}, {19, 1}, {20, 0}, {21, 0},
		{9, 2 + 8 + 16}, {5, 32 + 128}, {4, 64}, {3, 128}, {2, 0}, {0, 0}, {-1, 0}, {266, 0}, {65535, 0}, {65546, 0}, {-65526, 0},
	} {
		if got := who.Status(f, c.at); got != c.want {
			t.Errorf("Status from %d on: %d, not %d", c.at, got, c.want)
		}
		checkStatus(t, f, c.at)
	}
}

func TestStatusOfOneCoil(t *testing.T) { // the lowest bit is that of the place itself
	for _, place := range []int{0, 1, 6, 7, 8, 100, 255, 256, 32767, 32768, 65527, 65528, 65534, 65535} {
		f := full(api.Bank{Coils: api.Window{From: place, Count: 1}})
		for at := place - 300; at <= place+300; at++ {
			want := byte(0)
			if at <= place && place-at < 8 {
				want = 1 << (place - at)
			}
			if got := who.Status(f, at); got != want {
				t.Errorf("Status of a coil at %d from %d on: %d, not %d", place, at, got, want)
			}
		}
		f.Coils[0] = false
		for at := place - 9; at <= place+9; at++ {
			if got := who.Status(f, at); got != 0 {
				t.Errorf("Status of a coil at %d, that is false, from %d on: %d", place, at, got)
			}
		}
	}
}

func TestStatusOfEachByte(t *testing.T) {
	for _, from := range []int{0, 1, 7, 8, 1000, 65528} {
		for n := range 256 {
			f := full(api.Bank{Coils: api.Window{From: from, Count: 8}})
			for k := range f.Coils {
				f.Coils[k] = n>>k&1 == 1
			}
			if got := who.Status(f, from); int(got) != n {
				t.Errorf("Status of %v: %d, not %d", f.Coils, got, n)
			}
			for at := from - 8; at <= from+8; at++ {
				checkStatus(t, f, at)
			}
		}
	}
}

func TestStatusFromEachPlace(t *testing.T) {
	for _, w := range rightWindows {
		f := fileOf(w)
		for at := -20; at <= top+20; at++ {
			checkStatus(t, f, at)
		}
	}
}

func TestStatusAtTheEnds(t *testing.T) { // all places are coils, and none is behind the last one
	f := full(api.Bank{Coils: api.Window{Count: 65536}})
	for at, want := range map[int]byte{
		65528: 255, 65529: 127, 65530: 63, 65531: 31, 65532: 15, 65533: 7, 65534: 3, 65535: 1, 65536: 0, 65537: 0, 65543: 0, 65544: 0, 131072: 0,
		0: 255, -1: 254, -2: 252, -3: 248, -4: 240, -5: 224, -6: 192, -7: 128, -8: 0, -9: 0, -65536: 0, -65535: 0,
	} {
		if got := who.Status(f, at); got != want {
			t.Errorf("Status from %d on: %d, not %d", at, got, want)
		}
	}
}

func TestStatusFarAway(t *testing.T) {
	for _, w := range rightWindows {
		for _, f := range []api.File{fileOf(w), full(api.Bank{Coils: w})} {
			for _, at := range far {
				if got := who.Status(f, at); got != 0 {
					t.Errorf("Status of the coils %v from %d on: %d", w, at, got)
				}
			}
		}
	}
}

func TestStatusOfCoilsAlone(t *testing.T) { // no other table is asked, and what does not work are registers
	f := full(some)
	for at := -10; at <= 60; at++ {
		checkStatus(t, f, at)
	}
	f.Coils = make([]bool, len(f.Coils))
	for at := -10; at <= 60; at++ {
		if got := who.Status(f, at); got != 0 {
			t.Errorf("Status of coils that are false from %d on: %d", at, got)
		}
	}
	f = full(some)
	f.Inputs, f.Holding, f.Regs = make([]bool, len(f.Inputs)), make([]uint16, len(f.Holding)), make([]uint16, len(f.Regs))
	if got := who.Status(f, 3); got != 255 {
		t.Errorf("Status of coils that are true: %d", got)
	}
	for _, broken := range rightWindows {
		b := some
		b.Broken = broken
		if got := who.Status(full(b), 4); got != 255 {
			t.Errorf("Status where %v does not work: %d", broken, got)
		}
	}
}

// spoilt are files that may not be, each for one reason alone; all their cells are set.
func spoilt() []api.File {
	var l []api.File
	for _, w := range wrongWindows {
		for k := range 5 {
			f := full(some)
			b := &f.Bank
			*[]*api.Window{&b.Coils, &b.Inputs, &b.Holding, &b.Regs, &b.Broken}[k] = w
			if n := w.Count; n >= 0 && n <= 70000 {
				f = full(*b)
			}
			l = append(l, f)
		}
	}
	for _, by := range []int{-2, -1, 1, 2} {
		for k := range 4 {
			f := full(some)
			n := [4]int{len(f.Coils), len(f.Inputs), len(f.Holding), len(f.Regs)}
			n[k] += by
			f.Coils, f.Inputs = cells(n[0], true), cells(n[1], true)
			f.Holding, f.Regs = cells(n[2], uint16(1)), cells(n[3], uint16(1))
			l = append(l, f)
		}
	}
	for range 4 {
		l = append(l, full(some))
	}
	l[len(l)-4].Coils = nil
	l[len(l)-3].Inputs = nil
	l[len(l)-2].Holding = nil
	l[len(l)-1].Regs = nil
	return append(l, api.File{Coils: []bool{true}}, api.File{Inputs: []bool{true}}, api.File{Bank: api.Bank{Coils: api.Window{Count: 8}}})
}

func TestStatusOfNoFile(t *testing.T) {
	for _, f := range spoilt() {
		if file.Right(f) {
			t.Fatalf("%v is to be one that may not be", f.Bank)
		}
		for at := -10; at <= 30; at++ {
			if got := who.Status(f, at); got != 0 {
				t.Errorf("Status of %v, which may not be, from %d on: %d", f.Bank, at, got)
			}
		}
		for _, at := range append([]int{65527, 65528, 65534, 65535, f.Bank.Coils.From}, far...) {
			if got := who.Status(f, at); got != 0 {
				t.Errorf("Status of %v, which may not be, from %d on: %d", f.Bank, at, got)
			}
		}
	}
}

func TestStatusOfTheZeroFile(t *testing.T) {
	for at := -10; at <= 10; at++ {
		if got := who.Status(api.File{}, at); got != 0 {
			t.Errorf("Status of no cell from %d on: %d", at, got)
		}
	}
	if got := who.Status(api.File{Coils: []bool{}, Inputs: []bool{}, Holding: []uint16{}, Regs: []uint16{}}, 0); got != 0 {
		t.Errorf("Status of no cell: %d", got)
	}
}

func TestStatusOfWhatIsWritten(t *testing.T) {
	f, _ := file.New(some)
	if got := who.Status(f, 3); got != 0 {
		t.Errorf("Status of a new file: %d", got)
	}
	f, err := file.SetBits(f, 5, []bool{true, false, true})
	if got := who.Status(f, 3); err != api.OK || got != 4+16 {
		t.Errorf("Status where 5 and 7 are set: %d, %v", got, err)
	}
	f, err = file.SetBits(f, 5, []bool{false, true})
	if got := who.Status(f, 5); err != api.OK || got != 2+4 {
		t.Errorf("Status where 6 and 7 are set: %d, %v", got, err)
	}
}

func TestStatusMemory(t *testing.T) { // what lies behind a table counts for nothing, and nothing is changed
	behind := cells(40, true)
	f := full(some)
	f.Coils = behind[:len(f.Coils)]
	was := file.Copy(f)
	if got := who.Status(f, 10); got != 31 {
		t.Errorf("Status of the last five coils: %d", got)
	}
	f.Coils[0] = false
	was.Coils[0] = false
	if got := who.Status(f, 3); got != 254 {
		t.Errorf("Status of the first eight coils: %d", got)
	}
	if !file.Same(f, was) || slices.Contains(behind[1:], false) {
		t.Error("Status changed what was handed in")
	}
}

func TestReport(t *testing.T) {
	for _, c := range []struct {
		id   []byte
		run  bool
		want []byte
	}{
		{nil, false, []byte{1, 0}},
		{nil, true, []byte{1, 255}},
		{[]byte{}, true, []byte{1, 255}},
		{[]byte{9}, false, []byte{2, 9, 0}},
		{[]byte{0}, false, []byte{2, 0, 0}},
		{[]byte{255}, true, []byte{2, 255, 255}},
		{[]byte{255}, false, []byte{2, 255, 0}},
		{[]byte{7, 8}, true, []byte{3, 7, 8, 255}},
		{[]byte{8, 7}, false, []byte{3, 8, 7, 0}},
		{[]byte("bilge"), true, []byte{6, 98, 105, 108, 103, 101, 255}},
	} {
		if got, err := who.Report(c.id, c.run); err != api.OK || !bytes.Equal(got, c.want) {
			t.Errorf("Report(%v, %v): %v, %v, not %v", c.id, c.run, got, err, c.want)
		}
		checkReport(t, c.id, c.run)
		checkRead(t, c.want)
	}
}

func TestReportOfEachLength(t *testing.T) {
	lengths := []int{495, 496, 511, 512, 513, 767, 768, 4096, 65535, 65536, 65537, 65776, 1 << 20}
	for n := range 400 {
		lengths = append(lengths, n)
	}
	for _, n := range lengths {
		checkReport(t, bytesOf(n), true)
		checkReport(t, bytesOf(n), false)
	}
}

func TestReportAtTheLimit(t *testing.T) {
	for _, run := range []bool{false, true} {
		b, err := who.Report(bytesOf(240), run)
		if err != api.OK || len(b) != 242 || b[0] != 241 || !bytes.Equal(b[1:241], bytesOf(240)) || b[241] != reported(nil, run)[1] {
			t.Errorf("Report of 240 bytes, %v: %v, %v", run, b, err)
		}
		if b, err := who.Report(bytesOf(241), run); err != api.ErrLong || len(b) > 0 {
			t.Errorf("Report of 241 bytes, %v: %v, %v", run, b, err)
		}
	}
}

func TestReportOfEachByte(t *testing.T) {
	for a := range 256 {
		checkReport(t, []byte{byte(a)}, a%2 == 0)
		for b := range 256 {
			checkReport(t, []byte{byte(a), byte(b)}, true)
			checkReport(t, []byte{byte(a), byte(b)}, false)
		}
	}
}

func TestRead(t *testing.T) {
	for _, c := range []struct {
		b   []byte
		id  []byte
		run bool
	}{
		{[]byte{1, 0}, nil, false},
		{[]byte{1, 255}, nil, true},
		{[]byte{2, 0, 255}, []byte{0}, true},
		{[]byte{2, 255, 0}, []byte{255}, false},
		{[]byte{3, 7, 8, 255}, []byte{7, 8}, true},
		{[]byte{4, 0, 0, 0, 0}, []byte{0, 0, 0}, false},
	} {
		if id, run, err := who.Read(c.b); err != api.OK || !bytes.Equal(id, c.id) || run != c.run {
			t.Errorf("Read(%v): %v, %v, %v", c.b, id, run, err)
		}
		checkRead(t, c.b)
	}
}

func TestReadOfNoReport(t *testing.T) {
	for _, b := range [][]byte{
		nil, {}, {0}, {1}, {2}, {255}, {0, 0}, {0, 255}, {2, 0}, {2, 255}, {255, 0}, {1, 1}, {1, 254}, {1, 128}, {1, 127},
		{3, 7, 8, 1}, {3, 7, 8, 254}, {3, 7, 8}, {3, 7, 8, 255, 0}, {2, 7, 8, 255}, {4, 7, 8, 255}, {3, 7, 255}, {0, 7, 8, 255}, {7, 8, 255}, {1, 7, 8, 255},
	} {
		if id, run, err := who.Read(b); err != api.ErrForm || len(id) > 0 || run {
			t.Errorf("Read(%v): %v, %v, %v", b, id, run, err)
		}
		checkRead(t, b)
	}
}

func TestReadOfAllShort(t *testing.T) {
	checkRead(t, nil)
	for a := range 256 {
		checkRead(t, []byte{byte(a)})
		for b := range 256 {
			checkRead(t, []byte{byte(a), byte(b)})
			for _, c := range []byte{0, 1, 2, 3, 127, 128, 254, 255} {
				checkRead(t, []byte{byte(a), byte(b), c})
				checkRead(t, []byte{byte(a), 9, byte(b), c})
				checkRead(t, []byte{byte(a), c, 9, byte(b)})
			}
		}
	}
}

func TestReadOfEachLength(t *testing.T) { // with each first byte, and each last one
	for n := 1; n < 300; n++ {
		b := bytesOf(n)
		for first := range 256 {
			for _, last := range []byte{0, 255, 1, 254} {
				b[n-1] = last
				b[0] = byte(first)
				checkRead(t, b)
			}
		}
		for last := range 256 {
			b[n-1] = byte(last)
			b[0] = byte(n - 1)
			checkRead(t, b)
		}
	}
}

func TestReadOfTooMany(t *testing.T) { // the first byte is right but for whole turns of it
	for _, n := range []int{243, 244, 255, 256, 257, 258, 259, 300, 498, 499, 512, 513, 514, 65537, 65538, 1<<20 + 1} {
		for _, last := range []byte{0, 255} {
			b := bytesOf(n)
			b[0], b[n-1] = byte(n-1), last
			if id, run, err := who.Read(b); err != api.ErrForm || len(id) > 0 || run {
				t.Errorf("Read of %d bytes: %d, %v, %v", n, len(id), run, err)
			}
		}
	}
}

func TestReadOfEachChange(t *testing.T) {
	for _, n := range []int{0, 1, 2, 5, 100, 239, 240} {
		for _, run := range []bool{false, true} {
			b := reported(bytesOf(n), run)
			for i := range b {
				was := b[i]
				for is := range 256 {
					b[i] = byte(is)
					checkRead(t, b)
				}
				b[i] = was
				checkRead(t, b[:i])
				checkRead(t, slices.Insert(slices.Clone(b), i, 0))
				checkRead(t, slices.Insert(slices.Clone(b), i, 255))
				checkRead(t, slices.Delete(slices.Clone(b), i, i+1))
			}
			checkRead(t, append(slices.Clone(b), 0))
			checkRead(t, append(slices.Clone(b), 255))
		}
	}
}

func TestMemoryOfReport(t *testing.T) {
	for _, n := range []int{0, 1, 2, 7, 100, 239, 240} {
		whole := bytesOf(n + 8)
		kept := slices.Clone(whole)
		got, err := who.Report(whole[:n], true)
		want := slices.Clone(got)
		if err != api.OK || !bytes.Equal(whole, kept) {
			t.Errorf("Report of %d bytes changed what was handed in: %v, %v", n, whole, err)
		}
		clear(whole)
		if !bytes.Equal(got, want) {
			t.Errorf("what is reported of %d bytes hangs on what was handed in", n)
		}
		copy(whole, kept)
		other, _ := who.Report(whole[:n], true)
		for i := range got[:cap(got)] {
			got[:cap(got)][i] ^= 255
		}
		if !bytes.Equal(whole, kept) || !bytes.Equal(other, want) {
			t.Errorf("what is reported of %d bytes is not memory of its own", n)
		}
	}
}

func TestMemoryOfRead(t *testing.T) {
	for _, n := range []int{0, 1, 2, 7, 100, 239, 240} {
		whole := append(reported(bytesOf(n), true), 1, 2, 3, 4)
		kept := slices.Clone(whole)
		got, run, err := who.Read(whole[:n+2])
		if err != api.OK || !run || !bytes.Equal(whole, kept) {
			t.Errorf("Read of %d bytes changed what was handed in: %v, %v, %v", n+2, whole, run, err)
		}
		clear(whole)
		if !bytes.Equal(got, bytesOf(n)) {
			t.Errorf("what is read of %d bytes hangs on what was handed in", n+2)
		}
		copy(whole, kept)
		other, _, _ := who.Read(whole[:n+2])
		for i := range got[:cap(got)] {
			got[:cap(got)][i] ^= 255
		}
		if !bytes.Equal(whole, kept) || !bytes.Equal(other, bytesOf(n)) {
			t.Errorf("what is read of %d bytes is not memory of its own", n+2)
		}
	}
}

func TestReadDoesNotLookBehind(t *testing.T) {
	b := append(reported([]byte{5, 6, 7, 8}, true), 255, 0)
	for n := range b {
		id, run, err := who.Read(b[:n])
		short, runs, bad := who.Read(slices.Clone(b[:n:n]))
		if err != bad || run != runs || !bytes.Equal(id, short) || (err == api.OK) != (n == 6) {
			t.Errorf("Read of %d bytes: %v, %v, %v, not %v, %v, %v", n, id, run, err, short, runs, bad)
		}
	}
}

func TestLongRun(t *testing.T) {
	r := rand.New(rand.NewPCG(22, 1))
	for range 3000 {
		w := api.Window{From: r.IntN(65536)}
		w.Count = r.IntN(min(65536-w.From, 1+r.IntN(200)) + 1)
		f := full(api.Bank{Coils: w})
		for k := range f.Coils {
			f.Coils[k] = r.IntN(2) == 0
		}
		for range 30 {
			checkStatus(t, f, w.From-10+r.IntN(w.Count+20))
		}
		checkStatus(t, f, r.IntN(200000)-100000)
		checkStatus(t, f, int(r.Uint64()))
	}
	for range 30000 {
		id := make([]byte, r.IntN(250))
		for i := range id {
			id[i] = byte(r.IntN(256))
		}
		run := r.IntN(2) == 0
		checkReport(t, id, run)
		if len(id) > most {
			continue
		}
		b := reported(id, run)
		for range 3 {
			b[r.IntN(len(b))] = byte(r.IntN(256))
			checkRead(t, b)
		}
		checkRead(t, id)
	}
}
