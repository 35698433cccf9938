package object_test

import (
	"bytes"
	"math"
	"math/rand/v2"
	"slices"
	"testing"

	"bilge/api"
	"bilge/object"
)

// edges are IDs at, and one beside, each bound that is told, and far away.
var edges = []int{
	math.MinInt, -1 << 32, -256, -128, -1, 0, 1, 2, 3, 4, 5, 6, 7, 8, 64, 126, 127, 128, 129, 130, 200, 254, 255, 256, 257, 258,
	384, 65536, 1 << 32, 1<<32 + 1, 1<<32 + 128, math.MaxInt - 1, math.MaxInt,
}

// sorts are those that there are, and numbers that are none.
var sorts = []int{math.MinInt, -3, -1, 0, 1, 2, 3, 4, 5, 128, 255, 256, 257, 1<<32 + 1, math.MaxInt}

// text is bytes that tell an object from others: by its ID, and by its place in a list.
func text(id, at int) []byte { return []byte{byte(id), byte(at), byte(id >> 8)} }

// list is objects of these IDs, each with other bytes.
func list(ids ...int) []api.Object {
	var l []api.Object
	for at, id := range ids {
		l = append(l, api.Object{ID: id, Data: text(id, at)})
	}
	return l
}

// device is objects of these IDs behind those of 0, 1 and 2.
func device(ids ...int) []api.Object { return list(append([]int{0, 1, 2}, ids...)...) }

// one is the same object, as the tests hold one against another.
func one(a, b api.Object) bool { return a.ID == b.ID && string(a.Data) == string(b.Data) }

// alike tells whether both lists have the same, one by one.
func alike(a, b []api.Object) bool {
	if len(a) != len(b) {
		return false
	}
	for i := range a {
		if !one(a[i], b[i]) {
			return false
		}
	}
	return true
}

// known is whether an object of that ID may be.
func known(id int) bool {
	switch id {
	case 0, 1, 2, 3, 4, 5, 6:
		return true
	}
	return id>>7 == 1 // the 128 numbers from 128 on
}

// right is the document's words.
func right(l []api.Object) bool {
	there := map[int]bool{}
	for i, o := range l {
		if !known(o.ID) || len(o.Data) > 240 || i > 0 && o.ID <= l[i-1].ID {
			return false
		}
		there[o.ID] = true
	}
	return there[0] && there[1] && there[2]
}

// level is the document's words: 3, if some ID is 128 or more, and so on.
func level(l []api.Object) int {
	some := func(from int) bool {
		return slices.ContainsFunc(l, func(o api.Object) bool { return o.ID >= from })
	}
	switch {
	case !right(l):
		return 0
	case some(128):
		return 3
	case some(3):
		return 2
	}
	return 1
}

// isOf is whether an object of that ID is of a sort.
func isOf(sort, id int) bool {
	switch sort {
	case 1:
		return id == 0 || id == 1 || id == 2
	case 2:
		return known(id) && id < 128
	}
	return sort == 3
}

// of is those of a sort, in order.
func of(l []api.Object, sort int) []api.Object {
	return slices.DeleteFunc(slices.Clone(l), func(o api.Object) bool { return !isOf(sort, o.ID) })
}

// first is where the first one of an ID stands; -1 if there is none.
func first(l []api.Object, id int) int {
	for i, o := range l {
		if o.ID == id {
			return i
		}
	}
	return -1
}

// from is those of a sort from one on.
func from(l []api.Object, sort, id int) []api.Object {
	told := of(l, sort)
	if at := first(told, id); at > 0 {
		return told[at:]
	}
	return told
}

// checkWhole holds what is told of a list as a whole against the document's words.
func checkWhole(t *testing.T, l []api.Object) {
	t.Helper()
	if got := object.Right(l); got != right(l) {
		t.Errorf("Right(%v): %v", l, got)
	}
	if got := object.Level(l); got != level(l) {
		t.Errorf("Level(%v): %d, not %d", l, got, level(l))
	}
}

// checkFind holds the object that is found against the document's words.
func checkFind(t *testing.T, l []api.Object, id int) {
	t.Helper()
	want, there := api.Object{}, false
	if at := first(l, id); at >= 0 {
		want, there = l[at], true
	}
	got, ok := object.Find(l, id)
	if ok != there || !one(got, want) {
		t.Errorf("Find(%v, %d): %v, %v, not %v, %v", l, id, got, ok, want, there)
	}
	if !ok && got.Data != nil {
		t.Errorf("Find(%v, %d) of none has bytes: %v", l, id, got)
	}
}

// checkSort holds those of a sort against the document's words, from each of some IDs on.
func checkSort(t *testing.T, l []api.Object, sort int, ids ...int) {
	t.Helper()
	if got := object.Of(l, sort); !alike(got, of(l, sort)) {
		t.Errorf("Of(%v, %d): %v", l, sort, got)
	}
	for _, id := range ids {
		if got := object.From(l, sort, id); !alike(got, from(l, sort, id)) {
			t.Errorf("From(%v, %d, %d): %v", l, sort, id, got)
		}
	}
}

// everySome tells some of the numbers, in order: each set of them.
func everySome(numbers []int, tell func(some []int)) {
	for set := range 1 << len(numbers) {
		var some []int
		for i, n := range numbers {
			if set>>i&1 == 1 {
				some = append(some, n)
			}
		}
		tell(some)
	}
}

// everyRow tells each row of up to so many of the numbers, in any order, with those that stand more than once.
func everyRow(numbers []int, most int, tell func(row []int)) {
	var on func(row []int)
	on = func(row []int) {
		tell(row)
		if len(row) == most {
			return
		}
		for _, n := range numbers {
			on(append(slices.Clone(row), n))
		}
	}
	on(nil)
}

func TestRight(t *testing.T) {
	for _, c := range []struct {
		ids  []int
		want bool
	}{
		{nil, false}, {[]int{0}, false}, {[]int{0, 1}, false}, {[]int{0, 2}, false}, {[]int{1, 2}, false},
		{[]int{0, 1, 2}, true}, {[]int{0, 1, 2, 3}, true}, {[]int{0, 1, 2, 6}, true}, {[]int{0, 1, 2, 3, 4, 5, 6}, true},
		{[]int{0, 1, 2, 7}, false}, {[]int{0, 1, 2, 127}, false}, {[]int{0, 1, 2, 128}, true}, {[]int{0, 1, 2, 255}, true},
		{[]int{0, 1, 2, 256}, false}, {[]int{0, 1, 2, 128, 256}, false}, {[]int{-1, 0, 1, 2}, false}, {[]int{0, 1, 2, 5, 130}, true},
		{[]int{0, 1, 2, 3, 4, 5, 6, 128, 129, 255}, true}, {[]int{0, 1, 2, 7, 128}, false}, {[]int{0, 1, 2, 64, 128}, false},
		{[]int{0, 1, 3, 4}, false}, {[]int{3, 4, 5}, false}, {[]int{128, 129, 130}, false}, {[]int{0, 1, 3, 128}, false},
		{[]int{0, 2, 1}, false}, {[]int{1, 0, 2}, false}, {[]int{2, 1, 0}, false}, {[]int{0, 1, 2, 2}, false}, {[]int{0, 0, 1, 2}, false},
		{[]int{0, 1, 1, 2}, false}, {[]int{0, 1, 2, 4, 3}, false}, {[]int{0, 1, 2, 3, 3}, false}, {[]int{0, 1, 2, 130, 5}, false},
		{[]int{0, 1, 2, 130, 130}, false}, {[]int{0, 1, 2, 255, 128}, false}, {[]int{128, 0, 1, 2}, false}, {[]int{0, 0, 0}, false},
		{[]int{2, 2, 2}, false}, {[]int{0, 1, 1}, false}, {[]int{0, 1, 2, -1}, false}, {[]int{0, 1, 2, 1<<32 + 128}, false},
		{[]int{math.MinInt, 0, 1, 2}, false}, {[]int{0, 1, 2, math.MaxInt}, false},
	} {
		if got := object.Right(list(c.ids...)); got != c.want {
			t.Errorf("Right of the IDs %v: %v", c.ids, got)
		}
	}
	if object.Right([]api.Object{}) || object.Level([]api.Object{}) != 0 {
		t.Error("no object may be a device's")
	}
}

func TestRightOfAllIDs(t *testing.T) {
	var ids []int
	for id := range 256 {
		if known(id) {
			ids = append(ids, id)
		}
	}
	checkWhole(t, list(ids...))
	for i := range ids {
		checkWhole(t, list(slices.Delete(slices.Clone(ids), i, i+1)...))       // one is not there
		checkWhole(t, list(slices.Insert(slices.Clone(ids), i, ids[i])...))    // one is there twice
		checkWhole(t, list(slices.Insert(slices.Clone(ids), i, 127)...))       // one may not be
		checkWhole(t, list(append(slices.Clone(ids[i:]), ids[:i]...)...))      // the others come first
		checkWhole(t, list(append(slices.Clone(ids[:i]), ids[:i]...)...))      // some are there twice
		checkWhole(t, list(slices.Insert(slices.Clone(ids[:i]), i/2, 256)...)) // one is too great
	}
}

func TestRightOfEachID(t *testing.T) {
	for id := -300; id <= 600; id++ {
		checkWhole(t, device(id))
		checkWhole(t, list(id, 0, 1, 2))
		checkWhole(t, list(id))
	}
	for _, id := range edges {
		checkWhole(t, device(id))
		checkWhole(t, list(id, 0, 1, 2))
		for _, other := range edges {
			checkWhole(t, device(id, other))
			checkWhole(t, list(id, 0, 1, 2, other))
		}
	}
}

func TestRightOfEachLength(t *testing.T) {
	for n := range 600 {
		for at := range 5 {
			l := device(6, 128)
			l[at].Data = make([]byte, n)
			if got := object.Right(l); got != (n <= 240) {
				t.Errorf("Right, the place %d has %d bytes: %v", at, n, got)
			}
			if got := object.Level(l); got != 3 && n <= 240 || got != 0 && n > 240 {
				t.Errorf("Level, the place %d has %d bytes: %d", at, n, got)
			}
		}
	}
	for _, n := range []int{65535, 65536, 65537, 65536 + 240, 1 << 20} {
		if object.Right([]api.Object{{ID: 0}, {ID: 1}, {ID: 2, Data: make([]byte, n)}}) {
			t.Errorf("Right of %d bytes", n)
		}
	}
	all := []api.Object{{ID: 0, Data: make([]byte, 240)}, {ID: 1, Data: make([]byte, 240)}, {ID: 2, Data: make([]byte, 240)}}
	if !object.Right(all) {
		t.Error("each may have 240 bytes")
	}
	bare := []api.Object{{ID: 0}, {ID: 1, Data: []byte{}}, {ID: 2, Data: make([]byte, 240, 241)}}
	if !object.Right(bare) {
		t.Error("each may have no byte, and memory behind its bytes")
	}
}

func TestLevel(t *testing.T) {
	for _, c := range []struct {
		ids  []int
		want int
	}{
		{[]int{0, 1, 2}, 1}, {[]int{0, 1, 2, 3}, 2}, {[]int{0, 1, 2, 6}, 2}, {[]int{0, 1, 2, 3, 4, 5, 6}, 2},
		{[]int{0, 1, 2, 128}, 3}, {[]int{0, 1, 2, 255}, 3}, {[]int{0, 1, 2, 5, 130}, 3}, {[]int{0, 1, 2, 6, 128}, 3},
		{nil, 0}, {[]int{0, 1}, 0}, {[]int{0, 1, 2, 7}, 0}, {[]int{0, 1, 2, 127}, 0}, {[]int{0, 1, 2, 256}, 0},
		{[]int{0, 1, 2, 2}, 0}, {[]int{0, 1, 2, 130, 5}, 0}, {[]int{-1, 0, 1, 2}, 0}, {[]int{130}, 0}, {[]int{3, 4, 5}, 0},
	} {
		if got := object.Level(list(c.ids...)); got != c.want {
			t.Errorf("Level of the IDs %v: %d, not %d", c.ids, got, c.want)
		}
	}
}

func TestFind(t *testing.T) {
	l := list(0, 1, 2, 5, 130, 5, 7, -1, 256)
	for _, id := range edges {
		checkFind(t, l, id)
		checkFind(t, nil, id)
		checkFind(t, list(id), id)
		checkFind(t, list(id, id), id)
		checkFind(t, list(3, id, 4, id), id)
	}
	if o, ok := object.Find(l, 5); !ok || !bytes.Equal(o.Data, text(5, 3)) {
		t.Errorf("the first one of two: %v, %v", o, ok)
	}
	if o, ok := object.Find([]api.Object{{ID: 4}}, 4); !ok || o.ID != 4 || len(o.Data) != 0 {
		t.Errorf("one without bytes: %v, %v", o, ok)
	}
	if o, ok := object.Find([]api.Object{{ID: 4, Data: make([]byte, 1000)}}, 4); !ok || len(o.Data) != 1000 {
		t.Errorf("one of too many bytes: %d, %v", len(o.Data), ok)
	}
}

func TestSize(t *testing.T) {
	for _, n := range []int{0, 1, 2, 3, 127, 128, 239, 240, 241, 253, 254, 255, 256, 257, 65535, 65536, 1 << 20} {
		for _, id := range edges {
			if got := object.Size(api.Object{ID: id, Data: make([]byte, n)}); got != n+2 {
				t.Errorf("Size of %d bytes: %d", n, got)
			}
		}
	}
	if object.Size(api.Object{}) != 2 || object.Size(api.Object{Data: make([]byte, 3, 9)}) != 5 {
		t.Error("Size of none, or with memory behind")
	}
}

func TestOf(t *testing.T) {
	var ids []int
	for id := -300; id <= 600; id++ {
		ids = append(ids, id)
	}
	for _, l := range [][]api.Object{nil, {}, list(ids...), list(edges...), device(), device(5, 130), list(2, 1, 0), list(130, 5, 5, 0, 0, -1)} {
		for _, sort := range sorts {
			checkSort(t, l, sort)
		}
	}
	for _, sort := range sorts {
		if got := len(object.Of(list(ids...), sort)); got != map[int]int{1: 3, 2: 7, 3: 901}[sort] {
			t.Errorf("Of the sort %d: %d", sort, got)
		}
	}
	for sort := -1000; sort <= 1000; sort++ {
		checkSort(t, device(5, 130), sort, 0, 2, 5, 130)
	}
}

func TestFrom(t *testing.T) {
	for _, l := range [][]api.Object{
		nil, {}, list(edges...), device(), device(3), device(5, 130), device(3, 4, 5, 6, 128, 255), list(6, 5, 4, 3, 2, 1, 0),
		list(0, 1, 0, 1, 2, 2), list(130, 5, 5, 0, 0, -1), list(-1, 7, 127, 256),
	} {
		for _, sort := range sorts {
			checkSort(t, l, sort, edges...)
		}
	}
	for id := -300; id <= 600; id++ {
		checkSort(t, device(3, 6, 128, 255), 1, id)
		checkSort(t, device(3, 6, 128, 255), 2, id)
		checkSort(t, device(3, 6, 128, 255), 3, id)
	}
}

func TestFromOfAnotherSort(t *testing.T) { // an ID of the list that is none of the sort's: all of the sort
	l := device(5, 130)
	for _, c := range []struct {
		sort, id int
		want     []api.Object
	}{
		{1, 0, l[:3]}, {1, 1, l[1:3]}, {1, 2, l[2:3]}, {1, 5, l[:3]}, {1, 130, l[:3]}, {1, 3, l[:3]}, {1, -1, l[:3]},
		{2, 0, l[:4]}, {2, 2, l[2:4]}, {2, 5, l[3:4]}, {2, 130, l[:4]}, {2, 6, l[:4]}, {2, 4, l[:4]},
		{3, 0, l}, {3, 2, l[2:]}, {3, 5, l[3:]}, {3, 130, l[4:]}, {3, 255, l}, {3, 131, l}, {3, 129, l},
		{0, 0, nil}, {0, 2, nil}, {4, 130, nil}, {4, 0, nil}, {-1, 5, nil},
	} {
		if got := object.From(l, c.sort, c.id); !alike(got, c.want) {
			t.Errorf("From the sort %d, the ID %d: %v, not %v", c.sort, c.id, got, c.want)
		}
	}
}

func TestExample(t *testing.T) {
	l := device(5, 130)
	if !object.Right(l) || object.Level(l) != 3 {
		t.Error("the level is 3")
	}
	if got := object.Of(l, 2); !alike(got, l[:4]) {
		t.Errorf("of the sort 2: %v", got)
	}
	if got := object.From(l, 2, 2); !alike(got, l[2:4]) {
		t.Errorf("from 2 on: %v", got)
	}
}

func TestSame(t *testing.T) {
	for _, c := range []struct {
		a, b []api.Object
		want bool
	}{
		{nil, nil, true}, {nil, []api.Object{}, true}, {nil, []api.Object{{}}, false}, {[]api.Object{{}}, []api.Object{{}}, true},
		{device(5), device(5), true}, {device(5), device(5)[:3], false}, {device(5), device(6), false}, {device(5), device(5, 6), false},
		{list(0, 1), list(1, 0), false}, {list(-1, 500, 500), list(-1, 500, 500), true}, {list(0), list(256), false}, {list(0), list(1 << 32), false},
		{[]api.Object{{ID: 1}}, []api.Object{{ID: 1, Data: []byte{}}}, true}, {[]api.Object{{ID: 1}}, []api.Object{{ID: 1, Data: []byte{0}}}, false},
		{[]api.Object{{ID: 1, Data: []byte{1, 2}}}, []api.Object{{ID: 1, Data: []byte{1, 2}}}, true},
		{[]api.Object{{ID: 1, Data: []byte{1, 2}}}, []api.Object{{ID: 1, Data: []byte{2, 1}}}, false},
		{[]api.Object{{ID: 1, Data: []byte{1, 2}}}, []api.Object{{ID: 1, Data: []byte{1, 2, 0}}}, false},
		{[]api.Object{{ID: 1, Data: []byte{1}}, {ID: 1}}, []api.Object{{ID: 1}, {ID: 1, Data: []byte{1}}}, false},
	} {
		if object.Same(c.a, c.b) != c.want || object.Same(c.b, c.a) != c.want {
			t.Errorf("Same(%v, %v): not %v", c.a, c.b, c.want)
		}
	}
}

func TestSameOfEachChange(t *testing.T) {
	for at := range 5 {
		a, b := device(5, 130), device(5, 130)
		b[at].ID += 256
		if object.Same(a, b) {
			t.Errorf("another ID at %d", at)
		}
		for i := range a[at].Data {
			b := device(5, 130)
			b[at].Data[i] ^= 128
			if object.Same(a, b) {
				t.Errorf("another byte at %d of %d", i, at)
			}
		}
		b = device(5, 130)
		b[at].Data = b[at].Data[:2]
		if object.Same(a, b) || object.Same(b, a) {
			t.Errorf("fewer bytes at %d", at)
		}
		if object.Same(a, slices.Delete(device(5, 130), at, at+1)) {
			t.Errorf("one is gone at %d", at)
		}
	}
}

func TestWhatFollows(t *testing.T) {
	everySome([]int{0, 1, 2, 3, 4, 6, 7, 127, 128, 129, 255, 256}, func(some []int) {
		l := list(some...)
		for sort := 2; sort <= 3; sort++ {
			ahead := object.Of(l, sort-1)
			if !alike(object.Of(object.Of(l, sort), sort-1), ahead) || !alike(object.Of(ahead, sort), ahead) {
				t.Errorf("%v: the sort %d has not those of the one ahead", some, sort)
			}
		}
		if !object.Right(l) {
			return
		}
		least := 1
		for !object.Same(object.Of(l, least), l) {
			least++
		}
		if got := object.Level(l); got != least {
			t.Errorf("Level of %v: %d, but %d is the least sort that has all", some, got, least)
		}
	})
}

func TestEachSet(t *testing.T) {
	everySome([]int{-1, 0, 1, 2, 3, 6, 7, 127, 128, 255, 256}, func(some []int) {
		l := list(some...)
		checkWhole(t, l)
		for sort := 0; sort <= 4; sort++ {
			checkSort(t, l, sort, -1, 0, 1, 2, 3, 6, 7, 127, 128, 255, 256)
		}
		for id := -2; id <= 8; id++ {
			checkFind(t, l, id)
		}
	})
}

func TestEachRow(t *testing.T) {
	everyRow([]int{0, 1, 2, 3, 7, 128}, 5, func(row []int) {
		l := list(row...)
		checkWhole(t, l)
		for sort := 1; sort <= 3; sort++ {
			checkSort(t, l, sort, 0, 2, 3, 7, 128)
		}
		checkFind(t, l, 1)
		checkFind(t, l, 128)
	})
}

// guarded is a list with memory behind it and behind each object's bytes, and whether all of it is as it was.
func guarded(ids ...int) ([]api.Object, func() bool) {
	l := list(append(slices.Clone(ids), 4, 5)...)
	for i, o := range l {
		l[i].Data = append(slices.Clone(o.Data), 77, 78)[: len(o.Data) : len(o.Data)+2]
	}
	was := list(append(slices.Clone(ids), 4, 5)...)
	whole := l
	return l[:len(ids)], func() bool {
		for _, o := range whole {
			if b := o.Data[:cap(o.Data)]; b[len(b)-2] != 77 || b[len(b)-1] != 78 {
				return false
			}
		}
		return alike(whole, was)
	}
}

// spoil lets all bytes of objects be others, and those behind them as far as their memory goes.
func spoil(l []api.Object) {
	for i, o := range l[:cap(l)] {
		for k := range o.Data[:cap(o.Data)] {
			o.Data[:cap(o.Data)][k] ^= 255
		}
		l[:cap(l)][i].ID ^= 1
	}
}

// answers are all calls' answers that are objects.
func answers(l []api.Object) [][]api.Object {
	var all [][]api.Object
	for sort := 0; sort <= 4; sort++ {
		all = append(all, object.Of(l, sort))
		for _, id := range []int{-1, 0, 1, 2, 3, 4, 130} {
			all = append(all, object.From(l, sort, id))
		}
	}
	for _, id := range []int{0, 1, 2, 4, 5, 130} {
		if o, ok := object.Find(l, id); ok {
			all = append(all, []api.Object{o})
		}
	}
	return all
}

func TestAnswersAreNewMemory(t *testing.T) {
	l, asItWas := guarded(0, 1, 2, 3, 130)
	object.Right(l)
	object.Level(l)
	object.Same(l, l)
	object.Size(l[0])
	all := answers(l)
	if !asItWas() {
		t.Fatal("what was handed in is another")
	}
	again := answers(l)
	for i, told := range all {
		spoil(told)
		if !asItWas() {
			t.Fatalf("the answer %d shares memory with what was handed in", i)
		}
		for k := i + 1; k < len(all); k++ {
			if !alike(all[k], again[k]) {
				t.Fatalf("the answers %d and %d share memory", i, k)
			}
		}
	}
}

func TestAnswersLastWhenTheListChanges(t *testing.T) {
	l := device(3, 130)
	all, want := answers(l), answers(device(3, 130))
	spoil(l)
	for i := range all {
		if !alike(all[i], want[i]) {
			t.Errorf("the answer %d hangs on what was handed in", i)
		}
	}
}

func TestObjectsOfAnAnswerShareNothing(t *testing.T) { // even where those handed in do
	shared := []byte{1, 2, 3}
	l := []api.Object{{ID: 0, Data: shared}, {ID: 1, Data: shared[:2]}, {ID: 2, Data: shared}}
	for _, told := range [][]api.Object{object.Of(l, 1), object.From(l, 3, 0), object.From(l, 2, 1)} {
		want := string(told[1].Data)
		told[0].Data[1] = 9
		_ = append(told[0].Data[:2], 8)
		if string(told[1].Data) != want || shared[1] != 2 || shared[2] != 3 {
			t.Errorf("shared: %v", told)
		}
	}
}

func TestNothingBehindLengthIsTold(t *testing.T) {
	l, _ := guarded(0, 1, 2, 3, 130)
	if object.Level(l[:3]) != 1 || len(object.Of(l, 3)) != 5 {
		t.Error("what lies behind the list is read")
	}
	if _, ok := object.Find(l, 5); ok {
		t.Error("an object behind the list is found")
	}
	for i, told := range answers(l) {
		for _, o := range told[len(told):cap(told)] {
			if o.ID != 0 || o.Data != nil {
				t.Errorf("the answer %d hands out an object behind: %v", i, o)
			}
		}
		for _, o := range told {
			for _, b := range o.Data[len(o.Data):cap(o.Data)] {
				if b != 0 {
					t.Errorf("the answer %d hands out bytes behind: %v", i, o)
				}
			}
		}
	}
}

// byChance is objects of IDs that are often a device's, with up to so many bytes.
func byChance(r *rand.Rand, most int) []api.Object {
	var l []api.Object
	for id := range 256 {
		odds := 40
		switch {
		case id < 3:
			odds = 1
		case id < 7:
			odds = 2
		case id < 128:
			odds = 2000
		}
		if r.IntN(odds) == 0 && r.IntN(30) != 0 {
			l = append(l, api.Object{ID: id, Data: make([]byte, r.IntN(most+1))})
		}
	}
	if len(l) > 1 && r.IntN(4) == 0 {
		a, b := r.IntN(len(l)), r.IntN(len(l))
		l[a].ID = l[b].ID
	}
	for _, o := range l {
		for i := range o.Data {
			o.Data[i] = byte(r.Uint32())
		}
	}
	return l
}

func TestByChance(t *testing.T) {
	r := rand.New(rand.NewPCG(20, 1))
	rights := 0
	for range 20000 {
		l := byChance(r, 1+r.IntN(241))
		if right(l) {
			rights++
		}
		checkWhole(t, l)
		checkSort(t, l, r.IntN(5), r.IntN(8), 128+r.IntN(128), r.IntN(256), 0)
		checkFind(t, l, r.IntN(256))
		checkFind(t, l, r.IntN(8))
		other := slices.Clone(l)
		if len(l) > 0 && r.IntN(2) == 0 {
			other[r.IntN(len(l))].Data = []byte{byte(r.Uint32())}
		}
		if object.Same(l, other) != alike(l, other) {
			t.Errorf("Same(%v, %v)", l, other)
		}
		if t.Failed() {
			return
		}
	}
	if rights < 2000 || rights > 18000 {
		t.Errorf("%d of the lists may be: the runs tell little", rights)
	}
}
