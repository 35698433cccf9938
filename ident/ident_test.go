package ident_test

import (
	"bytes"
	"math"
	"math/rand/v2"
	"slices"
	"testing"

	"bilge/api"
	"bilge/ident"
)

// edges are numbers at, and one beside, each bound that is told, and far away.
var edges = []int{
	math.MinInt, -1 << 32, -256, -255, -252, -128, -1, 0, 1, 2, 3, 4, 5, 6, 7, 14, 126, 127, 128, 129, 130, 131, 132, 200, 239, 240, 241,
	254, 255, 256, 257, 258, 259, 260, 384, 512, 65536, 65537, 1 << 32, 1<<32 + 1, 1<<32 + 14, math.MaxInt - 1, math.MaxInt,
}

// text is n bytes that tell an object from others.
func text(id, n int) []byte {
	b := make([]byte, n)
	for i := range b {
		b[i] = byte(id*7 + i + 1)
	}
	return b
}

// thing is an object of that ID, with so many bytes.
func thing(id, n int) api.Object { return api.Object{ID: id, Data: text(id, n)} }

// list is objects of these IDs, each with so many bytes.
func list(n int, ids ...int) []api.Object {
	var l []api.Object
	for _, id := range ids {
		l = append(l, thing(id, n))
	}
	return l
}

// device is objects of these IDs behind those of 0, 1 and 2.
func device(n int, ids ...int) []api.Object { return list(n, append([]int{0, 1, 2}, ids...)...) }

// whole is a device's objects of all IDs that may be.
func whole(n int) []api.Object {
	var l []api.Object
	for id := range 256 {
		if known(id) {
			l = append(l, thing(id, n))
		}
	}
	return l
}

// one is the same object, as the tests hold one against another.
func one(a, b api.Object) bool { return a.ID == b.ID && string(a.Data) == string(b.Data) }

// alike tells whether both lists have the same, one by one.
func alike(a, b []api.Object) bool { return slices.EqualFunc(a, b, one) }

// same tells whether two parts are the same.
func same(a, b ident.Part) bool {
	return a.Code == b.Code && a.Level == b.Level && a.More == b.More && a.Next == b.Next && alike(a.Objects, b.Objects)
}

// copied is the same objects in memory of their own.
func copied(l []api.Object) []api.Object {
	l = slices.Clone(l)
	for i := range l {
		l[i].Data = slices.Clone(l[i].Data)
	}
	return l
}

// known is whether a device may have an object of that ID.
func known(id int) bool { return id >= 0 && id <= 6 || id >= 128 && id <= 255 }

// right is the words of chapter 20.
func right(l []api.Object) bool {
	there := map[int]bool{}
	for i, o := range l {
		if !known(o.ID) || len(o.Data) > 240 || i > 0 && o.ID <= l[i-1].ID {
			return false
		}
		there[o.ID] = true
	}
	return there[0] && there[1] && there[2]
}

// level is that of a device's objects: the IDs rise, the last one is the greatest.
func level(l []api.Object) int {
	switch last := l[len(l)-1].ID; {
	case last >= 128:
		return 3
	case last >= 3:
		return 2
	}
	return 1
}

// ofSort is those of a sort from 1 to 3.
func ofSort(l []api.Object, sort int) []api.Object {
	top := map[int]int{1: 2, 2: 6, 3: 255}[sort]
	var of []api.Object
	for _, o := range l {
		if o.ID <= top {
			of = append(of, o)
		}
	}
	return of
}

// from is those of a sort from an ID on; all of the sort, if none has it.
func from(l []api.Object, sort, id int) []api.Object {
	of := ofSort(l, sort)
	for i, o := range of {
		if o.ID == id {
			return of[i:]
		}
	}
	return of
}

// length is how many bytes objects take, with what stands ahead of them.
func length(l []api.Object) int {
	n := 6
	for _, o := range l {
		n += 2 + len(o.Data)
	}
	return n
}

// mayBe is the document's words.
func mayBe(p ident.Part) bool {
	if p.Code < 1 || p.Code > 4 || p.Level < 1 || p.Level > 3 || len(p.Objects) > 255 || length(p.Objects) > 252 {
		return false
	}
	if p.More && (p.Next < 0 || p.Next > 255) || !p.More && p.Next != 0 {
		return false
	}
	return !slices.ContainsFunc(p.Objects, func(o api.Object) bool { return o.ID < 0 || o.ID > 255 || len(o.Data) > 240 })
}

// say is how a part is said, that may be.
func say(p ident.Part) []byte {
	b := []byte{14, byte(p.Code), byte(128 + p.Level), 0, byte(p.Next), byte(len(p.Objects))}
	if p.More {
		b[3] = 255
	}
	for _, o := range p.Objects {
		b = append(append(b, byte(o.ID), byte(len(o.Data))), o.Data...)
	}
	return b
}

// hear is the part that is said so; none, if there is none.
func hear(b []byte) (ident.Part, bool) {
	if len(b) < 6 || len(b) > 252 || b[0] != 14 || b[1] < 1 || b[1] > 4 || b[2] < 129 || b[2] > 131 {
		return ident.Part{}, false
	}
	if b[3] != 0 && b[3] != 255 || b[3] == 0 && b[4] != 0 {
		return ident.Part{}, false
	}
	p := ident.Part{Code: int(b[1]), Level: int(b[2] & 127), More: b[3] != 0, Next: int(b[4])}
	rest := b[6:]
	for range b[5] {
		if len(rest) < 2 || rest[1] > 240 || len(rest) < 2+int(rest[1]) {
			return ident.Part{}, false
		}
		p.Objects = append(p.Objects, api.Object{ID: int(rest[0]), Data: rest[2 : 2+int(rest[1])]})
		rest = rest[2+int(rest[1]):]
	}
	if len(rest) > 0 {
		return ident.Part{}, false
	}
	return p, true
}

// answer is the document's words: the part that is answered.
func answer(l []api.Object, data []byte) (ident.Part, api.Errno) {
	switch {
	case !right(l):
		return ident.Part{}, api.ErrArg
	case len(data) == 0 || data[0] != 14:
		return ident.Part{}, api.BadFunction
	case len(data) != 3 || data[1] == 0 || data[1] > 4:
		return ident.Part{}, api.BadValue
	}
	p := ident.Part{Code: int(data[1]), Level: level(l)}
	if p.Code == 4 {
		for _, o := range l {
			if o.ID == int(data[2]) {
				p.Objects = []api.Object{o}
				return p, api.OK
			}
		}
		return ident.Part{}, api.BadAddress
	}
	for _, o := range from(l, p.Code, int(data[2])) {
		if p.More {
			break
		}
		if length(append(slices.Clone(p.Objects), o)) > 252 {
			p.More, p.Next = true, o.ID
			continue
		}
		p.Objects = append(p.Objects, o)
	}
	return p, api.OK
}

// checkWrite holds what is written, and read again, against the document's words.
func checkWrite(t *testing.T, p ident.Part) {
	t.Helper()
	got, err := ident.Write(p)
	if !mayBe(p) {
		if err != api.ErrArg || len(got) > 0 {
			t.Errorf("Write(%v) may not be: %v, %v", p, got, err)
		}
		return
	}
	if err != api.OK || !bytes.Equal(got, say(p)) {
		t.Errorf("Write(%v): %v, %v, not %v", p, got, err, say(p))
	}
	if again, err := ident.Read(got); err != api.OK || !same(again, p) {
		t.Errorf("Read what is written of %v: %v, %v", p, again, err)
	}
}

// checkRead holds what is read, and written again, against the document's words.
func checkRead(t *testing.T, b []byte) {
	t.Helper()
	want, ok := hear(b)
	got, err := ident.Read(b)
	if !ok {
		if err != api.ErrForm || !same(got, ident.Part{}) {
			t.Errorf("Read(%v), which says no part: %v, %v", b, got, err)
		}
		return
	}
	if err != api.OK || !same(got, want) {
		t.Errorf("Read(%v): %v, %v, not %v", b, got, err, want)
	}
	if again, err := ident.Write(got); err != api.OK || !bytes.Equal(again, b) {
		t.Errorf("Write what is read of %v: %v, %v", b, again, err)
	}
}

// checkAnswer holds what is answered against the document's words.
func checkAnswer(t *testing.T, l []api.Object, data ...byte) {
	t.Helper()
	want, code := answer(l, data)
	got, err := ident.Answer(l, data)
	if err != code {
		t.Errorf("Answer(%v, %v): %v, not %v", l, data, err, code)
		return
	}
	if code != api.OK {
		if len(got) > 0 {
			t.Errorf("Answer(%v, %v) with %v: %v", l, data, err, got)
		}
		return
	}
	if !bytes.Equal(got, say(want)) {
		t.Errorf("Answer(%v, %v): %v, not %v", l, data, got, say(want))
	}
	if p, err := ident.Read(got); err != api.OK || !same(p, want) {
		t.Errorf("what is answered of %v, %v is read: %v, %v", l, data, p, err)
	}
}

// checkAll holds all objects of a sort, and how many answers they took, against the document's words.
func checkAll(t *testing.T, l []api.Object, sort int) {
	t.Helper()
	got, n := ident.All(l, sort)
	if sort < 1 || sort > 3 || !right(l) {
		if len(got) > 0 || n != 0 {
			t.Errorf("All(%v, %d): %v, %d", l, sort, got, n)
		}
		return
	}
	of, answers := ofSort(l, sort), 1
	room := 246
	for _, o := range of {
		if 2+len(o.Data) > room {
			answers, room = answers+1, 246
		}
		room -= 2 + len(o.Data)
	}
	if !alike(got, of) || n != answers {
		t.Errorf("All(%v, %d): %v, %d, not %v, %d", l, sort, got, n, of, answers)
	}
}

// parts are some that may be.
func parts() []ident.Part {
	return []ident.Part{
		{Code: 1, Level: 1},
		{Code: 4, Level: 3, Objects: list(0, 0)},
		{Code: 1, Level: 1, Objects: list(0, 0, 1, 2)},
		{Code: 2, Level: 2, Objects: list(3, 0, 1, 2, 5)},
		{Code: 3, Level: 3, More: true, Next: 130, Objects: list(1, 128, 129)},
		{Code: 3, Level: 3, More: true, Next: 255, Objects: list(80, 7, 7, 6)},
		{Code: 3, Level: 1, More: true, Objects: list(2, 255, 0, 100)},
		{Code: 4, Level: 2, Objects: list(240, 3)},
		{Code: 2, Level: 3, More: true, Next: 1, Objects: []api.Object{thing(0, 240), thing(1, 2)}},
		{Code: 3, Level: 3, Objects: append(list(0, make([]int, 122)...), thing(9, 0))},
	}
}

func TestWrite(t *testing.T) {
	for _, c := range []struct {
		p    ident.Part
		want []byte
	}{
		{ident.Part{Code: 1, Level: 1}, []byte{14, 1, 129, 0, 0, 0}},
		{ident.Part{Code: 4, Level: 3, Objects: []api.Object{{ID: 9}}}, []byte{14, 4, 131, 0, 0, 1, 9, 0}},
		{ident.Part{Code: 3, Level: 2, More: true, Next: 6}, []byte{14, 3, 130, 255, 6, 0}},
		{ident.Part{Code: 3, Level: 2, More: true}, []byte{14, 3, 130, 255, 0, 0}},
		{ident.Part{Code: 2, Level: 3, More: true, Next: 255}, []byte{14, 2, 131, 255, 255, 0}},
		{
			ident.Part{Code: 2, Level: 1, Objects: []api.Object{{ID: 255, Data: []byte{7, 8}}, {ID: 0, Data: []byte{}}, {ID: 255, Data: []byte{0}}}},
			[]byte{14, 2, 129, 0, 0, 3, 255, 2, 7, 8, 0, 0, 255, 1, 0},
		},
	} {
		if got, err := ident.Write(c.p); err != api.OK || !bytes.Equal(got, c.want) {
			t.Errorf("Write(%v): %v, %v, not %v", c.p, got, err, c.want)
		}
		checkRead(t, c.want)
	}
	for _, p := range parts() {
		if !mayBe(p) {
			t.Errorf("%v is to be one that may be", p)
		}
		checkWrite(t, p)
	}
}

func TestWriteOfEachNumber(t *testing.T) {
	numbers := slices.Clone(edges)
	for n := -300; n <= 600; n++ {
		numbers = append(numbers, n)
	}
	for _, n := range numbers {
		for _, more := range []bool{false, true} {
			checkWrite(t, ident.Part{Code: n, Level: 1, More: more})
			checkWrite(t, ident.Part{Code: 1, Level: n, More: more})
			checkWrite(t, ident.Part{Code: 3, Level: 2, More: more, Next: n})
			checkWrite(t, ident.Part{Code: 3, Level: 2, More: more, Next: n, Objects: list(2, 4, 5)})
			checkWrite(t, ident.Part{Code: 3, Level: 3, More: more, Objects: list(1, n)})
			checkWrite(t, ident.Part{Code: 3, Level: 3, More: more, Objects: list(1, 0, n, 2)})
			checkWrite(t, ident.Part{Code: 3, Level: 3, More: more, Objects: list(1, 0, 1, n)})
		}
	}
	for _, code := range edges {
		for _, level := range edges {
			checkWrite(t, ident.Part{Code: code, Level: level})
		}
	}
}

func TestWriteOfEachLength(t *testing.T) {
	for n := range 600 {
		checkWrite(t, ident.Part{Code: 4, Level: 1, Objects: list(n, 5)})
		checkWrite(t, ident.Part{Code: 1, Level: 1, Objects: []api.Object{thing(0, n), thing(1, 0)}})
		checkWrite(t, ident.Part{Code: 1, Level: 1, Objects: []api.Object{thing(0, 3), thing(1, n)}})
		checkWrite(t, ident.Part{Code: 1, Level: 1, Objects: []api.Object{thing(0, 1), thing(1, n), thing(2, 1)}})
		checkWrite(t, ident.Part{Code: 3, Level: 3, Objects: list(0, make([]int, n)...)})
		checkWrite(t, ident.Part{Code: 3, Level: 3, More: true, Next: 9, Objects: append(list(0, make([]int, n)...), thing(1, 1))})
	}
	for _, n := range []int{65536, 65537, 65536 + 240, 1 << 20} {
		checkWrite(t, ident.Part{Code: 4, Level: 1, Objects: list(n, 5)})
		checkWrite(t, ident.Part{Code: 4, Level: 1, Objects: make([]api.Object, n)})
	}
}

func TestWriteAtTheLimit(t *testing.T) { // all of it has at most 252 bytes
	for n := range 241 {
		for other := range 241 {
			p := ident.Part{Code: 2, Level: 2, Objects: []api.Object{thing(0, n), thing(1, other)}}
			b, err := ident.Write(p)
			if fits := 6+2+n+2+other <= 252; fits != (err == api.OK) || fits && len(b) != 10+n+other {
				t.Errorf("objects of %d and %d bytes: %d, %v", n, other, len(b), err)
			}
		}
	}
}

func TestRead(t *testing.T) {
	for _, b := range [][]byte{
		nil, {}, {14}, {14, 1}, {14, 1, 129}, {14, 1, 129, 0}, {14, 1, 129, 0, 0}, // too few
		{13, 1, 129, 0, 0, 0}, {0, 1, 129, 0, 0, 0}, {43, 14, 1, 129, 0, 0, 0}, // another first byte
		{14, 0, 129, 0, 0, 0}, {14, 5, 129, 0, 0, 0}, {14, 255, 129, 0, 0, 0}, // codes
		{14, 1, 1, 0, 0, 0}, {14, 1, 128, 0, 0, 0}, {14, 1, 132, 0, 0, 0}, {14, 1, 0, 0, 0, 0}, {14, 1, 255, 0, 0, 0}, // levels
		{14, 1, 129, 1, 0, 0}, {14, 1, 129, 254, 0, 0}, {14, 1, 129, 0, 1, 0}, {14, 1, 129, 0, 255, 0}, // more, and next
		{14, 1, 129, 0, 0, 1}, {14, 1, 129, 0, 0, 1, 0}, {14, 1, 129, 0, 0, 0, 0}, {14, 1, 129, 0, 0, 0, 0, 0}, {14, 1, 129, 0, 0, 2, 0, 0}, // how many
		{14, 1, 129, 0, 0, 1, 0, 1}, {14, 1, 129, 0, 0, 1, 0, 0, 0}, {14, 1, 129, 0, 0, 1, 0, 2, 7}, {14, 1, 129, 0, 0, 1, 0, 255, 7}, // their bytes
		{14, 1, 129, 0, 0, 2, 0, 0, 1}, {14, 1, 129, 0, 0, 2, 0, 1, 7, 1, 3, 7, 7},
	} {
		if p, err := ident.Read(b); err != api.ErrForm || !same(p, ident.Part{}) {
			t.Errorf("Read(%v): %v, %v", b, p, err)
		}
		checkRead(t, b)
	}
	p, err := ident.Read([]byte{14, 3, 131, 255, 200, 2, 128, 2, 5, 6, 129, 0})
	want := ident.Part{Code: 3, Level: 3, More: true, Next: 200, Objects: []api.Object{{ID: 128, Data: []byte{5, 6}}, {ID: 129}}}
	if err != api.OK || !same(p, want) {
		t.Errorf("Read: %v, %v", p, err)
	}
}

func TestReadOfEachChange(t *testing.T) {
	for _, p := range parts() {
		b := say(p)
		for n := range b {
			checkRead(t, b[:n])
			checkRead(t, b[n:])
		}
		for n := range 300 {
			checkRead(t, append(slices.Clone(b), make([]byte, n)...))
		}
		for at := range b {
			if at > 20 && at < len(b)-2 {
				continue
			}
			for v := range 256 {
				other := slices.Clone(b)
				other[at] = byte(v)
				checkRead(t, other)
			}
			checkRead(t, slices.Insert(slices.Clone(b), at, 0))
			checkRead(t, slices.Delete(slices.Clone(b), at, at+1))
		}
	}
}

func TestReadOfEachBeginning(t *testing.T) {
	values := []byte{0, 1, 2, 3, 4, 5, 13, 14, 127, 128, 129, 131, 132, 254, 255}
	for _, code := range values {
		for _, level := range values {
			for _, more := range values {
				for _, next := range values {
					for count := range byte(3) {
						checkRead(t, []byte{14, code, level, more, next, count, 9, 0})
					}
				}
			}
		}
	}
}

func TestReadOfEachLength(t *testing.T) {
	for n := range 400 {
		b := append([]byte{14, 4, 129, 0, 0, 1, 5, byte(n)}, make([]byte, n)...)
		checkRead(t, b)
		two := append([]byte{14, 4, 129, 0, 0, 2, 5, 0, 6, byte(n)}, make([]byte, n)...)
		checkRead(t, two)
		long := append([]byte{14, 4, 129, 0, 0, byte(n)}, make([]byte, 2*n)...)
		checkRead(t, long)
	}
	for _, n := range []int{65536, 65536 + 8, 1 << 20} {
		checkRead(t, append([]byte{14, 4, 129, 0, 0, 0}, make([]byte, n)...))
	}
}

func TestAnswer(t *testing.T) {
	l := []api.Object{{ID: 0, Data: []byte("a")}, {ID: 1}, {ID: 2, Data: []byte("bc")}, {ID: 5}, {ID: 130, Data: []byte{9}}}
	for _, c := range []struct {
		data, want []byte
		err        api.Errno
	}{
		{[]byte{14, 1, 0}, []byte{14, 1, 131, 0, 0, 3, 0, 1, 'a', 1, 0, 2, 2, 'b', 'c'}, api.OK},
		{[]byte{14, 1, 2}, []byte{14, 1, 131, 0, 0, 1, 2, 2, 'b', 'c'}, api.OK},
		{[]byte{14, 1, 5}, []byte{14, 1, 131, 0, 0, 3, 0, 1, 'a', 1, 0, 2, 2, 'b', 'c'}, api.OK}, // none of the sort has it
		{[]byte{14, 2, 2}, []byte{14, 2, 131, 0, 0, 2, 2, 2, 'b', 'c', 5, 0}, api.OK},
		{[]byte{14, 2, 130}, []byte{14, 2, 131, 0, 0, 4, 0, 1, 'a', 1, 0, 2, 2, 'b', 'c', 5, 0}, api.OK},
		{[]byte{14, 3, 5}, []byte{14, 3, 131, 0, 0, 2, 5, 0, 130, 1, 9}, api.OK},
		{[]byte{14, 3, 130}, []byte{14, 3, 131, 0, 0, 1, 130, 1, 9}, api.OK},
		{[]byte{14, 3, 131}, []byte{14, 3, 131, 0, 0, 5, 0, 1, 'a', 1, 0, 2, 2, 'b', 'c', 5, 0, 130, 1, 9}, api.OK},
		{[]byte{14, 4, 0}, []byte{14, 4, 131, 0, 0, 1, 0, 1, 'a'}, api.OK},
		{[]byte{14, 4, 5}, []byte{14, 4, 131, 0, 0, 1, 5, 0}, api.OK},
		{[]byte{14, 4, 130}, []byte{14, 4, 131, 0, 0, 1, 130, 1, 9}, api.OK},
		{[]byte{14, 4, 3}, nil, api.BadAddress},
		{[]byte{14, 4, 255}, nil, api.BadAddress},
		{nil, nil, api.BadFunction},
		{[]byte{}, nil, api.BadFunction},
		{[]byte{13}, nil, api.BadFunction},
		{[]byte{13, 1, 0}, nil, api.BadFunction},
		{[]byte{0, 14, 1, 0}, nil, api.BadFunction},
		{[]byte{13, 9, 0, 0}, nil, api.BadFunction},
		{[]byte{14}, nil, api.BadValue},
		{[]byte{14, 1}, nil, api.BadValue},
		{[]byte{14, 4}, nil, api.BadValue},
		{[]byte{14, 1, 0, 0}, nil, api.BadValue},
		{[]byte{14, 4, 3, 0}, nil, api.BadValue},
		{[]byte{14, 0, 0}, nil, api.BadValue},
		{[]byte{14, 5, 0}, nil, api.BadValue},
		{[]byte{14, 255, 0}, nil, api.BadValue},
		{[]byte{14, 129, 0}, nil, api.BadValue},
	} {
		if got, err := ident.Answer(l, c.data); err != c.err || !bytes.Equal(got, c.want) {
			t.Errorf("Answer to %v: %v, %v, not %v, %v", c.data, got, err, c.want, c.err)
		}
		checkAnswer(t, l, c.data...)
	}
}

func TestExamples(t *testing.T) {
	l := []api.Object{{ID: 0}, {ID: 1}, {ID: 2}}
	if got, err := ident.Answer(l, []byte{14, 1, 0}); err != api.OK || !bytes.Equal(got, []byte{14, 1, 129, 0, 0, 3, 0, 0, 1, 0, 2, 0}) {
		t.Errorf("14, 1, 0: %v, %v", got, err)
	}
	if got, err := ident.Answer(l, []byte{14, 4, 9}); err != api.BadAddress || len(got) > 0 {
		t.Errorf("14, 4, 9: %v, %v", got, err)
	}
}

// wrong are objects that may not be a device's.
func wrong() [][]api.Object {
	return [][]api.Object{
		nil, {}, list(1, 0), list(1, 0, 1), list(1, 1, 2), list(1, 0, 2), list(1, 0, 2, 1), device(1, 2), device(1, 7), device(1, 127),
		device(1, 256), device(1, 5, 4), device(1, 130, 5), device(241), list(1, -1, 0, 1, 2), list(1, 3, 4, 5), list(1, 128, 129),
		device(1, 128, 128), {thing(0, 0), thing(1, 0), thing(2, 241)}, append(whole(0), thing(255, 0)), whole(250),
	}
}

func TestOfNoDevice(t *testing.T) { // whatever is asked
	for _, l := range wrong() {
		for _, data := range [][]byte{nil, {}, {14}, {13}, {13, 1, 0}, {14, 1, 0}, {14, 2, 0}, {14, 3, 130}, {14, 4, 0}, {14, 4, 9}, {14, 9, 0}, {14, 1, 0, 0}} {
			if got, err := ident.Answer(l, data); err != api.ErrArg || len(got) > 0 {
				t.Errorf("Answer(%v, %v): %v, %v", l, data, got, err)
			}
		}
		for _, sort := range edges {
			if got, n := ident.All(l, sort); len(got) > 0 || n != 0 {
				t.Errorf("All(%v, %d): %v, %d", l, sort, got, n)
			}
		}
	}
}

// devices are lists of many kinds that may be a device's.
func devices() [][]api.Object {
	l := [][]api.Object{
		device(0), device(1), device(2, 3), device(5, 6), device(9, 3, 4, 5, 6), device(0, 128), device(3, 255), device(3, 5, 130), device(30, 3, 6, 128, 255),
		device(79), device(80), device(81), device(119), device(120), device(121), device(122), device(239), device(240), device(240, 3, 128),
		{thing(0, 240), thing(1, 2), thing(2, 1)}, {thing(0, 240), thing(1, 3), thing(2, 1)}, {thing(0, 2), thing(1, 240), thing(2, 0)},
		{thing(0, 3), thing(1, 240), thing(2, 0)}, {thing(0, 100), thing(1, 100), thing(2, 40)}, {thing(0, 100), thing(1, 100), thing(2, 41)},
		{thing(0, 100), thing(1, 100), thing(2, 39), thing(3, 0), thing(4, 0)}, {thing(0, 240), thing(1, 0), thing(2, 0), thing(6, 0)},
	}
	for _, n := range []int{0, 1, 2, 3, 10, 33, 100, 239, 240} {
		l = append(l, whole(n))
	}
	return l
}

func TestAnswerOfEachCode(t *testing.T) {
	for _, l := range devices() {
		for code := range byte(8) {
			for id := range 256 {
				checkAnswer(t, l, 14, code, byte(id))
			}
		}
	}
	for a := range 256 {
		for b := range 256 {
			checkAnswer(t, device(2, 3, 128), byte(a), byte(b), 1)
			checkAnswer(t, device(2, 3, 128), byte(a), byte(b))
		}
		checkAnswer(t, device(2, 3, 128), byte(a))
	}
}

func TestAnswerToEachLength(t *testing.T) {
	for n := range 300 {
		for code := range byte(6) {
			data := append([]byte{14, code, 3}, make([]byte, 300)...)
			checkAnswer(t, device(2, 3, 128), data[:n]...)
			data[0] = 15
			checkAnswer(t, device(2, 3, 128), data[:n]...)
		}
	}
}

func TestAnswerAtTheLimit(t *testing.T) { // all of it has at most 252 bytes
	for n := range 241 {
		l := []api.Object{thing(0, 100), thing(1, n), thing(2, 30), thing(3, 0)}
		checkAnswer(t, l, 14, 2, 0)
		checkAnswer(t, l, 14, 1, 0)
		checkAnswer(t, l, 14, 4, 1)
		b, err := ident.Answer(l, []byte{14, 2, 0})
		p, _ := ident.Read(b)
		left := 0 // the ID of the first one that has no room
		switch {
		case 6+102+2+n > 252:
			left = 1
		case 6+102+2+n+32 > 252:
			left = 2
		case 6+102+2+n+32+2 > 252:
			left = 3
		}
		if err != api.OK || p.More != (left > 0) || p.Next != left || left > 0 && len(p.Objects) != left || left == 0 && len(p.Objects) != 4 {
			t.Errorf("%d bytes of the second one: %v, %v", n, p, err)
		}
	}
}

func TestAnswerOfOneAlone(t *testing.T) { // there is never more, however many others there are
	l := whole(240)
	for _, o := range l {
		b, err := ident.Answer(l, []byte{14, 4, byte(o.ID)})
		want := append([]byte{14, 4, 131, 0, 0, 1, byte(o.ID), 240}, o.Data...)
		if err != api.OK || !bytes.Equal(b, want) {
			t.Errorf("the ID %d: %v, %v", o.ID, b, err)
		}
	}
	for id := 7; id < 128; id++ {
		if b, err := ident.Answer(l, []byte{14, 4, byte(id)}); err != api.BadAddress || len(b) > 0 {
			t.Errorf("the ID %d: %v, %v", id, b, err)
		}
	}
}

func TestAll(t *testing.T) {
	for _, l := range devices() {
		for _, sort := range edges {
			checkAll(t, l, sort)
		}
	}
	for sort := -600; sort <= 600; sort++ {
		checkAll(t, device(100, 3, 128), sort)
	}
	for n := range 241 {
		for sort := 1; sort <= 3; sort++ {
			checkAll(t, whole(n), sort)
			checkAll(t, []api.Object{thing(0, n), thing(1, 240-n), thing(2, 2), thing(4, n/2)}, sort)
		}
	}
	for _, c := range []struct {
		l       []api.Object
		sort    int
		answers int
	}{
		{device(0), 1, 1}, {device(0), 2, 1}, {device(0), 3, 1}, {device(80), 1, 1}, {device(81), 1, 2}, {device(240), 1, 3}, {whole(240), 1, 3},
		{whole(240), 2, 7}, {whole(240), 3, 135}, {whole(0), 3, 2}, {whole(0), 2, 1}, {device(240, 130), 2, 3}, {device(240, 130), 3, 4},
	} {
		got, n := ident.All(c.l, c.sort)
		if n != c.answers || !alike(got, ofSort(c.l, c.sort)) {
			t.Errorf("All of %d objects, the sort %d: %d, %d", len(c.l), c.sort, len(got), n)
		}
	}
}

func TestAllByHand(t *testing.T) { // what follows of the answers alone
	for _, l := range devices() {
		for sort := 1; sort <= 3; sort++ {
			var got []api.Object
			next, n := 0, 0
			for more := true; more && n < 300; n++ {
				b, err := ident.Answer(l, []byte{14, byte(sort), byte(next)})
				p, bad := ident.Read(b)
				if err != api.OK || bad != api.OK || p.Code != sort || p.Level != level(l) || len(p.Objects) == 0 {
					t.Fatalf("the sort %d of %v from %d: %v, %v, %v", sort, l, next, p, err, bad)
				}
				got = append(got, p.Objects...)
				more, next = p.More, p.Next
			}
			all, answers := ident.All(l, sort)
			if !alike(got, ofSort(l, sort)) || !alike(all, got) || answers != n {
				t.Errorf("the sort %d of %v: %v in %d, by hand %v in %d", sort, l, all, answers, got, n)
			}
		}
	}
}

// scribble overwrites all bytes that can be reached, behind their lengths too.
func scribble(l []api.Object) {
	for i := range l {
		b := l[i].Data[:cap(l[i].Data)]
		for j := range b {
			b[j] ^= 255
		}
		l[i].ID += 1000
	}
}

// roomy is the same objects with memory behind the list and behind the bytes of each.
func roomy(l []api.Object) []api.Object {
	r := make([]api.Object, len(l), len(l)+3)
	for i, o := range l {
		b := make([]byte, len(o.Data)+4)
		copy(b, o.Data)
		b[len(o.Data)] = 99
		r[i] = api.Object{ID: o.ID, Data: b[:len(o.Data)]}
	}
	r[:cap(r)][len(l)] = thing(3, 2)
	return r
}

func TestMemoryOfAnswers(t *testing.T) {
	plain := device(100, 5, 130)
	l := roomy(plain)
	data := append(make([]byte, 0, 5), 14, 3, 1, 7, 7)[:3]
	first, _ := ident.Answer(l, data)
	again := slices.Clone(first)
	if !bytes.Equal(data[:5], []byte{14, 3, 1, 7, 7}) || !alike(l, plain) || l[0].Data[:101][100] != 99 || !one(l[:6][5], thing(3, 2)) {
		t.Error("what was handed in was changed")
	}
	scribble(l)
	data[0] = 9
	if !bytes.Equal(first, again) {
		t.Error("what is answered hangs on what was handed in")
	}
	l = roomy(plain)
	b, _ := ident.Answer(l, []byte{14, 3, 1})
	for i := range b[:cap(b)] {
		b[:cap(b)][i] ^= 255
	}
	if !alike(l, plain) {
		t.Error("what is answered is the memory that was handed in")
	}
}

func TestMemoryOfAll(t *testing.T) {
	plain := device(100, 5, 130)
	l := roomy(plain)
	all, n := ident.All(l, 3)
	if n != 3 || !alike(all, plain) || !alike(l, plain) {
		t.Errorf("All: %v, %d", all, n)
	}
	scribble(l)
	if !alike(all, plain) {
		t.Error("what is answered hangs on what was handed in")
	}
	l = roomy(plain)
	all, _ = ident.All(l, 3)
	for i := range all {
		kept := copied(all)
		scribble(all[i : i+1])
		for j := range all {
			if j != i && !one(all[j], kept[j]) {
				t.Errorf("the objects %d and %d share memory", i, j)
			}
		}
	}
	if !alike(l, plain) {
		t.Error("what is answered is the memory that was handed in")
	}
}

func TestMemoryOfParts(t *testing.T) {
	for _, p := range parts() {
		plain := copied(p.Objects)
		p.Objects = roomy(plain)
		b, _ := ident.Write(p)
		want := slices.Clone(b)
		if !alike(p.Objects, plain) || !one(p.Objects[:len(plain)+1][len(plain)], thing(3, 2)) {
			t.Errorf("Write changed %v", p)
		}
		scribble(p.Objects)
		if !bytes.Equal(b, want) {
			t.Errorf("what is written hangs on the part: %v", p)
		}
		b = append(b, 0, 0)[:len(b)]
		got, err := ident.Read(b)
		if err != api.OK || !bytes.Equal(b, want) {
			t.Errorf("Read changed %v: %v", b, err)
		}
		for i := range b[:cap(b)] {
			b[:cap(b)][i] ^= 255
		}
		if !alike(got.Objects, plain) {
			t.Errorf("what is read hangs on the bytes: %v", got)
		}
		for i := range got.Objects {
			kept := copied(got.Objects)
			scribble(got.Objects[i : i+1])
			for j := range kept {
				if j != i && !one(got.Objects[j], kept[j]) {
					t.Fatalf("the objects %d and %d of %v share memory", i, j, p)
				}
			}
		}
	}
}

func TestReadDoesNotLookBehind(t *testing.T) {
	b := []byte{14, 1, 129, 0, 0, 1, 5, 2, 8, 9, 6, 0}
	for n := range b {
		got, err := ident.Read(b[:n])
		short, bad := ident.Read(slices.Clone(b[:n:n]))
		if err != bad || !same(got, short) || (err == api.OK) != (n == 10) {
			t.Errorf("Read of %d bytes: %v, %v, not %v, %v", n, got, err, short, bad)
		}
	}
}

// chance is a device's objects, or others, by chance.
func chance(r *rand.Rand) []api.Object {
	var l []api.Object
	most := []int{3, 30, 100, 241, 243}[r.IntN(5)]
	part := 1 + r.IntN(20)
	for id := range 256 {
		if id < 3 || known(id) && r.IntN(part) == 0 {
			l = append(l, thing(id, r.IntN(most)))
		}
	}
	switch r.IntN(8) {
	case 0:
		l = slices.Delete(l, 1, 2)
	case 1:
		l = append(l, thing(r.IntN(300), 1))
	}
	return l
}

func TestLongRun(t *testing.T) {
	r := rand.New(rand.NewPCG(21, 1))
	for range 3000 {
		l := chance(r)
		for range 10 {
			checkAnswer(t, l, 14, byte(1+r.IntN(4)), byte(r.IntN(256)))
			checkAnswer(t, l, 14, byte(1+r.IntN(4)), byte(l[r.IntN(len(l))].ID))
		}
		for sort := range 5 {
			checkAll(t, l, sort)
		}
	}
	for range 20000 {
		p := ident.Part{Code: r.IntN(6), Level: r.IntN(5), More: r.IntN(2) == 0}
		if r.IntN(3) > 0 {
			p.Next = r.IntN(260)
		}
		most := 1 + r.IntN(100)
		for range r.IntN(8) {
			p.Objects = append(p.Objects, thing(r.IntN(257), r.IntN(most)))
		}
		checkWrite(t, p)
		if !mayBe(p) {
			continue
		}
		b := say(p)
		for range 4 {
			b[r.IntN(len(b))] = byte(r.IntN(256))
			checkRead(t, b)
		}
	}
}
