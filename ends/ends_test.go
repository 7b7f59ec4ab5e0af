package ends_test

import (
	"bytes"
	"math"
	"testing"

	"moneyer/api"
	"moneyer/ends"
)

// The sizes that are none: the neighbours of those that are, and the ends of what an int holds.
var noSizes = []int{math.MinInt, -8, -1, 0, 3, 5, 6, 7, 9, 16, 64, math.MaxInt}

var sizes = []int{1, 2, 4, 8}

// edges are the numbers at which a size or a count begins or ends, the powers of 2 with their neighbours, and some with unlike bytes.
func edges() []uint64 {
	ns := []uint64{0, 250, 251, 252, 253, 254, 255, 256, 257, 258, 65534, 65535, 65536, 65537, 0x0201, 0x04030201, 0x0807060504030201, 0xf1f2f3f4f5f6f7f8}
	for i := range 64 {
		p := uint64(1) << i
		ns = append(ns, p-1, p, p+1)
	}
	return append(ns, math.MaxUint64-1, math.MaxUint64)
}

// wantBytes says by division what Put says by shifts: the bytes, and whether the number is one of the size.
func wantBytes(n uint64, size int) (b []byte, fits bool) {
	for range size {
		b = append(b, byte(n%256))
		n /= 256
	}
	return b, n == 0
}

func wantCount(n uint64) []byte {
	mark, size := byte(255), 8
	switch {
	case n <= 252:
		return []byte{byte(n)}
	case n <= 65535:
		mark, size = 253, 2
	case n <= 4294967295:
		mark, size = 254, 4
	}
	b, _ := wantBytes(n, size)
	return append([]byte{mark}, b...)
}

// P1.1

func TestPut(t *testing.T) {
	for _, c := range []struct {
		n    uint64
		size int
		want []byte
	}{
		{258, 2, []byte{2, 1}},
		{0, 1, []byte{0}},
		{255, 1, []byte{255}},
		{65535, 2, []byte{255, 255}},
		{5, 4, []byte{5, 0, 0, 0}},
		{0x04030201, 4, []byte{1, 2, 3, 4}},
		{0x04030201, 8, []byte{1, 2, 3, 4, 0, 0, 0, 0}},
		{0x0807060504030201, 8, []byte{1, 2, 3, 4, 5, 6, 7, 8}},
	} {
		if b, e := ends.Put(c.n, c.size); e != api.OK || !bytes.Equal(b, c.want) {
			t.Errorf("Put(%d, %d) = %x, %d", c.n, c.size, b, e)
		}
	}
}

func TestPutOfEverySize(t *testing.T) {
	for _, n := range edges() {
		for _, size := range sizes {
			want, fits := wantBytes(n, size)
			b, e := ends.Put(n, size)
			if fits && (e != api.OK || !bytes.Equal(b, want)) {
				t.Errorf("Put(%d, %d) = %x, %d", n, size, b, e)
			}
			if !fits && (e != api.ErrArg || len(b) != 0) {
				t.Errorf("Put(%d, %d) = %x, %d, of a number that is none of the size", n, size, b, e)
			}
		}
	}
}

func TestPutOfNoSize(t *testing.T) {
	for _, size := range noSizes {
		for _, n := range []uint64{0, 1, 255, math.MaxUint64} {
			if b, e := ends.Put(n, size); e != api.ErrArg || len(b) != 0 {
				t.Errorf("Put(%d, %d) = %x, %d", n, size, b, e)
			}
		}
	}
}

func TestGet(t *testing.T) {
	b := []byte{2, 1, 5, 250, 7, 0, 0, 128, 9}
	for _, c := range []struct {
		at, size int
		n        uint64
		e        api.Errno
	}{
		{0, 1, 2, api.OK},
		{8, 1, 9, api.OK},
		{0, 2, 258, api.OK},
		{7, 2, 128 + 9*256, api.OK},
		{0, 4, 0xfa050102, api.OK},
		{4, 4, 0x80000007, api.OK},
		{0, 8, 0x80000007fa050102, api.OK},
		{1, 8, 0x0980000007fa0501, api.OK},
		{9, 1, 0, api.ErrShort},
		{9, 8, 0, api.ErrShort},
		{8, 2, 0, api.ErrShort},
		{6, 4, 0, api.ErrShort},
		{2, 8, 0, api.ErrShort},
		{10, 1, 0, api.ErrArg},
		{10, 8, 0, api.ErrArg},
		{-1, 1, 0, api.ErrArg},
		{math.MinInt, 1, 0, api.ErrArg},
		{math.MaxInt, 8, 0, api.ErrArg},
	} {
		if n, e := ends.Get(b, c.at, c.size); n != c.n || e != c.e {
			t.Errorf("Get(%x, %d, %d) = %d, %d", b, c.at, c.size, n, e)
		}
	}
	for _, at := range []int{0, 9, 10, -1} {
		for _, size := range noSizes {
			if n, e := ends.Get(b, at, size); n != 0 || e != api.ErrArg {
				t.Errorf("Get(%x, %d, %d) = %d, %d", b, at, size, n, e)
			}
		}
	}
}

func TestPart(t *testing.T) {
	b := []byte{1, 2, 3}
	for _, c := range []struct {
		at, n int
		want  []byte
		e     api.Errno
	}{
		{1, 2, []byte{2, 3}, api.OK},
		{0, 3, []byte{1, 2, 3}, api.OK},
		{0, 1, []byte{1}, api.OK},
		{2, 1, []byte{3}, api.OK},
		{0, 0, nil, api.OK},
		{3, 0, nil, api.OK},
		{0, 4, nil, api.ErrShort},
		{3, 1, nil, api.ErrShort},
		{1, math.MaxInt, nil, api.ErrShort},
		{3, math.MaxInt, nil, api.ErrShort},
		{4, 0, nil, api.ErrArg},
		{4, 1, nil, api.ErrArg},
		{math.MaxInt, 1, nil, api.ErrArg},
		{math.MaxInt, math.MaxInt, nil, api.ErrArg},
		{-1, 0, nil, api.ErrArg},
		{-1, 2, nil, api.ErrArg},
		{math.MinInt, 1, nil, api.ErrArg},
		{0, -1, nil, api.ErrArg},
		{3, -1, nil, api.ErrArg},
		{2, math.MinInt, nil, api.ErrArg},
	} {
		if p, e := ends.Part(b, c.at, c.n); !bytes.Equal(p, c.want) || e != c.e {
			t.Errorf("Part(%x, %d, %d) = %x, %d", b, c.at, c.n, p, e)
		}
	}
}

func TestNothingToGetFrom(t *testing.T) {
	for _, b := range [][]byte{nil, {}} {
		if n, e := ends.Get(b, 0, 1); n != 0 || e != api.ErrShort {
			t.Errorf("Get = %d, %d", n, e)
		}
		if n, e := ends.Get(b, 1, 1); n != 0 || e != api.ErrArg {
			t.Errorf("Get behind the end = %d, %d", n, e)
		}
		if p, e := ends.Part(b, 0, 0); len(p) != 0 || e != api.OK {
			t.Errorf("Part = %x, %d", p, e)
		}
		if p, e := ends.Part(b, 0, 1); len(p) != 0 || e != api.ErrShort {
			t.Errorf("Part of one = %x, %d", p, e)
		}
		if n, next, e := ends.GetCount(b, 0); n != 0 || next != 0 || e != api.ErrShort {
			t.Errorf("GetCount = %d, %d, %d", n, next, e)
		}
		if r, next, e := ends.GetRow(b, 0, 9); len(r) != 0 || next != 0 || e != api.ErrShort {
			t.Errorf("GetRow = %x, %d, %d", r, next, e)
		}
		if r := ends.Row(b); !bytes.Equal(r, []byte{0}) {
			t.Errorf("Row = %x", r)
		}
	}
}

// Bytes behind the end of a slice, in its room, are none of it.
func TestRoomBehindIsNotRead(t *testing.T) {
	room := []byte{2, 7, 8, 253, 1, 1}
	if n, e := ends.Get(room[:1], 0, 2); n != 0 || e != api.ErrShort {
		t.Errorf("Get = %d, %d", n, e)
	}
	if p, e := ends.Part(room[:1], 0, 2); len(p) != 0 || e != api.ErrShort {
		t.Errorf("Part = %x, %d", p, e)
	}
	if p, e := ends.Part(room[:1], 2, 0); len(p) != 0 || e != api.ErrArg {
		t.Errorf("Part behind the end = %x, %d", p, e)
	}
	if n, next, e := ends.GetCount(room[:4], 3); n != 0 || next != 0 || e != api.ErrShort {
		t.Errorf("GetCount = %d, %d, %d", n, next, e)
	}
	if r, next, e := ends.GetRow(room[:2], 0, 9); len(r) != 0 || next != 0 || e != api.ErrShort {
		t.Errorf("GetRow = %x, %d, %d", r, next, e)
	}
}

// P1.2

func TestCount(t *testing.T) {
	for _, c := range []struct {
		n    uint64
		want []byte
	}{
		{0, []byte{0}},
		{252, []byte{252}},
		{253, []byte{253, 253, 0}},
		{258, []byte{253, 2, 1}},
		{65535, []byte{253, 255, 255}},
		{65536, []byte{254, 0, 0, 1, 0}},
		{0x04030201, []byte{254, 1, 2, 3, 4}},
		{1<<32 - 1, []byte{254, 255, 255, 255, 255}},
		{1 << 32, []byte{255, 0, 0, 0, 0, 1, 0, 0, 0}},
		{0x0807060504030201, []byte{255, 1, 2, 3, 4, 5, 6, 7, 8}},
		{math.MaxUint64, []byte{255, 255, 255, 255, 255, 255, 255, 255, 255}},
	} {
		if b := ends.Count(c.n); !bytes.Equal(b, c.want) {
			t.Errorf("Count(%d) = %x", c.n, b)
		}
	}
	for _, n := range edges() {
		if b := ends.Count(n); !bytes.Equal(b, wantCount(n)) {
			t.Errorf("Count(%d) = %x", n, b)
		}
	}
}

func TestGetCount(t *testing.T) {
	for _, c := range []struct {
		b    []byte
		at   int
		n    uint64
		next int
		e    api.Errno
	}{
		{[]byte{0}, 0, 0, 1, api.OK},
		{[]byte{9, 252, 9}, 1, 252, 2, api.OK},
		{[]byte{253, 253, 0}, 0, 253, 3, api.OK},
		{[]byte{1, 253, 2, 1, 7}, 1, 258, 4, api.OK},
		{[]byte{254, 0, 0, 1, 0}, 0, 65536, 5, api.OK},
		{[]byte{254, 1, 2, 3, 4, 5}, 0, 0x04030201, 5, api.OK},
		{[]byte{255, 0, 0, 0, 0, 1, 0, 0, 0}, 0, 1 << 32, 9, api.OK},
		{[]byte{255, 255, 255, 255, 255, 255, 255, 255, 255}, 0, math.MaxUint64, 9, api.OK},

		{[]byte{1, 2}, 2, 0, 0, api.ErrShort},
		{[]byte{253}, 0, 0, 0, api.ErrShort},
		{[]byte{253, 5}, 0, 0, 0, api.ErrShort},
		{[]byte{254, 1, 2, 3}, 0, 0, 0, api.ErrShort},
		{[]byte{254, 0, 0, 0}, 0, 0, 0, api.ErrShort},
		{[]byte{255, 1, 2, 3, 4, 5, 6, 7}, 0, 0, 0, api.ErrShort},
		{[]byte{255, 0, 0, 0, 0, 0, 0, 0}, 0, 0, 0, api.ErrShort},

		{[]byte{253, 0, 0}, 0, 0, 0, api.ErrForm},
		{[]byte{253, 5, 0}, 0, 0, 0, api.ErrForm},
		{[]byte{253, 252, 0}, 0, 0, 0, api.ErrForm},
		{[]byte{254, 5, 0, 0, 0}, 0, 0, 0, api.ErrForm},
		{[]byte{254, 253, 0, 0, 0}, 0, 0, 0, api.ErrForm},
		{[]byte{254, 255, 255, 0, 0}, 0, 0, 0, api.ErrForm},
		{[]byte{255, 5, 0, 0, 0, 0, 0, 0, 0}, 0, 0, 0, api.ErrForm},
		{[]byte{255, 0, 0, 1, 0, 0, 0, 0, 0}, 0, 0, 0, api.ErrForm},
		{[]byte{255, 255, 255, 255, 255, 0, 0, 0, 0}, 0, 0, 0, api.ErrForm},

		{[]byte{1, 2}, 3, 0, 0, api.ErrArg},
		{[]byte{1, 2}, -1, 0, 0, api.ErrArg},
		{[]byte{253}, 2, 0, 0, api.ErrArg},
		{[]byte{1, 2}, math.MinInt, 0, 0, api.ErrArg},
		{[]byte{1, 2}, math.MaxInt, 0, 0, api.ErrArg},
		{nil, 1, 0, 0, api.ErrArg},
	} {
		if n, next, e := ends.GetCount(c.b, c.at); n != c.n || next != c.next || e != c.e {
			t.Errorf("GetCount(%x, %d) = %d, %d, %d", c.b, c.at, n, next, e)
		}
	}
}

// P1.3

func TestRow(t *testing.T) {
	if r := ends.Row([]byte{7, 8}); !bytes.Equal(r, []byte{2, 7, 8}) {
		t.Errorf("Row = %x", r)
	}
	for _, n := range []int{0, 1, 252, 253, 255, 256, 65535, 65536, 70000} {
		b := steps(n)
		if r := ends.Row(b); !bytes.Equal(r, append(wantCount(uint64(n)), b...)) {
			t.Errorf("Row of %d bytes: %d, and not as said", n, len(r))
		}
	}
}

func TestGetRow(t *testing.T) {
	for _, c := range []struct {
		b        []byte
		at, most int
		row      []byte
		next     int
		e        api.Errno
	}{
		{[]byte{2, 7, 8}, 0, 2, []byte{7, 8}, 3, api.OK},
		{[]byte{2, 7, 8}, 0, math.MaxInt, []byte{7, 8}, 3, api.OK},
		{[]byte{9, 2, 7, 8, 9}, 1, 2, []byte{7, 8}, 4, api.OK},
		{[]byte{0}, 0, 0, nil, 1, api.OK},
		{[]byte{5, 0, 9}, 1, 0, nil, 2, api.OK},

		{[]byte{2, 7, 8}, 4, 2, nil, 0, api.ErrArg},
		{[]byte{2, 7, 8}, -1, 2, nil, 0, api.ErrArg},
		{[]byte{2, 7, 8}, math.MaxInt, -1, nil, 0, api.ErrArg},
		{[]byte{2, 7, 8}, 3, 2, nil, 0, api.ErrShort},
		{[]byte{2, 7, 8}, 3, -1, nil, 0, api.ErrShort},
		{[]byte{253, 1}, 0, -1, nil, 0, api.ErrShort},
		{[]byte{253, 2, 0, 7, 8}, 0, 9, nil, 0, api.ErrForm},
		{[]byte{253, 2, 0, 7, 8}, 0, 1, nil, 0, api.ErrForm},

		{[]byte{2, 7, 8}, 0, 1, nil, 0, api.ErrLimit},
		{[]byte{2, 7, 8}, 0, 0, nil, 0, api.ErrLimit},
		{[]byte{2, 7, 8}, 0, -1, nil, 0, api.ErrLimit},
		{[]byte{0}, 0, -1, nil, 0, api.ErrLimit},
		{[]byte{0}, 0, math.MinInt, nil, 0, api.ErrLimit},
		{[]byte{2, 7}, 0, 1, nil, 0, api.ErrLimit},
		{ends.Count(math.MaxUint64), 0, math.MaxInt, nil, 0, api.ErrLimit},
		{ends.Count(1 << 63), 0, math.MaxInt, nil, 0, api.ErrLimit},

		{[]byte{2, 7}, 0, 2, nil, 0, api.ErrShort},
		{[]byte{1}, 0, 1, nil, 0, api.ErrShort},
		{ends.Count(1 << 31), 0, math.MaxInt, nil, 0, api.ErrShort},
		{ends.Count(math.MaxInt), 0, math.MaxInt, nil, 0, api.ErrShort},
	} {
		if r, next, e := ends.GetRow(c.b, c.at, c.most); !bytes.Equal(r, c.row) || next != c.next || e != c.e {
			t.Errorf("GetRow(%x, %d, %d) = %x, %d, %d", c.b, c.at, c.most, r, next, e)
		}
	}
}

func TestGetLongRow(t *testing.T) {
	for _, n := range []int{252, 253, 65535, 65536} {
		b := steps(n)
		r := ends.Row(b)
		if got, next, e := ends.GetRow(r, 0, n); !bytes.Equal(got, b) || next != len(r) || e != api.OK {
			t.Errorf("GetRow of %d bytes: %d, %d, %d", n, len(got), next, e)
		}
		if got, next, e := ends.GetRow(r, 0, n-1); len(got) != 0 || next != 0 || e != api.ErrLimit {
			t.Errorf("GetRow of %d bytes, one fewer at most: %d, %d, %d", n, len(got), next, e)
		}
		if got, next, e := ends.GetRow(r[:len(r)-1], 0, n); len(got) != 0 || next != 0 || e != api.ErrShort {
			t.Errorf("GetRow of %d bytes, one missing: %d, %d, %d", n, len(got), next, e)
		}
	}
}

// P1.4

func TestWhatIsPutIsGot(t *testing.T) {
	for _, n := range edges() {
		for _, ahead := range []int{0, 1, 5} {
			for _, behind := range [][]byte{nil, {0}, {255, 255}} {
				numberIsGot(t, n, steps(ahead), behind)
				countIsGot(t, n, steps(ahead), behind)
			}
		}
	}
	for _, n := range []int{0, 1, 3, 252, 253, 300, 65535, 65536} {
		for _, ahead := range []int{0, 1, 5} {
			for _, behind := range [][]byte{nil, {0}, {255, 255}} {
				rowIsGot(t, steps(n), steps(ahead), behind)
			}
		}
	}
}

func numberIsGot(t *testing.T, n uint64, ahead, behind []byte) {
	for _, size := range sizes {
		p, e := ends.Put(n, size)
		if e != api.OK {
			continue
		}
		if len(p) != size {
			t.Errorf("Put(%d, %d) = %x", n, size, p)
		}
		b := bytes.Join([][]byte{ahead, p, behind}, nil)
		if m, e := ends.Get(b, len(ahead), size); m != n || e != api.OK {
			t.Errorf("Get(%x, %d, %d) = %d, %d", b, len(ahead), size, m, e)
		}
		if q, e := ends.Part(b, len(ahead), size); !bytes.Equal(q, p) || e != api.OK {
			t.Errorf("Part(%x, %d, %d) = %x, %d", b, len(ahead), size, q, e)
		}
	}
}

func countIsGot(t *testing.T, n uint64, ahead, behind []byte) {
	c := ends.Count(n)
	b := bytes.Join([][]byte{ahead, c, behind}, nil)
	if m, next, e := ends.GetCount(b, len(ahead)); m != n || next != len(ahead)+len(c) || e != api.OK {
		t.Errorf("GetCount(%x, %d) = %d, %d, %d", b, len(ahead), m, next, e)
	}
}

func rowIsGot(t *testing.T, row, ahead, behind []byte) {
	r := ends.Row(row)
	b := bytes.Join([][]byte{ahead, r, behind}, nil)
	if got, next, e := ends.GetRow(b, len(ahead), len(row)); !bytes.Equal(got, row) || next != len(ahead)+len(r) || e != api.OK {
		t.Errorf("GetRow of %d bytes at %d: %d, %d, %d", len(row), len(ahead), len(got), next, e)
	}
}

// Whatever is got as a count is the count of what is got: so a number has no second one.
func TestNumberHasOneCount(t *testing.T) {
	alphabet := []byte{0, 1, 252, 253, 255}
	for _, mark := range []byte{0, 7, 252, 253, 254, 255} {
		eachText(alphabet, 4, func(text []byte) {
			// Four bytes low, and the same four high: every eight would be too many.
			oneCount(t, bytes.Join([][]byte{{mark}, text, {0, 0, 0, 0}}, nil))
			oneCount(t, bytes.Join([][]byte{{mark}, {0, 0, 0, 0}, text}, nil))
			oneCount(t, bytes.Join([][]byte{{mark}, text}, nil))
			oneCount(t, bytes.Join([][]byte{{mark}, text[:3]}, nil))
		})
	}
}

func oneCount(t *testing.T, b []byte) {
	n, next, e := ends.GetCount(b, 0)
	switch e {
	case api.OK:
		if !bytes.Equal(b[:next], wantCount(n)) || !bytes.Equal(b[:next], ends.Count(n)) {
			t.Errorf("GetCount(%x, 0) = %d, %d, and Count(%d) = %x", b, n, next, n, ends.Count(n))
		}
	case api.ErrForm, api.ErrShort:
		if n != 0 || next != 0 {
			t.Errorf("GetCount(%x, 0) = %d, %d, %d", b, n, next, e)
		}
	default:
		t.Errorf("GetCount(%x, 0) = %d, %d, %d", b, n, next, e)
	}
}

func eachText(alphabet []byte, n int, do func([]byte)) {
	text := make([]byte, n)
	var fill func(int)
	fill = func(at int) {
		if at == n {
			do(text)
			return
		}
		for _, x := range alphabet {
			text[at] = x
			fill(at + 1)
		}
	}
	fill(0)
}

func TestNoCountBeginsAnother(t *testing.T) {
	ns := edges()
	for _, n := range ns {
		for _, m := range ns {
			if a, b := ends.Count(n), ends.Count(m); n != m && bytes.HasPrefix(a, b) {
				t.Errorf("Count(%d) = %x begins with Count(%d) = %x", n, a, m, b)
			}
		}
		c := ends.Count(n)
		for cut := range c {
			if m, next, e := ends.GetCount(c[:cut], 0); m != 0 || next != 0 || e != api.ErrShort {
				t.Errorf("GetCount(%x, 0) = %d, %d, %d", c[:cut], m, next, e)
			}
		}
	}
}

// The rules that hold everywhere: what is handed in stays as it is, what is answered is new memory.

// guarded answers a slice with bytes ahead of it and room behind it, and what checks that none of all that has changed.
func guarded(t *testing.T, b []byte) (in []byte, check func(call string)) {
	whole := bytes.Join([][]byte{{91, 92}, b, {93, 94, 95, 96, 97, 98, 99, 100, 101}}, nil)
	was := bytes.Clone(whole)
	return whole[2 : 2+len(b)], func(call string) {
		if !bytes.Equal(whole, was) {
			t.Errorf("%s has changed what was handed in: %x, it was %x", call, whole, was)
		}
	}
}

// overwrite changes all that an answer has, its room too.
func overwrite(b []byte) {
	b = b[:cap(b)]
	for i := range b {
		b[i] ^= 255
	}
}

func TestArgumentsStay(t *testing.T) {
	in, check := guarded(t, []byte{2, 7, 8, 253, 0, 1, 0})
	ends.Get(in, 0, 2)
	ends.GetCount(in, 3)
	check("a Get")
	for at := range len(in) + 1 {
		for n := range len(in) - at + 1 {
			p, _ := ends.Part(in, at, n)
			overwrite(p)
			check("Part")
		}
	}
	for _, at := range []int{0, 6} {
		r, _, _ := ends.GetRow(in, at, 9)
		overwrite(r)
		check("GetRow")
	}
	for n := range len(in) + 1 {
		overwrite(ends.Row(in[:n]))
		check("Row")
	}
}

// What an answer says stays when what was handed in is changed behind it.
func TestAnswersStay(t *testing.T) {
	b := []byte{2, 7, 8}
	p, _ := ends.Part(b, 0, 3)
	q, _ := ends.Part(b, 0, 3)
	r, _, _ := ends.GetRow(b, 0, 3)
	row := ends.Row(b)
	overwrite(b)
	overwrite(q)
	if !bytes.Equal(p, []byte{2, 7, 8}) || !bytes.Equal(r, []byte{7, 8}) || !bytes.Equal(row, []byte{3, 2, 7, 8}) {
		t.Errorf("Part = %x, GetRow = %x, Row = %x", p, r, row)
	}
}

func TestAnswersShareNothing(t *testing.T) {
	for _, n := range edges() {
		first, second := ends.Count(n), ends.Count(n)
		overwrite(first)
		if !bytes.Equal(second, wantCount(n)) || !bytes.Equal(ends.Count(n), wantCount(n)) {
			t.Errorf("Count(%d) shares memory", n)
		}
		for _, size := range sizes {
			want, fits := wantBytes(n, size)
			if !fits {
				continue
			}
			first, _ := ends.Put(n, size)
			second, _ := ends.Put(n, size)
			overwrite(first)
			third, _ := ends.Put(n, size)
			if !bytes.Equal(second, want) || !bytes.Equal(third, want) {
				t.Errorf("Put(%d, %d) shares memory", n, size)
			}
		}
	}
}

// steps are n bytes that go up, so that no piece of them is like its neighbour.
func steps(n int) []byte {
	b := make([]byte, n)
	for i := range b {
		b[i] = byte(i%251 + 1)
	}
	return b
}
