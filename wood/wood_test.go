package wood_test

import (
	"math"
	"math/rand"
	"slices"
	"testing"

	"moneyer/api"
	"moneyer/place"
	"moneyer/sha"
	"moneyer/wood"
)

func hashes(first, n int) []api.Hash {
	var l []api.Hash
	for i := range n {
		l = append(l, api.Hash{byte(first + i), byte((first + i) >> 8), 7})
	}
	return l
}

func is(h api.Hash) api.Node { return api.Node{Is: true, H: h} }

// model is a forest as the words have it: its leaves, and values that are worked out from them each time.
type model []api.Node

func (m model) value(p api.Place) api.Node {
	if p.Row == 0 {
		return m[p.At]
	}
	a := m.value(api.Place{Row: p.Row - 1, At: 2 * p.At})
	b := m.value(api.Place{Row: p.Row - 1, At: 2*p.At + 1})
	switch {
	case a.Is && b.Is:
		return is(sha.Pair(a.H, b.H))
	case a.Is:
		return a
	}
	return b
}

func (m model) stump() api.Stump {
	s := api.Stump{N: uint64(len(m))}
	for _, p := range place.Trees(s.N) {
		s.Roots = append(s.Roots, m.value(p))
	}
	return s
}

func sameStump(a, b api.Stump) bool { return a.N == b.N && slices.Equal(a.Roots, b.Roots) }

// hold holds a forest against the model, in all that can be asked.
func hold(t *testing.T, w *wood.Wood, m model) {
	t.Helper()
	n := uint64(len(m))
	if w.N() != n || !sameStump(w.Stump(), m.stump()) {
		t.Fatalf("N = %d, Stump = %v, not %v", w.N(), w.Stump(), m.stump())
	}
	for row := range 8 {
		for at := range n>>row + 3 {
			p := api.Place{Row: uint8(row), At: at}
			v, e := w.Value(p)
			if !place.Stands(n, p) {
				if v != (api.Node{}) || e != api.ErrArg {
					t.Fatalf("Value(%v) of %d leaves = %v, %d", p, n, v, e)
				}
				continue
			}
			if v != m.value(p) || e != api.OK {
				t.Fatalf("Value(%v) of %d leaves = %v, %d", p, n, v, e)
			}
		}
	}
}

func of(t *testing.T, l []api.Hash) (*wood.Wood, model) {
	t.Helper()
	w := wood.New()
	if e := w.Add(l); e != api.OK {
		t.Fatal(e)
	}
	var m model
	for _, h := range l {
		m = append(m, is(h))
	}
	return w, m
}

// The chapter's examples.
func TestExamples(t *testing.T) {
	a, b := api.Hash{1}, api.Hash{2}
	w := wood.New()
	if s := w.Stump(); s.N != 0 || len(s.Roots) != 0 {
		t.Errorf("New: Stump = %v", s)
	}
	if e := w.Add([]api.Hash{a, b}); e != api.OK {
		t.Errorf("Add(a, b): %d", e)
	}
	if s := w.Stump(); !sameStump(s, api.Stump{N: 2, Roots: []api.Node{is(sha.Pair(a, b))}}) {
		t.Errorf("Stump = %v", s)
	}
	if e := w.Take([]uint64{0}); e != api.OK {
		t.Errorf("Take(0): %d", e)
	}
	if s := w.Stump(); !sameStump(s, api.Stump{N: 2, Roots: []api.Node{is(b)}}) {
		t.Errorf("Stump = %v", s)
	}
	if e := w.Take([]uint64{0}); e != api.ErrNone {
		t.Errorf("Take(0) again: %d", e)
	}
	if v, e := w.Value(api.Place{}); v != (api.Node{}) || e != api.OK {
		t.Errorf("Value(row 0 0) = %v, %d", v, e)
	}
	if v := wood.Join(api.Node{}, is(a)); v != is(a) {
		t.Errorf("Join(none, a) = %v", v)
	}
}

func TestJoin(t *testing.T) {
	a, b := api.Hash{1}, api.Hash{2}
	// Of a node that is none H does not count.
	for _, none := range []api.Node{{}, {H: a}, {H: api.Hash{31: 255}}} {
		if v := wood.Join(none, is(b)); v != is(b) {
			t.Errorf("Join(%v, b) = %v", none, v)
		}
		if v := wood.Join(is(b), none); v != is(b) {
			t.Errorf("Join(b, %v) = %v", none, v)
		}
		for _, other := range []api.Node{{}, {H: b}} {
			if v := wood.Join(none, other); v != (api.Node{}) {
				t.Errorf("Join(%v, %v) = %v", none, other, v)
			}
		}
	}
	for _, c := range [][2]api.Hash{{a, b}, {b, a}, {a, a}, {{}, {}}, {{}, a}} {
		if v := wood.Join(is(c[0]), is(c[1])); v != is(sha.Pair(c[0], c[1])) {
			t.Errorf("Join(%x, %x) = %v", c[0], c[1], v)
		}
	}
}

// P16.1 and P16.3

func TestAdd(t *testing.T) {
	for n := range 20 {
		w, m := of(t, hashes(0, n))
		hold(t, w, m)
		for more := range 6 {
			w, m := of(t, hashes(0, n))
			if e := w.Add(hashes(500, more)); e != api.OK {
				t.Errorf("Add: %d", e)
			}
			for _, h := range hashes(500, more) {
				m = append(m, is(h))
			}
			hold(t, w, m)
		}
	}
	// The zero hash is a hash, and the same hash may be added twice.
	w, m := of(t, []api.Hash{{}, {1}, {1}, {}, {}})
	hold(t, w, m)
}

func TestTake(t *testing.T) {
	for n := range uint64(9) {
		for set := range 1 << n {
			w, m := of(t, hashes(0, int(n)))
			var l, rest []uint64
			for k := range n {
				if set>>k&1 == 1 {
					l = append(l, k)
					m[k] = api.Node{}
				} else {
					rest = append(rest, k)
				}
			}
			if e := w.Take(l); e != api.OK {
				t.Errorf("Take(%v) of %d: %d", l, n, e)
			}
			hold(t, w, m)
			// What is gone is not there, and nothing has changed.
			for _, k := range l {
				if e := w.Take([]uint64{k}); e != api.ErrNone {
					t.Errorf("Take(%d) again: %d", k, e)
				}
			}
			if len(l) > 0 {
				all := slices.Sorted(slices.Values(append(slices.Clone(rest), l[0])))
				if e := w.Take(all); e != api.ErrNone {
					t.Errorf("Take(%v): %d", all, e)
				}
			}
			hold(t, w, m)
			if e := w.Take(rest); e != api.OK {
				t.Errorf("Take(%v) of what is left: %d", rest, e)
			}
			hold(t, w, make(model, n))
		}
	}
}

func TestTakeOfWhatMayNotBe(t *testing.T) {
	for _, n := range []int{0, 1, 2, 5, 8} {
		w, m := of(t, hashes(0, n))
		k := uint64(n)
		for _, l := range [][]uint64{{k}, {k + 1}, {0, k}, {math.MaxUint64}, {1 << 20}, {1 << 32}, {0, 0}, {1, 0}, {0, 1, 1}, {2, 1, 0}, {0, 2, 1}} {
			if e := w.Take(l); e != api.ErrArg {
				t.Errorf("Take(%v) of %d: %d", l, n, e)
			}
			hold(t, w, m)
		}
	}
	// ErrArg comes ahead of ErrNone.
	w, _ := of(t, hashes(0, 4))
	w.Take([]uint64{1})
	for _, l := range [][]uint64{{1, 4}, {1, 1}, {1, 0}} {
		if e := w.Take(l); e != api.ErrArg {
			t.Errorf("Take(%v): %d", l, e)
		}
	}
}

func TestMost(t *testing.T) {
	w := wood.New()
	l := make([]api.Hash, api.MaxLeaves)
	if e := w.Add(append(l, api.Hash{})); e != api.ErrLimit || w.N() != 0 {
		t.Errorf("Add of one too many: %d, %d", e, w.N())
	}
	if e := w.Add(l[:1000]); e != api.OK {
		t.Errorf("Add: %d", e)
	}
	was := w.Stump()
	if e := w.Add(l[999:]); e != api.ErrLimit || !sameStump(w.Stump(), was) {
		t.Errorf("Add of one too many: %d, %v", e, w.Stump())
	}
	if e := w.Add(l[1000:]); e != api.OK || w.N() != api.MaxLeaves {
		t.Errorf("Add up to the most: %d, %d", e, w.N())
	}
	h := api.Hash{}
	for range 20 {
		h = sha.Pair(h, h)
	}
	if s := w.Stump(); !sameStump(s, api.Stump{N: api.MaxLeaves, Roots: []api.Node{is(h)}}) {
		t.Errorf("Stump of the most = %v", s)
	}
	if e := w.Add(l[:1]); e != api.ErrLimit {
		t.Errorf("Add above the most: %d", e)
	}
	if e := w.Add(nil); e != api.OK {
		t.Errorf("Add of none: %d", e)
	}
	if e := w.Take([]uint64{0, api.MaxLeaves - 1}); e != api.OK {
		t.Errorf("Take: %d", e)
	}
	if e := w.Back(3, []uint64{0}, l[:1]); e != api.OK || !sameStump(w.Stump(), model{is(l[0]), is(l[0]), is(l[0])}.stump()) {
		t.Errorf("Back: %d, %v", e, w.Stump())
	}
}

// P16.2

func TestBack(t *testing.T) {
	r := rand.New(rand.NewSource(1))
	for range 3000 {
		n := r.Intn(20)
		w, m := of(t, hashes(0, n))
		gone := pick(r, n)
		w.Take(gone)
		for _, k := range gone {
			m[k] = api.Node{}
		}
		back := r.Intn(n + 1)
		var l []uint64
		var h []api.Hash
		for _, k := range gone {
			if k < uint64(back) && r.Intn(3) > 0 {
				l = append(l, k)
				h = append(h, api.Hash{byte(k), 99})
				m[k] = is(api.Hash{byte(k), 99})
			}
		}
		if e := w.Back(uint64(back), l, h); e != api.OK {
			t.Fatalf("Back(%d, %v): %d", back, l, e)
		}
		hold(t, w, m[:back])
	}
}

// pick picks some of the first n numbers, rising.
func pick(r *rand.Rand, n int) []uint64 {
	var l []uint64
	for k := range n {
		if r.Intn(3) == 0 {
			l = append(l, uint64(k))
		}
	}
	return l
}

func TestBackOfWhatMayNotBe(t *testing.T) {
	w, m := of(t, hashes(0, 7))
	w.Take([]uint64{1, 3, 5, 6})
	for _, k := range []int{1, 3, 5, 6} {
		m[k] = api.Node{}
	}
	for i, c := range []struct {
		n uint64
		l []uint64
		h int
	}{
		{8, nil, 0}, {math.MaxUint64, nil, 0}, {8, []uint64{7}, 1},
		{7, []uint64{1}, 0}, {7, []uint64{1}, 2}, {7, nil, 1}, {7, []uint64{1, 3}, 1},
		{7, []uint64{3, 1}, 2}, {7, []uint64{1, 1}, 2}, {7, []uint64{1, 5, 3}, 3},
		{7, []uint64{7}, 1}, {5, []uint64{5}, 1}, {5, []uint64{1, 6}, 2}, {0, []uint64{0}, 1}, {7, []uint64{math.MaxUint64}, 1},
		{7, []uint64{0}, 1}, {7, []uint64{2}, 1}, {7, []uint64{1, 2, 3}, 3}, {7, []uint64{1, 4}, 2},
	} {
		if e := w.Back(c.n, c.l, hashes(0, c.h)); e != api.ErrArg {
			t.Errorf("%d: Back(%d, %v): %d", i, c.n, c.l, e)
		}
		hold(t, w, m)
	}
	if e := w.Back(7, nil, nil); e != api.OK {
		t.Errorf("Back of nothing: %d", e)
	}
	hold(t, w, m)
	if e := w.Back(0, nil, nil); e != api.OK {
		t.Errorf("Back to nothing: %d", e)
	}
	hold(t, w, nil)
}

// P16.4: what is added, and taken, is back by Back; Stump hangs on the leaves alone.

func TestThereAndBack(t *testing.T) {
	r := rand.New(rand.NewSource(2))
	w, m := of(t, nil)
	type step struct {
		n uint64
		l []uint64
		h []api.Hash
		m model
	}
	var done []step
	for i := range 200 {
		if len(done) > 0 && r.Intn(3) == 0 {
			s := done[len(done)-1]
			done = done[:len(done)-1]
			if e := w.Back(s.n, s.l, s.h); e != api.OK {
				t.Fatalf("Back: %d", e)
			}
			m = s.m
		} else {
			s := step{n: w.N(), m: slices.Clone(m)}
			for k, v := range m {
				if v.Is && r.Intn(4) == 0 {
					s.l = append(s.l, uint64(k))
					s.h = append(s.h, v.H)
					m[k] = api.Node{}
				}
			}
			if e := w.Take(s.l); e != api.OK {
				t.Fatalf("Take: %d", e)
			}
			l := hashes(i*10, r.Intn(6))
			w.Add(l)
			for _, h := range l {
				m = append(m, is(h))
			}
			done = append(done, s)
		}
		hold(t, w, m)
		// The same leaves, come to be in another way.
		other := wood.New()
		var fill []api.Hash
		var gone []uint64
		for k, v := range m {
			fill = append(fill, v.H)
			if !v.Is {
				gone = append(gone, uint64(k))
			}
		}
		for _, h := range fill {
			other.Add([]api.Hash{h})
		}
		for _, k := range slices.Backward(gone) {
			other.Take([]uint64{k})
		}
		if !sameStump(other.Stump(), w.Stump()) {
			t.Fatal("two forests of the same leaves have other stumps")
		}
	}
}

func TestCopy(t *testing.T) {
	w, m := of(t, hashes(0, 11))
	w.Take([]uint64{2, 9})
	m[2], m[9] = api.Node{}, api.Node{}
	c := w.Copy()
	hold(t, c, m)
	c.Add(hashes(50, 2))
	c.Take([]uint64{0})
	hold(t, w, m)
	d := w.Copy()
	w.Back(4, []uint64{2}, hashes(2, 1))
	hold(t, d, m)
	if e := d.Take([]uint64{2}); e != api.ErrNone {
		t.Errorf("Take of a copy: %d", e)
	}
}

// Rule 5: a nil pointer, and a zero object.
func TestNil(t *testing.T) {
	for _, w := range []*wood.Wood{nil, {}} {
		if w.N() != 0 || !sameStump(w.Stump(), api.Stump{}) || w.Copy() != nil {
			t.Error("of nil something is told")
		}
		v, e := w.Value(api.Place{})
		if v != (api.Node{}) || e != api.ErrNil {
			t.Errorf("Value = %v, %d", v, e)
		}
		for _, e := range []api.Errno{w.Add(nil), w.Add(hashes(0, 1)), w.Add(make([]api.Hash, api.MaxLeaves+1)), w.Take(nil), w.Take([]uint64{0}), w.Back(0, nil, nil), w.Back(9, nil, nil)} {
			if e != api.ErrNil {
				t.Errorf("%d, not ErrNil", e)
			}
		}
	}
}

// The rules that hold everywhere: what is handed in stays as it is, what is answered is new memory.
func TestMemory(t *testing.T) {
	room := hashes(0, 20)
	w := wood.New()
	w.Add(room[:9])
	want := w.Stump()
	for i := range 9 {
		room[i] = api.Hash{99}
	}
	if !sameStump(w.Stump(), want) || room[9] != hashes(9, 1)[0] {
		t.Error("a forest shares memory with what it was handed")
	}
	s := w.Stump()
	for i := range s.Roots[:cap(s.Roots)] {
		s.Roots[:cap(s.Roots)][i] = api.Node{}
	}
	if !sameStump(w.Stump(), want) {
		t.Error("a stump shares memory with its forest")
	}
	l := []uint64{1, 3, 77, 78}
	h := hashes(1, 4)
	w.Take(l[:2])
	w.Back(7, l[:2], h[:2])
	if !slices.Equal(l, []uint64{1, 3, 77, 78}) || !slices.Equal(h, hashes(1, 4)) {
		t.Error("what was handed in has changed")
	}
}
