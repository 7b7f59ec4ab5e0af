package place_test

import (
	"math"
	"math/rand"
	"slices"
	"testing"

	"moneyer/api"
	"moneyer/place"
)

const most = api.MaxLeaves

func at(row uint8, n uint64) api.Place { return api.Place{Row: row, At: n} }

// treesOf says what the trees of n leaves are: one for each bit, the greatest first.
func treesOf(n uint64) []api.Place {
	var l []api.Place
	start := uint64(0)
	for row := 20; row >= 0; row-- {
		if n>>row&1 == 1 {
			l = append(l, at(uint8(row), start/(1<<row)))
			start += 1 << row
		}
	}
	return l
}

// treeOf says in which tree a leaf is.
func treeOf(n, leaf uint64) (api.Place, bool) {
	for _, p := range treesOf(n) {
		if p.At<<p.Row <= leaf && leaf < (p.At+1)<<p.Row {
			return p, true
		}
	}
	return api.Place{}, false
}

// standing says which places stand: those of which a tree has all leaves.
func standing(n uint64) map[api.Place]bool {
	m := map[api.Place]bool{}
	for _, tree := range treesOf(n) {
		for row := uint8(0); row <= tree.Row; row++ {
			for i := tree.At << (tree.Row - row); i < (tree.At+1)<<(tree.Row-row); i++ {
				m[at(row, i)] = true
			}
		}
	}
	return m
}

func less(a, b api.Place) bool { return a.Row < b.Row || a.Row == b.Row && a.At < b.At }

func sorted(m map[api.Place]bool) []api.Place {
	var l []api.Place
	for p := range m {
		l = append(l, p)
	}
	slices.SortFunc(l, func(a, b api.Place) int {
		if less(a, b) {
			return -1
		}
		return 1
	})
	return l
}

// expected says what the ways of claims are, and what is needed.
func expected(n uint64, claims []uint64) (ways, needs []api.Place) {
	w, d := map[api.Place]bool{}, map[api.Place]bool{}
	for _, leaf := range claims {
		tree, _ := treeOf(n, leaf)
		for row := uint8(0); row <= tree.Row; row++ {
			w[at(row, leaf>>row)] = true
		}
	}
	for p := range w {
		tree, _ := treeOf(n, p.At<<p.Row)
		if other := at(p.Row, p.At^1); p != tree && !w[other] {
			d[other] = true
		}
	}
	return sorted(w), sorted(d)
}

func ways(t *testing.T, n uint64, claims []uint64) ([]api.Place, api.Errno) {
	t.Helper()
	l, e := place.Ways(n, claims)
	if e != api.OK && len(l) != 0 {
		t.Errorf("Ways = %v, %d", l, e)
	}
	return l, e
}

func needs(t *testing.T, n uint64, claims []uint64) ([]api.Place, api.Errno) {
	t.Helper()
	l, e := place.Needs(n, claims)
	if e != api.OK && len(l) != 0 {
		t.Errorf("Needs = %v, %d", l, e)
	}
	return l, e
}

// The chapter's examples.
func TestExamples(t *testing.T) {
	if l := place.Trees(5); !slices.Equal(l, []api.Place{at(2, 0), at(0, 4)}) {
		t.Errorf("Trees(5) = %v", l)
	}
	if p, ok := place.Tree(5, 3); p != at(2, 0) || !ok {
		t.Errorf("Tree(5, 3) = %v, %t", p, ok)
	}
	if !place.Stands(5, at(0, 4)) || place.Stands(5, at(1, 2)) {
		t.Error("Stands(5, ..)")
	}
	if l, e := ways(t, 4, []uint64{1}); !slices.Equal(l, []api.Place{at(0, 1), at(1, 0), at(2, 0)}) || e != api.OK {
		t.Errorf("Ways(4, 1) = %v, %d", l, e)
	}
	for _, c := range []struct {
		n      uint64
		claims []uint64
		want   []api.Place
		e      api.Errno
	}{{4, []uint64{1}, []api.Place{at(0, 0), at(1, 1)}, 0}, {4, []uint64{0, 1}, []api.Place{at(1, 1)}, 0}, {5, []uint64{4}, nil, 0}, {4, []uint64{1, 1}, nil, api.ErrArg}} {
		if l, e := needs(t, c.n, c.claims); !slices.Equal(l, c.want) || e != c.e {
			t.Errorf("Needs(%d, %v) = %v, %d", c.n, c.claims, l, e)
		}
	}
}

// P15.1

func TestTrees(t *testing.T) {
	counts := []uint64{most, most - 1, most / 2, most/2 + 1, most - most/4, 1<<19 | 1<<7 | 1}
	for n := range uint64(200) {
		counts = append(counts, n)
	}
	for _, n := range counts {
		if l := place.Trees(n); !slices.Equal(l, treesOf(n)) {
			t.Errorf("Trees(%d) = %v", n, l)
		}
		leaves := []uint64{0, 1, n / 2, n - 2, n - 1, n, n + 1, most, math.MaxUint64, 1 << 63, n + 1<<32}
		for k := range 64 {
			leaves = append(leaves, 1<<k, 1<<k-1, n+1<<k)
		}
		for _, leaf := range leaves {
			want, is := treeOf(n, leaf)
			if p, ok := place.Tree(n, leaf); p != want || ok != is {
				t.Errorf("Tree(%d, %d) = %v, %t", n, leaf, p, ok)
			}
		}
	}
	for _, n := range []uint64{most + 1, most + 2, 2 * most, math.MaxUint64, 1 << 63, 1 << 32} {
		if l := place.Trees(n); len(l) != 0 {
			t.Errorf("Trees(%d) = %v", n, l)
		}
		for _, leaf := range []uint64{0, 1, most, n - 1} {
			if p, ok := place.Tree(n, leaf); p != (api.Place{}) || ok {
				t.Errorf("Tree(%d, %d) = %v, %t", n, leaf, p, ok)
			}
			if place.Stands(n, at(0, leaf)) {
				t.Errorf("Stands(%d, row 0 %d)", n, leaf)
			}
		}
	}
}

func TestStands(t *testing.T) {
	for n := range uint64(70) {
		m := standing(n)
		for row := range 256 {
			for i := range uint64(75) {
				if p := at(uint8(row), i); place.Stands(n, p) != m[p] {
					t.Errorf("Stands(%d, %v) is not %t", n, p, m[p])
				}
			}
			for k := range 64 {
				for _, i := range []uint64{1 << k, 1<<k - 1, math.MaxUint64 - 1<<k + 1} {
					if p := at(uint8(row), i); place.Stands(n, p) != m[p] {
						t.Errorf("Stands(%d, %v) is not %t", n, p, m[p])
					}
				}
			}
		}
	}
	for _, c := range []struct {
		n  uint64
		p  api.Place
		is bool
	}{
		{most, at(20, 0), true}, {most, at(20, 1), false}, {most, at(21, 0), false}, {most, at(0, most-1), true}, {most, at(0, most), false}, {most, at(19, 1), true}, {most, at(19, 2), false},
		{most - 1, at(20, 0), false}, {most - 1, at(19, 0), true}, {most - 1, at(19, 1), false}, {most - 1, at(18, 2), true}, {most - 1, at(0, most-2), true}, {most - 1, at(0, most-1), false},
	} {
		if place.Stands(c.n, c.p) != c.is {
			t.Errorf("Stands(%d, %v) is not %t", c.n, c.p, c.is)
		}
	}
}

// P15.2

func TestPlaces(t *testing.T) {
	for _, p := range []api.Place{at(0, 0), at(0, 1), at(0, 7), at(5, 6), at(19, 1), at(20, 0), at(100, 1<<63+5), at(254, math.MaxUint64), at(254, 1<<62)} {
		if got := place.Parent(p); got != at(p.Row+1, p.At/2) {
			t.Errorf("Parent(%v) = %v", p, got)
		}
		other := at(p.Row, p.At+1)
		if p.At%2 == 1 {
			other.At = p.At - 1
		}
		if got := place.Neighbour(p); got != other || place.Neighbour(got) != p {
			t.Errorf("Neighbour(%v) = %v", p, got)
		}
		a, b := place.Kids(p)
		if p.Row == 0 {
			if a != (api.Place{}) || b != (api.Place{}) {
				t.Errorf("Kids(%v) = %v, %v", p, a, b)
			}
			continue
		}
		if a != at(p.Row-1, p.At*2) || b != at(p.Row-1, p.At*2+1) {
			t.Errorf("Kids(%v) = %v, %v", p, a, b)
		}
		if p.At < 1<<63 && (place.Parent(a) != p || place.Parent(b) != p || place.Neighbour(a) != b) {
			t.Errorf("the kids of %v are not its own", p)
		}
	}
}

func TestLess(t *testing.T) {
	l := []api.Place{at(0, 0), at(0, 1), at(0, 255), at(0, 256), at(0, 1<<63), at(0, math.MaxUint64), at(1, 0), at(1, 5), at(19, math.MaxUint64), at(20, 0), at(127, 3), at(128, 2), at(255, 0), at(255, 1)}
	for i, a := range l {
		for k, b := range l {
			if place.Less(a, b) != (i < k) {
				t.Errorf("Less(%v, %v) = %t", a, b, i >= k)
			}
		}
	}
}

// P15.3

func check(t *testing.T, n uint64, claims []uint64) {
	t.Helper()
	wantWays, wantNeeds := expected(n, claims)
	w, e1 := ways(t, n, claims)
	d, e2 := needs(t, n, claims)
	if !slices.Equal(w, wantWays) || e1 != api.OK {
		t.Errorf("Ways(%d, %v) = %v, %d", n, claims, w, e1)
	}
	if !slices.Equal(d, wantNeeds) || e2 != api.OK {
		t.Errorf("Needs(%d, %v) = %v, %d", n, claims, d, e2)
	}
	follows(t, n, w, d)
}

// follows holds P15.4 of ways and what is needed.
func follows(t *testing.T, n uint64, w, d []api.Place) {
	t.Helper()
	is := map[api.Place]int{}
	for _, p := range w {
		is[p] = 1
	}
	own := treesOf(n)
	for _, p := range d {
		if is[p] != 0 || !place.Stands(n, p) || slices.Contains(own, p) {
			t.Errorf("%d leaves: what is needed at %v", n, p)
		}
		is[p] = 2
	}
	for _, p := range w {
		a, b := place.Kids(p)
		if p.Row > 0 && (is[a] == 0 || is[b] == 0) {
			t.Errorf("%d leaves: a kid of the way %v is not there", n, p)
		}
	}
}

func TestWays(t *testing.T) {
	for n := range uint64(10) {
		for set := range 1 << n {
			var claims []uint64
			for k := range n {
				if set>>k&1 == 1 {
					claims = append(claims, k)
				}
			}
			check(t, n, claims)
		}
	}
	r := rand.New(rand.NewSource(1))
	for _, n := range []uint64{33, 255, 256, 1000, 4095, 1<<19 + 12345, most - 1, most} {
		check(t, n, nil)
		check(t, n, []uint64{0})
		check(t, n, []uint64{n - 1})
		for range 10 {
			var claims []uint64
			for range 1 + r.Intn(256) {
				claims = append(claims, r.Uint64()%n)
			}
			slices.Sort(claims)
			check(t, n, slices.Compact(claims))
		}
	}
}

func rise(first uint64, n int) []uint64 {
	var l []uint64
	for i := range n {
		l = append(l, first+uint64(i))
	}
	return l
}

func TestWaysOfWhatMayNotBe(t *testing.T) {
	for i, c := range []struct {
		n      uint64
		claims []uint64
	}{
		{most + 1, nil}, {most + 1, []uint64{0}}, {2 * most, []uint64{5}}, {math.MaxUint64, nil}, {math.MaxUint64, []uint64{1}},
		{0, []uint64{0}}, {1, []uint64{1}}, {4, []uint64{4}}, {5, []uint64{5}}, {5, []uint64{0, 6}}, {5, []uint64{math.MaxUint64}}, {5, []uint64{1 << 32}}, {most, []uint64{most}},
		{9, []uint64{1, 1}}, {9, []uint64{2, 1}}, {9, []uint64{0, 3, 3}}, {9, []uint64{0, 8, 4}}, {9, []uint64{5, 6, 0}}, {9, []uint64{9, 1}},
		{1000, rise(0, 257)}, {1000, rise(700, 300)}, {most, rise(0, 5000)}, {1000, slices.Repeat([]uint64{1}, 257)},
	} {
		_, e1 := ways(t, c.n, c.claims)
		_, e2 := needs(t, c.n, c.claims)
		if e1 != api.ErrArg || e2 != api.ErrArg {
			t.Errorf("%d: %d, %d", i, e1, e2)
		}
	}
	check(t, 1000, rise(0, 256))
	check(t, 256, rise(0, 256))
	check(t, 1000, rise(744, 256))
}

// The rules that hold everywhere: what is handed in stays as it is, what is answered is new memory.
func TestMemory(t *testing.T) {
	room := rise(3, 20)
	was := slices.Clone(room)
	for _, f := range []func() []api.Place{
		func() []api.Place { return place.Trees(1234) },
		func() []api.Place { l, _ := place.Ways(1234, room[:9]); return l },
		func() []api.Place { l, _ := place.Needs(1234, room[:9]); return l },
	} {
		one, two := f(), f()
		want := slices.Clone(two)
		for i := range one[:cap(one)] {
			one[:cap(one)][i] = at(99, 99)
		}
		if !slices.Equal(two, want) || !slices.Equal(f(), want) {
			t.Error("two answers share memory")
		}
	}
	if !slices.Equal(room, was) {
		t.Error("what was handed in has changed")
	}
}
