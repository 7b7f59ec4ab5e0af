package stump_test

import (
	"math"
	"math/rand"
	"slices"
	"testing"

	"moneyer/api"
	"moneyer/place"
	"moneyer/proof"
	"moneyer/sha"
	"moneyer/stump"
	"moneyer/wood"
)

func is(h api.Hash) api.Node { return api.Node{Is: true, H: h} }

func at(row uint8, n uint64) api.Place { return api.Place{Row: row, At: n} }

func hashOf(i int) api.Hash { return api.Hash{byte(i), byte(i >> 8), byte(i >> 16), 7} }

func hashes(first, n int) []api.Hash {
	var l []api.Hash
	for i := range n {
		l = append(l, hashOf(first+i))
	}
	return l
}

func sameStump(a, b api.Stump) bool { return a.N == b.N && slices.Equal(a.Roots, b.Roots) }

func noStump(s api.Stump) bool { return s.N == 0 && len(s.Roots) == 0 }

// check, add and apply call the program and hold an error's other results to be zero.
func check(t *testing.T, s api.Stump, h []api.Hash, p api.Proof, held []api.Held) ([]api.Held, api.Errno) {
	t.Helper()
	l, e := stump.Check(s, h, p, held)
	if e != api.OK && len(l) != 0 {
		t.Errorf("Check = %v, %d", l, e)
	}
	return l, e
}

func add(t *testing.T, s api.Stump, h []api.Hash) (api.Stump, []api.Held, api.Errno) {
	t.Helper()
	after, l, e := stump.Add(s, h)
	if e != api.OK && (len(l) != 0 || !noStump(after)) {
		t.Errorf("Add = %v, %v, %d", after, l, e)
	}
	return after, l, e
}

func apply(t *testing.T, s api.Stump, h []api.Hash, p api.Proof, held []api.Held, more []api.Hash) (api.Stump, []api.Held, api.Errno) {
	t.Helper()
	after, l, e := stump.Apply(s, h, p, held, more)
	if e != api.OK && (len(l) != 0 || !noStump(after)) {
		t.Errorf("Apply = %v, %v, %d", after, l, e)
	}
	return after, l, e
}

func rising(l []api.Held) bool {
	return slices.IsSortedFunc(l, func(a, b api.Held) int {
		if place.Less(a.Place, b.Place) {
			return -1
		}
		return 1
	})
}

// The chapter's examples.
func TestExamples(t *testing.T) {
	a, b := api.Hash{1}, api.Hash{2}
	one, _, e := add(t, api.Stump{}, []api.Hash{a})
	if !sameStump(one, api.Stump{N: 1, Roots: []api.Node{is(a)}}) || e != api.OK {
		t.Errorf("Add(empty, a) = %v, %d", one, e)
	}
	two, came, e := add(t, one, []api.Hash{b})
	if !sameStump(two, api.Stump{N: 2, Roots: []api.Node{is(sha.Pair(a, b))}}) || len(came) != 3 || e != api.OK {
		t.Errorf("Add(that, b) = %v, %v, %d", two, came, e)
	}
	if l, e := check(t, api.Stump{}, nil, api.Proof{}, nil); len(l) != 0 || e != api.OK {
		t.Errorf("Check(empty) = %v, %d", l, e)
	}
	claim := api.Proof{Leaves: []uint64{0}}
	if _, e := check(t, one, []api.Hash{b}, claim, nil); e != api.ErrProof {
		t.Errorf("Check of the hash b: %d", e)
	}
	s, _, e := apply(t, one, []api.Hash{a}, claim, nil, nil)
	if !sameStump(s, api.Stump{N: 1, Roots: []api.Node{{}}}) || e != api.OK {
		t.Errorf("Apply = %v, %d", s, e)
	}
}

// P18.1

func TestMay(t *testing.T) {
	for _, n := range []uint64{0, 1, 2, 3, 7, 8, 1000, api.MaxLeaves - 1, api.MaxLeaves} {
		trees := len(place.Trees(n))
		for many := range 24 {
			for _, root := range []api.Node{{}, is(api.Hash{1}), {H: api.Hash{1}}} {
				s := api.Stump{N: n, Roots: slices.Repeat([]api.Node{root}, many)}
				if stump.May(s) != (many == trees) {
					t.Errorf("May of %d leaves, %d roots", n, many)
				}
			}
		}
	}
	for _, n := range []uint64{api.MaxLeaves + 1, 2 * api.MaxLeaves, math.MaxUint64} {
		for many := range 24 {
			if stump.May(api.Stump{N: n, Roots: make([]api.Node, many)}) {
				t.Errorf("May of %d leaves, %d roots", n, many)
			}
		}
	}
}

func TestJoin(t *testing.T) {
	nodes := []api.Node{{}, {H: api.Hash{1}}, is(api.Hash{}), is(api.Hash{1}), is(api.Hash{2}), {H: api.Hash{31: 255}}}
	for _, a := range nodes {
		for _, b := range nodes {
			if v := stump.Join(a, b); v != wood.Join(a, b) {
				t.Errorf("Join(%v, %v) = %v", a, b, v)
			}
		}
	}
}

func TestSame(t *testing.T) {
	a := api.Stump{N: 3, Roots: []api.Node{is(api.Hash{1}), {}}}
	for _, b := range []api.Stump{{N: 3, Roots: []api.Node{is(api.Hash{1}), {}}}, {N: 3, Roots: []api.Node{is(api.Hash{1}), {H: api.Hash{9}}}}} {
		if !stump.Same(a, b) || !stump.Same(b, a) {
			t.Errorf("%v is not the same", b)
		}
	}
	for _, b := range []api.Stump{
		{N: 4, Roots: a.Roots}, {N: 3}, {N: 3, Roots: a.Roots[:1]}, {N: 3, Roots: []api.Node{is(api.Hash{2}), {}}}, {N: 3, Roots: []api.Node{is(api.Hash{1}), is(api.Hash{})}},
		{N: 3, Roots: []api.Node{{H: api.Hash{1}}, {}}}, {N: 3, Roots: []api.Node{{}, is(api.Hash{1})}}, {N: 3, Roots: []api.Node{is(api.Hash{1}), {}, {}}},
	} {
		if stump.Same(a, b) || stump.Same(b, a) {
			t.Errorf("%v is the same", b)
		}
	}
	if !stump.Same(api.Stump{}, api.Stump{Roots: []api.Node{}}) {
		t.Error("no roots are not the same")
	}
}

// A trial is a forest, and claims of some of its leaves.
type trial struct {
	w      *wood.Wood
	s      api.Stump
	leaves []uint64
	h      []api.Hash
}

func try(r *rand.Rand, most int) trial {
	n := r.Intn(most)
	x := trial{w: wood.New()}
	x.w.Add(hashes(0, n))
	var gone []uint64
	share := 1 + r.Intn(5)
	for k := range n {
		switch r.Intn(share + 1) {
		case 0:
			gone = append(gone, uint64(k))
		case 1:
			if len(x.leaves) < api.MaxClaims {
				x.leaves = append(x.leaves, uint64(k))
				x.h = append(x.h, hashOf(k))
			}
		}
	}
	x.w.Take(gone)
	x.s = x.w.Stump()
	return x
}

// holds picks some of the places that are needed, with their values, among others.
func holds(r *rand.Rand, x trial) ([]api.Held, []api.Place) {
	needs, _ := place.Needs(x.s.N, x.leaves)
	var l []api.Held
	var places []api.Place
	for _, p := range needs {
		if r.Intn(2) == 0 {
			v, _ := x.w.Value(p)
			if !v.Is {
				// What is none has a hash that does not count.
				v.H = api.Hash{byte(r.Intn(3))}
			}
			l = append(l, api.Held{Place: p, Node: v})
			places = append(places, p)
		}
	}
	// The first one in the list counts.
	for _, p := range places {
		l = append(l, api.Held{Place: p, Node: is(api.Hash{99})})
	}
	l = append(l, api.Held{Place: at(200, 5), Node: is(api.Hash{98})})
	return l, places
}

// values says what a forest has at places, rising, each once.
func values(w *wood.Wood, places ...[]api.Place) []api.Held {
	var l []api.Held
	for _, p := range slices.Concat(places...) {
		v, _ := w.Value(p)
		if !slices.Contains(l, api.Held{Place: p, Node: v}) {
			l = append(l, api.Held{Place: p, Node: v})
		}
	}
	slices.SortFunc(l, func(a, b api.Held) int {
		if place.Less(a.Place, b.Place) {
			return -1
		}
		return 1
	})
	return l
}

// came says at which places values come to be, or go into others, where leaves are added.
func came(n uint64, more int) []api.Place {
	var l []api.Place
	for range more {
		p := at(0, n)
		l = append(l, p)
		for p.At%2 == 1 {
			l = append(l, place.Neighbour(p), place.Parent(p))
			p = place.Parent(p)
		}
		n++
	}
	return l
}

// P18.1 to P18.4, held against the forest.
func TestAgainstTheForest(t *testing.T) {
	r := rand.New(rand.NewSource(1))
	for i := range 3000 {
		most := 40
		if i%100 == 0 {
			most = 1500
		}
		x := try(r, most)
		held, places := holds(r, x)
		p, e := proof.Prove(x.w, x.leaves, places)
		if e != api.OK {
			t.Fatalf("Prove: %d", e)
		}
		ways, _ := place.Ways(x.s.N, x.leaves)
		needs, _ := place.Needs(x.s.N, x.leaves)
		if l, e := check(t, x.s, x.h, p, held); !slices.Equal(l, values(x.w, ways, needs)) || e != api.OK {
			t.Fatalf("Check = %v, %d", l, e)
		}
		more := hashes(100000+i*10, r.Intn(7))
		after := x.w.Copy()
		after.Take(x.leaves)
		after.Add(more)
		s, l, e := apply(t, x.s, x.h, p, held, more)
		if !sameStump(s, after.Stump()) || !slices.Equal(l, values(after, ways, needs, came(x.s.N, len(more)))) || !rising(l) || e != api.OK {
			t.Fatalf("Apply = %v, %v, %d", s, l, e)
		}
		grown := x.w.Copy()
		grown.Add(more)
		s, l, e = add(t, x.s, more)
		if !sameStump(s, grown.Stump()) || !slices.Equal(l, values(grown, came(x.s.N, len(more)))) || e != api.OK {
			t.Fatalf("Add = %v, %v, %d", s, l, e)
		}
		refused(t, r, x, p, held)
	}
}

// refused changes one thing of a proof that holds.
func refused(t *testing.T, r *rand.Rand, x trial, p api.Proof, held []api.Held) {
	t.Helper()
	bad := func(what string, s api.Stump, h []api.Hash, p api.Proof, held []api.Held, want api.Errno) {
		t.Helper()
		_, e1 := check(t, s, h, p, held)
		_, _, e2 := apply(t, s, h, p, held, hashes(0, 3))
		if e1 != want || e2 != want {
			t.Fatalf("%s: Check: %d, Apply: %d", what, e1, e2)
		}
	}
	other := func() api.Proof {
		return api.Proof{Leaves: slices.Clone(p.Leaves), Values: slices.Clone(p.Values)}
	}
	q := other()
	q.Values = append(q.Values, api.Given{Kind: api.GivenNone})
	bad("a value more", x.s, x.h, q, held, api.ErrProof)
	bad("a hash more", x.s, append(slices.Clone(x.h), api.Hash{}), p, held, api.ErrProof)
	q = other()
	q.Leaves = append(q.Leaves, x.s.N)
	bad("a leaf that is not there", x.s, append(slices.Clone(x.h), api.Hash{}), q, held, api.ErrProof)
	if len(p.Values) > 0 {
		k := r.Intn(len(p.Values))
		q := other()
		q.Values = q.Values[1:]
		bad("a value less", x.s, x.h, q, held, api.ErrProof)
		for _, kind := range []uint8{0, 4, 255} {
			q := other()
			q.Values[k].Kind = kind
			bad("a kind that is none", x.s, x.h, q, held, api.ErrProof)
		}
		q = other()
		q.Values[k] = api.Given{Kind: api.GivenHash, H: api.Hash{99, 99}}
		bad("another value", x.s, x.h, q, held, api.ErrProof)
		q = other()
		q.Values[k] = api.Given{Kind: api.GivenHeld}
		bad("what is not held", x.s, x.h, q, nil, api.ErrProof)
		needs, _ := place.Needs(x.s.N, x.leaves)
		bad("another value that is held", x.s, x.h, q, append([]api.Held{{Place: needs[k], Node: is(api.Hash{97})}}, held...), api.ErrProof)
		if v, _ := x.w.Value(needs[k]); v.Is {
			bad("none is held", x.s, x.h, q, append([]api.Held{{Place: needs[k], Node: api.Node{H: v.H}}}, held...), api.ErrProof)
			q = other()
			q.Values[k] = api.Given{Kind: api.GivenNone, H: v.H}
			bad("none is given", x.s, x.h, q, held, api.ErrProof)
		}
	}
	if len(x.h) > 0 {
		k := r.Intn(len(x.h))
		h := slices.Clone(x.h)
		h[k][31]++
		bad("another hash", x.s, h, p, held, api.ErrProof)
		bad("a hash less", x.s, x.h[1:], p, held, api.ErrProof)
		q := other()
		q.Leaves = append(q.Leaves, q.Leaves[0])
		bad("leaves that do not rise", x.s, append(slices.Clone(x.h), x.h[0]), q, held, api.ErrProof)
		tree, _ := place.Tree(x.s.N, x.leaves[k])
		s := api.Stump{N: x.s.N, Roots: slices.Clone(x.s.Roots)}
		i := slices.Index(place.Trees(x.s.N), tree)
		s.Roots[i].H[0]++
		bad("another root", s, x.h, p, held, api.ErrProof)
		s.Roots[i] = api.Node{H: x.s.Roots[i].H}
		bad("a root that is none", s, x.h, p, held, api.ErrProof)
	}
	s := api.Stump{N: x.s.N, Roots: append(slices.Clone(x.s.Roots), api.Node{})}
	bad("a root more", s, x.h, p, held, api.ErrArg)
	// ErrArg comes ahead of all else.
	bad("a root more, a hash more", s, append(slices.Clone(x.h), api.Hash{}), p, held, api.ErrArg)
	if _, _, e := add(t, s, hashes(0, 2)); e != api.ErrArg {
		t.Fatalf("Add: %d", e)
	}
}

// Of roots that are none H does not count, and what is answered has none.
func TestRootsThatAreNone(t *testing.T) {
	a := api.Hash{5}
	s := api.Stump{N: 7, Roots: []api.Node{{H: api.Hash{1}}, is(api.Hash{2}), {H: api.Hash{3}}}}
	clean := api.Stump{N: 7, Roots: []api.Node{{}, is(api.Hash{2}), {}}}
	after, l, e := apply(t, s, nil, api.Proof{}, nil, nil)
	if !sameStump(after, clean) || len(l) != 0 || e != api.OK {
		t.Errorf("Apply = %v, %v, %d", after, l, e)
	}
	after, l, e = add(t, s, []api.Hash{a})
	want := []api.Held{{Place: at(0, 6)}, {Place: at(0, 7), Node: is(a)}, {Place: at(1, 2), Node: is(api.Hash{2})}, {Place: at(1, 3), Node: is(a)}, {Place: at(2, 0)}, {Place: at(2, 1), Node: is(sha.Pair(api.Hash{2}, a))}, {Place: at(3, 0), Node: is(sha.Pair(api.Hash{2}, a))}}
	if !sameStump(after, api.Stump{N: 8, Roots: []api.Node{is(sha.Pair(api.Hash{2}, a))}}) || !slices.Equal(l, want) || e != api.OK {
		t.Errorf("Add = %v, %v, %d", after, l, e)
	}
	after, _, e = add(t, s, nil)
	if !sameStump(after, clean) || e != api.OK {
		t.Errorf("Add of none = %v, %d", after, e)
	}
	// What is needed and none, given in each way that there is.
	one := api.Stump{N: 2, Roots: []api.Node{is(a)}}
	for i, g := range []api.Given{{Kind: api.GivenNone}, {Kind: api.GivenNone, H: api.Hash{1}}, {Kind: api.GivenHeld}, {Kind: api.GivenHeld, H: api.Hash{1}}} {
		held := []api.Held{{Place: at(0, 1), Node: api.Node{H: api.Hash{4}}}, {Place: at(0, 1), Node: is(api.Hash{4})}}
		l, e := check(t, one, []api.Hash{a}, api.Proof{Leaves: []uint64{0}, Values: []api.Given{g}}, held)
		if !slices.Equal(l, []api.Held{{Place: at(0, 0), Node: is(a)}, {Place: at(0, 1)}, {Place: at(1, 0), Node: is(a)}}) || e != api.OK {
			t.Errorf("%d: Check = %v, %d", i, l, e)
		}
	}
}

func TestLimits(t *testing.T) {
	full := api.Stump{N: api.MaxLeaves, Roots: []api.Node{is(api.Hash{1})}}
	if s, l, e := add(t, full, nil); !sameStump(s, full) || len(l) != 0 || e != api.OK {
		t.Errorf("Add of none to the most: %d", e)
	}
	if _, _, e := add(t, full, hashes(0, 1)); e != api.ErrLimit {
		t.Errorf("Add of one to the most: %d", e)
	}
	if _, _, e := apply(t, full, nil, api.Proof{}, nil, hashes(0, 1)); e != api.ErrLimit {
		t.Errorf("Apply of one to the most: %d", e)
	}
	// What Check refuses is told ahead of it.
	if _, _, e := apply(t, full, hashes(0, 1), api.Proof{}, nil, hashes(0, 1)); e != api.ErrProof {
		t.Errorf("Apply of what does not hold to the most: %d", e)
	}
	var roots []api.Node
	for i := range 20 {
		roots = append(roots, is(hashOf(i)))
	}
	near := api.Stump{N: api.MaxLeaves - 1, Roots: roots}
	want := is(hashOf(77))
	for _, root := range slices.Backward(roots) {
		want = stump.Join(root, want)
	}
	if s, l, e := add(t, near, hashes(77, 1)); !sameStump(s, api.Stump{N: api.MaxLeaves, Roots: []api.Node{want}}) || len(l) != 41 || e != api.OK {
		t.Errorf("Add up to the most = %v, %d, %d", s, len(l), e)
	}
	if _, _, e := add(t, near, hashes(0, 2)); e != api.ErrLimit {
		t.Errorf("Add of one too many: %d", e)
	}
	if _, _, e := add(t, api.Stump{}, make([]api.Hash, api.MaxLeaves+1)); e != api.ErrLimit {
		t.Errorf("Add of too many: %d", e)
	}
	for _, s := range []api.Stump{{N: 1}, {N: api.MaxLeaves + 1}, {N: math.MaxUint64}, {N: 0, Roots: []api.Node{{}}}} {
		_, e1 := check(t, s, nil, api.Proof{}, nil)
		_, _, e2 := add(t, s, make([]api.Hash, 3))
		_, _, e3 := apply(t, s, nil, api.Proof{}, nil, nil)
		if e1 != api.ErrArg || e2 != api.ErrArg || e3 != api.ErrArg {
			t.Errorf("of %v: %d, %d, %d", s, e1, e2, e3)
		}
	}
}

// Claims above MaxClaims, though all of them are right.
func TestTooManyClaims(t *testing.T) {
	w := wood.New()
	w.Add(hashes(0, 512))
	var leaves []uint64
	for i := range 257 {
		leaves = append(leaves, uint64(i))
	}
	if _, e := check(t, w.Stump(), hashes(0, 257), api.Proof{Leaves: leaves, Values: make([]api.Given, 9)}, nil); e != api.ErrProof {
		t.Errorf("Check of 257 claims: %d", e)
	}
	p, _ := proof.Prove(w, leaves[:256], nil)
	if _, e := check(t, w.Stump(), hashes(0, 256), p, nil); e != api.OK {
		t.Errorf("Check of 256 claims: %d", e)
	}
}

// The rules that hold everywhere: what is handed in stays as it is, what is answered is new memory.
func TestMemory(t *testing.T) {
	r := rand.New(rand.NewSource(5))
	for range 200 {
		x := try(r, 30)
		held, places := holds(r, x)
		p, _ := proof.Prove(x.w, x.leaves, places)
		more := hashes(1000, 9)
		s := api.Stump{N: x.s.N, Roots: append(append(make([]api.Node, 0, 40), x.s.Roots...), is(api.Hash{55}))[:len(x.s.Roots)]}
		wasRoots := slices.Clone(s.Roots[:len(s.Roots)+1])
		wasHeld, wasH, wasLeaves, wasValues := slices.Clone(held), slices.Clone(x.h), slices.Clone(p.Leaves), slices.Clone(p.Values)
		run := func() ([]api.Held, api.Stump, []api.Held, api.Stump, []api.Held) {
			a, _ := stump.Check(s, x.h, p, held)
			b, c, _ := stump.Add(s, more[:4])
			d, f, _ := stump.Apply(s, x.h, p, held, more[:4])
			return a, b, c, d, f
		}
		a1, b1, c1, d1, f1 := run()
		a2, b2, c2, d2, f2 := run()
		keep := [][]api.Held{slices.Clone(a2), slices.Clone(c2), slices.Clone(f2)}
		keepRoots := [][]api.Node{slices.Clone(b2.Roots), slices.Clone(d2.Roots)}
		for _, l := range [][]api.Held{a1, c1, f1} {
			for i := range l[:cap(l)] {
				l[:cap(l)][i] = api.Held{}
			}
		}
		for _, l := range [][]api.Node{b1.Roots, d1.Roots} {
			for i := range l[:cap(l)] {
				l[:cap(l)][i] = api.Node{H: api.Hash{3}}
			}
		}
		if !slices.Equal(a2, keep[0]) || !slices.Equal(c2, keep[1]) || !slices.Equal(f2, keep[2]) || !slices.Equal(b2.Roots, keepRoots[0]) || !slices.Equal(d2.Roots, keepRoots[1]) {
			t.Fatal("two answers share memory")
		}
		if !slices.Equal(s.Roots[:len(s.Roots)+1], wasRoots) || !slices.Equal(held, wasHeld) || !slices.Equal(x.h, wasH) || !slices.Equal(p.Leaves, wasLeaves) || !slices.Equal(p.Values, wasValues) || !slices.Equal(more, hashes(1000, 9)) {
			t.Fatal("what was handed in has changed")
		}
	}
}
