package merkle_test

import (
	"bytes"
	"math"
	"slices"
	"testing"

	"moneyer/api"
	"moneyer/merkle"
	"moneyer/sha"
)

func pair(a, b api.Hash) api.Hash { return sha.Twice(append(bytes.Clone(a[:]), b[:]...)) }

// of answers hashes, one for each byte: the same for the same byte.
func of(text string) []api.Hash {
	var l []api.Hash
	for i := range len(text) {
		l = append(l, sha.Sum([]byte{text[i]}))
	}
	return l
}

// hashes answers so many hashes, all of them unlike.
func hashes(n int) []api.Hash {
	var l []api.Hash
	for i := range n {
		l = append(l, api.Hash{byte(i), byte(i >> 8), 7})
	}
	return l
}

// rows says what all rows of a list are.
func rows(l []api.Hash) [][]api.Hash {
	all := [][]api.Hash{l}
	for len(l) > 1 {
		var up []api.Hash
		for i := 0; i < len(l); i += 2 {
			if i+1 < len(l) {
				up = append(up, pair(l[i], l[i+1]))
			} else {
				up = append(up, pair(l[i], l[i]))
			}
		}
		all = append(all, up)
		l = up
	}
	return all
}

func root(t *testing.T, l []api.Hash) (api.Hash, bool) {
	t.Helper()
	h, sound := merkle.Root(l)
	if !sound && h != (api.Hash{}) {
		t.Errorf("Root of a list that is not sound: %x", h)
	}
	return h, sound
}

func way(t *testing.T, l []api.Hash, n int) ([]api.Hash, api.Errno) {
	t.Helper()
	w, e := merkle.Way(l, n)
	if e != api.OK && len(w) != 0 {
		t.Errorf("Way = %x, %d", w, e)
	}
	return w, e
}

func leads(t *testing.T, h api.Hash, n, many int, way []api.Hash) (api.Hash, api.Errno) {
	t.Helper()
	r, e := merkle.Leads(h, n, many, way)
	if e != api.OK && r != (api.Hash{}) {
		t.Errorf("Leads = %x, %d", r, e)
	}
	return r, e
}

// The chapter's examples.
func TestExamples(t *testing.T) {
	a, b, c := of("a")[0], of("b")[0], of("c")[0]
	if _, sound := root(t, nil); sound {
		t.Error("Root(none) is sound")
	}
	if h, sound := root(t, of("a")); h != a || !sound {
		t.Errorf("Root(a) = %x, %t", h, sound)
	}
	if _, sound := root(t, of("aa")); sound {
		t.Error("Root(a, a) is sound")
	}
	if h, sound := root(t, of("abb")); h != pair(pair(a, b), pair(b, b)) || !sound {
		t.Errorf("Root(a, b, b) = %x, %t", h, sound)
	}
	if h, sound := root(t, of("abc")); h != pair(pair(a, b), pair(c, c)) || !sound {
		t.Errorf("Root(a, b, c) = %x, %t", h, sound)
	}
	if w, e := way(t, of("abc"), 2); !slices.Equal(w, []api.Hash{c, pair(a, b)}) || e != api.OK {
		t.Errorf("Way(a b c, 2) = %x, %d", w, e)
	}
	if _, e := way(t, of("abc"), 3); e != api.ErrArg {
		t.Errorf("Way(a b c, 3): %d", e)
	}
}

// P9.1

func TestRoot(t *testing.T) {
	for n := 1; n <= 70; n++ {
		l := hashes(n)
		all := rows(l)
		if h, sound := root(t, l); h != all[len(all)-1][0] || !sound {
			t.Errorf("Root of %d: %x, %t", n, h, sound)
		}
	}
	if h, sound := root(t, []api.Hash{{}}); h != (api.Hash{}) || !sound {
		t.Errorf("Root of the zero hash: %x, %t", h, sound)
	}
	for _, text := range []string{"abb", "aba", "abba", "abbc", "abcab", "abcaa", "abcdeab", "abcdefa", "abcdefga"} {
		if _, sound := root(t, of(text)); !sound {
			t.Errorf("%s is not sound", text)
		}
	}
	for _, text := range []string{"", "aa", "aab", "abcc", "aabb", "abab", "ababc", "abcdabcd", "abcdabcde", "abcdeff", "abcdefef", "abcdecce", "abcddd", "aaa", "aaaa"} {
		want := true
		for _, row := range rows(of(text)) {
			for i := 1; i < len(row); i += 2 {
				want = want && row[i-1] != row[i]
			}
		}
		want = want && text != ""
		if _, sound := root(t, of(text)); sound != want {
			t.Errorf("%q: sound is %t", text, sound)
		}
	}
}

// P9.2

func TestWay(t *testing.T) {
	for many := 1; many <= 40; many++ {
		l := hashes(many)
		all := rows(l)
		for n := range many {
			var want []api.Hash
			at := n
			for _, row := range all[:len(all)-1] {
				if at^1 < len(row) {
					want = append(want, row[at^1])
				} else {
					want = append(want, row[at])
				}
				at /= 2
			}
			if w, e := way(t, l, n); !slices.Equal(w, want) || e != api.OK {
				t.Errorf("Way of %d of %d: %x, %d", n, many, w, e)
			}
		}
		for _, n := range []int{-1, math.MinInt, many, many + 1, math.MaxInt} {
			if _, e := way(t, l, n); e != api.ErrArg {
				t.Errorf("Way of %d of %d: %d", n, many, e)
			}
		}
	}
	if _, e := way(t, nil, 0); e != api.ErrArg {
		t.Errorf("Way(none, 0): %d", e)
	}
	// A list that is not sound has ways too.
	if w, e := way(t, of("aa"), 0); !slices.Equal(w, of("a")) || e != api.OK {
		t.Errorf("Way(a a, 0) = %x, %d", w, e)
	}
}

func TestLeads(t *testing.T) {
	for n := 1; n <= 40; n++ {
		l := hashes(n)
		want, _ := root(t, l)
		for i := range l {
			w, _ := way(t, l, i)
			if h, e := leads(t, l[i], i, n, w); h != want || e != api.OK {
				t.Errorf("Leads of %d of %d: %x, %d", i, n, h, e)
			}
			// Where it has no neighbour, whatever the way says is not asked; everywhere else it is.
			at, row := i, n
			for k := range w {
				other := slices.Clone(w)
				other[k][31]++
				h, e := leads(t, l[i], i, n, other)
				if alone := at == row-1 && at%2 == 0; (h == want) != alone || e != api.OK {
					t.Errorf("Leads of %d of %d with another way at %d: %x, %d", i, n, k, h, e)
				}
				at, row = at/2, (row+1)/2
			}
			if h, e := leads(t, api.Hash{9}, i, n, w); h == want || e != api.OK {
				t.Errorf("Leads of another hash at %d of %d: %x, %d", i, n, h, e)
			}
			_, e1 := leads(t, l[i], i, n, append(slices.Clone(w), api.Hash{}))
			if e1 != api.ErrForm {
				t.Errorf("Leads with one more: %d", e1)
			}
			if len(w) > 0 {
				if _, e := leads(t, l[i], i, n, w[1:]); e != api.ErrForm {
					t.Errorf("Leads with one less: %d", e)
				}
			}
		}
	}
}

func TestLeadsEdges(t *testing.T) {
	for _, c := range []struct{ n, many int }{
		{-1, 4}, {4, 4}, {5, 4}, {0, 0}, {-1, 0}, {0, -1}, {-2, -1}, {math.MinInt, 4}, {math.MaxInt, 4}, {0, math.MinInt},
		{0, 1<<20 + 1}, {0, math.MaxInt}, {math.MaxInt - 1, math.MaxInt}, {1 << 20, 1<<20 + 1}, {1 << 20, 1 << 20},
	} {
		for _, way := range [][]api.Hash{nil, make([]api.Hash, 2), make([]api.Hash, 20), make([]api.Hash, 63)} {
			if _, e := leads(t, api.Hash{1}, c.n, c.many, way); e != api.ErrArg {
				t.Errorf("Leads of %d of %d: %d", c.n, c.many, e)
			}
		}
	}
	// The most that there may be, and one less: 20 rows below the root.
	for _, many := range []int{1 << 20, 1<<20 - 1, 1<<19 + 1} {
		for _, n := range []int{0, many - 1} {
			h := api.Hash{1}
			at, row := n, many
			var way []api.Hash
			for k := range 20 {
				other := api.Hash{byte(k), 5}
				way = append(way, other)
				switch {
				case at%2 == 1:
					h = pair(other, h)
				case at == row-1:
					h = pair(h, h)
				default:
					h = pair(h, other)
				}
				at, row = at/2, (row+1)/2
			}
			if got, e := leads(t, api.Hash{1}, n, many, way); got != h || e != api.OK {
				t.Errorf("Leads of %d of %d: %x, %d", n, many, got, e)
			}
			if _, e := leads(t, api.Hash{1}, n, many, way[:19]); e != api.ErrForm {
				t.Errorf("Leads of %d of %d with 19: %d", n, many, e)
			}
		}
	}
	if _, e := leads(t, api.Hash{1}, 0, 1<<19, make([]api.Hash, 20)); e != api.ErrForm {
		t.Errorf("Leads of 2^19 with 20: %d", e)
	}
}

// P9.3: two lists that are sound, of as many, have one root just if they are the same.
func TestRootsAreUnlike(t *testing.T) {
	for n := 1; n <= 9; n++ {
		l := hashes(n)
		want, _ := root(t, l)
		for i := range l {
			other := slices.Clone(l)
			other[i][31]++
			if h, sound := root(t, other); h == want || !sound {
				t.Errorf("%d with another one at %d: %x, %t", n, i, h, sound)
			}
			for k := range i {
				other := slices.Clone(l)
				other[i], other[k] = other[k], other[i]
				if h, sound := root(t, other); h == want || !sound {
					t.Errorf("%d with %d and %d changed: %x, %t", n, i, k, h, sound)
				}
			}
		}
	}
}

// The rules that hold everywhere: what is handed in stays as it is, what is answered is new memory.
func TestMemory(t *testing.T) {
	for n := 1; n <= 9; n++ {
		room := hashes(n + 3)
		was := slices.Clone(room)
		l := room[:n]
		merkle.Root(l)
		w, _ := merkle.Way(l, 0)
		again, _ := merkle.Way(l, 0)
		merkle.Leads(l[0], 0, n, room[:len(w)])
		want := slices.Clone(again)
		for i := range w[:cap(w)] {
			w[:cap(w)][i] = api.Hash{99}
		}
		if !slices.Equal(room, was) || !slices.Equal(again, want) {
			t.Errorf("%d: memory is shared", n)
		}
	}
}
