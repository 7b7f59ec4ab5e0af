package clash_test

import (
	"bytes"
	"math/rand"
	"slices"
	"testing"

	"moneyer/api"
	"moneyer/clash"
	"moneyer/place"
	"moneyer/proof"
	"moneyer/sha"
	"moneyer/wood"
)

// of answers data, a byte each.
func of(text string) [][]byte {
	var l [][]byte
	for i := range len(text) {
		l = append(l, []byte{text[i]})
	}
	return l
}

// gone tells of n leaves which ones are gone.
func gone(n int, which ...uint64) []bool {
	l := make([]bool, n)
	for _, k := range which {
		l[k] = true
	}
	return l
}

// forest answers the forest of all data.
func forest(all [][]byte, gone []bool) *wood.Wood {
	w := wood.New()
	for i, data := range all {
		w.Add([]api.Hash{sha.Leaf(data)})
		if gone[i] {
			w.Take([]uint64{uint64(i)})
		}
	}
	return w
}

func sameStump(a, b api.Stump) bool { return a.N == b.N && slices.Equal(a.Roots, b.Roots) }

func noPair(p api.Pair) bool { return len(p.A) == 0 && len(p.B) == 0 }

func find(t *testing.T, all [][]byte, gone []bool, claims [][]byte, p api.Proof, held []api.Held) (api.Pair, bool) {
	t.Helper()
	x, ok := clash.Find(all, gone, claims, p, held)
	if !ok && !noPair(x) {
		t.Errorf("Find = %v, %t", x, ok)
	}
	return x, ok
}

// The chapter's examples.
func TestExamples(t *testing.T) {
	all := of("ab")
	p, _ := proof.Prove(forest(all, gone(2)), []uint64{0}, nil)
	if x, ok := find(t, all, gone(2), of("a"), p, nil); ok {
		t.Errorf("Find = %v", x)
	}
	for _, c := range []struct {
		all, claims string
		gone        []bool
		want        bool
	}{{"ab", "aa", gone(2), false}, {"aa", "aa", gone(2), true}, {"ab", "a", gone(2, 0), false}} {
		if clash.Inside(of(c.all), c.gone, of(c.claims)) != c.want {
			t.Errorf("Inside(%s, %s)", c.all, c.claims)
		}
	}
}

// P19.1

func TestStump(t *testing.T) {
	r := rand.New(rand.NewSource(1))
	for n := range 40 {
		all, g := of(""), gone(n)
		for i := range n {
			all = append(all, bytes.Repeat([]byte{byte(i)}, i%4))
			g[i] = r.Intn(3) == 0
		}
		if s, e := clash.Stump(all, g); !sameStump(s, forest(all, g).Stump()) || e != api.OK {
			t.Errorf("Stump of %d = %v, %d", n, s, e)
		}
		for i, other := range [][]bool{gone(n + 1), g[:max(n-1, 0)], gone(2*n + 5)} {
			if n == 0 && i == 1 {
				continue
			}
			if s, e := clash.Stump(all, other); s.N != 0 || len(s.Roots) != 0 || e != api.ErrArg {
				t.Errorf("Stump of %d, %d = %v, %d", n, len(other), s, e)
			}
			if clash.Inside(all, other, nil) || clash.Inside(all, other, all) {
				t.Errorf("Inside of %d, %d", n, len(other))
			}
			if _, ok := find(t, all, other, nil, api.Proof{}, nil); ok {
				t.Errorf("Find of %d, %d", n, len(other))
			}
		}
	}
}

func TestMost(t *testing.T) {
	most := make([][]byte, api.MaxLeaves+1)
	g := make([]bool, api.MaxLeaves+1)
	if s, e := clash.Stump(most, g); s.N != 0 || len(s.Roots) != 0 || e != api.ErrArg {
		t.Errorf("Stump of too many = %v, %d", s, e)
	}
	if _, ok := find(t, most, g, nil, api.Proof{}, nil); ok {
		t.Error("Find of too many")
	}
	h := sha.Leaf(nil)
	for range 20 {
		h = sha.Pair(h, h)
	}
	if s, e := clash.Stump(most[1:], g[1:]); !sameStump(s, api.Stump{N: api.MaxLeaves, Roots: []api.Node{{Is: true, H: h}}}) || e != api.OK {
		t.Errorf("Stump of the most = %v, %d", s, e)
	}
}

func TestInside(t *testing.T) {
	for _, c := range []struct {
		all    string
		gone   []uint64
		claims string
		want   bool
	}{
		{"", nil, "", true}, {"abc", nil, "", true}, {"abc", []uint64{0, 1, 2}, "", true}, {"", nil, "a", false},
		{"abc", nil, "cab", true}, {"abc", nil, "abcd", false}, {"abc", nil, "abca", false}, {"abca", nil, "aabc", true}, {"abca", nil, "aaabc", false},
		{"abca", []uint64{0}, "a", true}, {"abca", []uint64{3}, "a", true}, {"abca", []uint64{3}, "aa", false}, {"abca", []uint64{0, 3}, "a", false}, {"abca", []uint64{0, 3}, "bc", true},
	} {
		if clash.Inside(of(c.all), gone(len(c.all), c.gone...), of(c.claims)) != c.want {
			t.Errorf("Inside(%s, %v, %s) is not %t", c.all, c.gone, c.claims, c.want)
		}
	}
	// Data of any length, none too; and none is the same as no bytes.
	all := [][]byte{{}, {0}, {0, 0}, nil}
	if !clash.Inside(all, gone(4), [][]byte{nil, {}}) || clash.Inside(all, gone(4), [][]byte{nil, {}, nil}) || clash.Inside(all, gone(4), [][]byte{{0, 0, 0}}) || clash.Inside(all, gone(4, 0, 3), [][]byte{nil}) {
		t.Error("Inside of data without bytes")
	}
}

func TestText(t *testing.T) {
	for _, data := range [][]byte{nil, {0}, {1}, {5, 6, 7}, make([]byte, 1000)} {
		if b := clash.Text(data); !bytes.Equal(b, append([]byte{0}, data...)) || sha.Sum(b) != sha.Leaf(data) {
			t.Errorf("Text(%x) = %x", data, b)
		}
	}
}

// P19.2 and P19.3: proofs that hold, of what is so: nothing is found, and the claims are inside.
func TestWhatIsSo(t *testing.T) {
	r := rand.New(rand.NewSource(2))
	for range 1000 {
		n := r.Intn(24)
		var all [][]byte
		g := gone(n)
		var leaves []uint64
		var claims [][]byte
		for i := range n {
			all = append(all, []byte{byte(r.Intn(4)), byte(i)}[:1+r.Intn(2)])
			switch r.Intn(3) {
			case 0:
				g[i] = true
			case 1:
				leaves = append(leaves, uint64(i))
				claims = append(claims, all[i])
			}
		}
		w := forest(all, g)
		needs, _ := place.Needs(uint64(n), leaves)
		var places []api.Place
		var held []api.Held
		for _, p := range needs {
			if r.Intn(2) == 0 {
				v, _ := w.Value(p)
				places, held = append(places, p), append(held, api.Held{Place: p, Node: v})
			}
		}
		p, _ := proof.Prove(w, leaves, places)
		if x, ok := find(t, all, g, claims, p, held); ok {
			t.Fatalf("Find = %v", x)
		}
		if !clash.Inside(all, g, claims) {
			t.Fatal("the claims are not inside")
		}
		// What does not hold: nothing is found either.
		if len(claims) > 0 {
			other := slices.Clone(claims)
			other[0] = []byte{77, 77, 77}
			if x, ok := find(t, all, g, other, p, held); ok {
				t.Fatalf("Find = %v", x)
			}
			if x, ok := find(t, all, g, claims[1:], p, held); ok {
				t.Fatalf("Find = %v", x)
			}
			if x, ok := find(t, all, g, append(claims, claims[0]), p, held); ok {
				t.Fatalf("Find = %v", x)
			}
		}
	}
}

// The rules that hold everywhere: what is handed in stays as it is, what is answered is new memory.
func TestMemory(t *testing.T) {
	all, g := of("abcdefg"), gone(7, 2)
	p, _ := proof.Prove(forest(all, g), []uint64{1, 4}, []api.Place{{Row: 1, At: 3}})
	held := []api.Held{{Place: api.Place{Row: 1, At: 3}}}
	claims := of("be")
	clash.Find(all, g, claims, p, held)
	clash.Inside(all, g, claims)
	one, _ := clash.Stump(all, g)
	two, _ := clash.Stump(all, g)
	want := slices.Clone(two.Roots)
	for i := range one.Roots[:cap(one.Roots)] {
		one.Roots[:cap(one.Roots)][i] = api.Node{}
	}
	data := []byte{1, 2, 3, 4}
	text := clash.Text(data[:2])
	for i := range text[:cap(text)] {
		text[:cap(text)][i] = 99
	}
	same := func(a, b [][]byte) bool { return slices.EqualFunc(a, b, bytes.Equal) }
	if !slices.Equal(two.Roots, want) || !bytes.Equal(data, []byte{1, 2, 3, 4}) || !same(all, of("abcdefg")) || !same(claims, of("be")) || !slices.Equal(g, gone(7, 2)) {
		t.Error("memory is shared")
	}
}
