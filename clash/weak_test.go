package clash_test

import (
	"bytes"
	"math/rand"
	"os"
	"os/exec"
	"path/filepath"
	"slices"
	"testing"

	"moneyer/api"
	"moneyer/clash"
	"moneyer/place"
	"moneyer/sha"
	"moneyer/stump"
)

// Nothing is presumed of the hash: so that there is something to find, the tests here are run once more in a copy of the project in which a leaf's and a pair's hash have just three bits.

const weakSha = `package sha

import (
	"crypto/sha256"

	"moneyer/api"
)

func Sum(b []byte) api.Hash { return sha256.Sum256(b) }

func Twice(b []byte) api.Hash { h := Sum(b); return Sum(h[:]) }

func weak(b []byte) api.Hash { h := Sum(b); return api.Hash{h[0] & 7} }

func Leaf(b []byte) api.Hash { return weak(append([]byte{0}, b...)) }

func Pair(a, b api.Hash) api.Hash { return weak(append(append([]byte{1}, a[:]...), b[:]...)) }
`

func isWeak() bool {
	h := sha.Leaf(nil)
	return bytes.Equal(h[1:], make([]byte, 31))
}

func TestInACopyOfWeakHashes(t *testing.T) {
	if isWeak() {
		t.Skip("this is the copy")
	}
	if _, err := exec.LookPath("go"); err != nil {
		t.Skip(err)
	}
	dir := t.TempDir()
	for _, pkg := range []string{"api", "place", "stump", "clash"} {
		files, _ := filepath.Glob(filepath.Join("..", pkg, "*.go"))
		for _, f := range files {
			b, err := os.ReadFile(f)
			if err != nil {
				t.Fatal(err)
			}
			if name := filepath.Base(f); name != "clash_test.go" {
				write(t, filepath.Join(dir, pkg, name), b)
			}
		}
	}
	mod, err := os.ReadFile(filepath.Join("..", "go.mod"))
	if err != nil {
		t.Fatal(err)
	}
	write(t, filepath.Join(dir, "go.mod"), mod)
	write(t, filepath.Join(dir, "sha", "sha.go"), []byte(weakSha))
	c := exec.Command("go", "test", "-count=1", "-run", "Weak", "./clash")
	c.Dir = dir
	c.Env = append(os.Environ(), "GOPROXY=off", "GOWORK=off", "GOFLAGS=")
	if out, err := c.CombinedOutput(); err != nil {
		t.Errorf("%v\n%s", err, out)
	}
}

func write(t *testing.T, name string, b []byte) {
	t.Helper()
	if err := os.MkdirAll(filepath.Dir(name), 0o755); err != nil {
		t.Fatal(err)
	}
	if err := os.WriteFile(name, b, 0o644); err != nil {
		t.Fatal(err)
	}
}

// A part of a tree as the words have it: none, a leaf's data, two parts, or just a hash that is believed.
type part struct {
	value       api.Node
	leaf        bool
	data        []byte
	left, right *part
}

func joined(a, b *part) *part {
	switch {
	case !a.value.Is && !b.value.Is:
		return &part{}
	case !b.value.Is:
		return a
	case !a.value.Is:
		return b
	}
	return &part{value: api.Node{Is: true, H: sha.Pair(a.value.H, b.value.H)}, left: a, right: b}
}

func leafPart(data []byte) *part {
	return &part{value: api.Node{Is: true, H: sha.Leaf(data)}, leaf: true, data: data}
}

func (p *part) text() []byte {
	if p.leaf {
		return append([]byte{0}, p.data...)
	}
	return append(append([]byte{1}, p.left.value.H[:]...), p.right.value.H[:]...)
}

// clashOf says what the first two unlike texts are.
func clashOf(claimed, there *part) *api.Pair {
	if !claimed.leaf && claimed.left == nil {
		return nil
	}
	if !bytes.Equal(claimed.text(), there.text()) {
		return &api.Pair{A: claimed.text(), B: there.text()}
	}
	if claimed.leaf {
		return nil
	}
	if x := clashOf(claimed.left, there.left); x != nil {
		return x
	}
	return clashOf(claimed.right, there.right)
}

// A case is data, claims of it that are mostly lies, and a proof that holds as often as it happens to.
type attempt struct {
	all    [][]byte
	gone   []bool
	claims [][]byte
	p      api.Proof
	held   []api.Held
}

func lie(r *rand.Rand) attempt {
	n := 1 + r.Intn(12)
	var x attempt
	some := func() []byte { return []byte{byte(r.Intn(40)), 1, 2}[:r.Intn(3)] }
	for range n {
		x.all = append(x.all, some())
		x.gone = append(x.gone, r.Intn(3) == 0)
	}
	for i, data := range x.all {
		if r.Intn(4) > 0 {
			continue
		}
		if r.Intn(2) == 0 {
			data = some()
		}
		x.p.Leaves = append(x.p.Leaves, uint64(i))
		x.claims = append(x.claims, data)
	}
	needs, _ := place.Needs(uint64(n), x.p.Leaves)
	for _, p := range needs {
		g := api.Given{Kind: api.GivenNone}
		switch r.Intn(3) {
		case 0:
			g = api.Given{Kind: api.GivenHash, H: api.Hash{byte(r.Intn(8))}}
		case 1:
			g = api.Given{Kind: api.GivenHeld}
			x.held = append(x.held, api.Held{Place: p, Node: api.Node{Is: r.Intn(3) > 0, H: api.Hash{byte(r.Intn(8))}}})
		}
		x.p.Values = append(x.p.Values, g)
	}
	return x
}

// trees answers the parts of all trees, of what is there and of what is claimed, and whether something is claimed in each.
func (x attempt) trees() (there, claimed []*part, is []bool) {
	n := uint64(len(x.all))
	needs, _ := place.Needs(n, x.p.Leaves)
	given := map[api.Place]*part{}
	for i, p := range needs {
		v := api.Node{}
		switch x.p.Values[i].Kind {
		case api.GivenHash:
			v = api.Node{Is: true, H: x.p.Values[i].H}
		case api.GivenHeld:
			at := slices.IndexFunc(x.held, func(h api.Held) bool { return h.Place == p })
			if v = x.held[at].Node; !v.Is {
				v = api.Node{}
			}
		}
		given[p] = &part{value: v}
	}
	var isThere, isClaimed func(p api.Place) *part
	isThere = func(p api.Place) *part {
		if p.Row == 0 {
			if x.gone[p.At] {
				return &part{}
			}
			return leafPart(x.all[p.At])
		}
		a, b := place.Kids(p)
		return joined(isThere(a), isThere(b))
	}
	isClaimed = func(p api.Place) *part {
		if g := given[p]; g != nil {
			return g
		}
		if p.Row == 0 {
			return leafPart(x.claims[slices.Index(x.p.Leaves, p.At)])
		}
		a, b := place.Kids(p)
		return joined(isClaimed(a), isClaimed(b))
	}
	for _, tree := range place.Trees(n) {
		there = append(there, isThere(tree))
		within := slices.ContainsFunc(x.p.Leaves, func(leaf uint64) bool { return leaf>>tree.Row == tree.At })
		is = append(is, within)
		if within {
			claimed = append(claimed, isClaimed(tree))
		} else {
			claimed = append(claimed, nil)
		}
	}
	return there, claimed, is
}

func hashOfText(b []byte) api.Hash {
	if b[0] == 0 {
		return sha.Leaf(b[1:])
	}
	return sha.Pair(api.Hash(b[1:33]), api.Hash(b[33:65]))
}

// P19.2 and P19.3 of lies that hold.
func TestWeakFind(t *testing.T) {
	if !isWeak() {
		t.Skip("just in the copy")
	}
	r := rand.New(rand.NewSource(3))
	holds, found, kinds := 0, 0, map[string]int{}
	for range 120000 {
		x := lie(r)
		there, claimed, is := x.trees()
		var h []api.Hash
		for _, data := range x.claims {
			h = append(h, sha.Leaf(data))
		}
		s := api.Stump{N: uint64(len(x.all))}
		ok := true
		var want *api.Pair
		for i := range there {
			s.Roots = append(s.Roots, there[i].value)
			ok = ok && (!is[i] || claimed[i].value == there[i].value)
		}
		got, e := clash.Stump(x.all, x.gone)
		if e != api.OK || !stump.Same(got, s) {
			t.Fatalf("Stump = %v, %d", got, e)
		}
		if _, e := stump.Check(s, h, x.p, x.held); (e == api.OK) != ok {
			t.Fatalf("Check: %d", e)
		}
		for i := 0; ok && want == nil && i < len(there); i++ {
			if is[i] {
				want = clashOf(claimed[i], there[i])
			}
		}
		pair, is2 := clash.Find(x.all, x.gone, x.claims, x.p, x.held)
		if is2 != (want != nil) || is2 && (!bytes.Equal(pair.A, want.A) || !bytes.Equal(pair.B, want.B)) {
			t.Fatalf("Find(%v) = %v, %t, not %v", x, pair, is2, want)
		}
		if !ok {
			continue
		}
		holds++
		if !is2 {
			if !clash.Inside(x.all, x.gone, x.claims) {
				t.Fatalf("nothing is found, and the claims %v are not inside", x)
			}
			continue
		}
		found++
		kinds[string([]byte{'0' + pair.A[0], '0' + pair.B[0]})]++
		if bytes.Equal(pair.A, pair.B) || hashOfText(pair.A) != hashOfText(pair.B) {
			t.Fatalf("Find = %v", pair)
		}
	}
	if holds < 4000 || found < 400 || kinds["00"] < 20 || kinds["01"] < 20 || kinds["10"] < 20 || kinds["11"] < 20 {
		t.Errorf("%d hold, %d are found, %v", holds, found, kinds)
	}
}
