package slim_test

import (
	"bytes"
	"math/rand"
	"os"
	"os/exec"
	"path/filepath"
	"slices"
	"strings"
	"testing"

	"moneyer/api"
	"moneyer/bridge"
	"moneyer/clash"
	"moneyer/coin"
	"moneyer/mint"
	"moneyer/sha"
)

// Nothing is presumed of the hash (P0.2): so that a slim node believes what is not so, the test here is run in a copy of the project in which a leaf's and a pair's hash have just three bits.

const weakSha = `package sha

import (
	"crypto/sha256"

	"moneyer/api"
)

func Sum(b []byte) api.Hash { return sha256.Sum256(b) }

func Twice(b []byte) api.Hash { h := Sum(b); return Sum(h[:]) }

func weak(b []byte) api.Hash { h := Sum(b); return api.Hash{h[0] & 7} }

func Leaf(b []byte) api.Hash { return weak(append([]byte{0}, b...)) }

func Pair(a, b api.Hash) api.Hash { return weak(append(append([]byte{1}, a[:]...), b[:]...)) }
`

func isWeak() bool {
	h := sha.Leaf(nil)
	return bytes.Equal(h[1:], make([]byte, 31))
}

func TestInACopyOfWeakHashes(t *testing.T) {
	if isWeak() {
		t.Skip("this is the copy")
	}
	if _, err := exec.LookPath("go"); err != nil {
		t.Skip(err)
	}
	dir := t.TempDir()
	files, _ := filepath.Glob(filepath.Join("..", "*", "*.go"))
	for _, f := range append(files, filepath.Join("..", "go.mod")) {
		name, _ := filepath.Rel("..", f)
		if strings.HasPrefix(name, "sha"+string(filepath.Separator)) || strings.HasSuffix(name, "_test.go") && filepath.Dir(name) != "slim" {
			continue
		}
		b, err := os.ReadFile(f)
		if err != nil {
			t.Fatal(err)
		}
		write(t, filepath.Join(dir, name), b)
	}
	write(t, filepath.Join(dir, "sha", "sha.go"), []byte(weakSha))
	c := exec.Command("go", "test", "-count=1", "-run", "Weak", "./slim")
	c.Dir = dir
	c.Env = append(os.Environ(), "GOPROXY=off", "GOWORK=off", "GOFLAGS=")
	if out, err := c.CombinedOutput(); err != nil {
		t.Errorf("%v\n%s", err, out)
	}
}

func write(t *testing.T, name string, b []byte) {
	t.Helper()
	if err := os.MkdirAll(filepath.Dir(name), 0o755); err != nil {
		t.Fatal(err)
	}
	if err := os.WriteFile(name, b, 0o644); err != nil {
		t.Fatal(err)
	}
}

// A belief is what a slim node was handed and took: what was there, what was claimed, and by what.
type belief struct {
	all    [][]byte
	gone   []bool
	claims [][]byte
	proof  api.Proof
	held   []api.Held
}

func (x belief) clashes() bool {
	_, ok := clash.Find(x.all, x.gone, x.claims, x.proof, x.held)
	return ok
}

// lie answers the data of a coin with other worth, or another lock, that mostly has the same weak hash.
func lie(r *rand.Rand, data []byte) []byte {
	for range r.Intn(60) {
		c, e := coin.Read(data)
		if e != api.OK {
			return data
		}
		c.Value += uint64(1 + r.Intn(3))
		c.Base = c.Base && r.Intn(2) == 0
		if r.Intn(2) == 0 {
			c.Lock = []byte{1, byte(1 + r.Intn(100))}
		}
		x, _ := coin.Put(c)
		if sha.Leaf(x) == sha.Leaf(data) {
			return x
		}
	}
	return data
}

// greedy answers a block that spends some coins, and makes somewhat more of them, now and then.
func greedy(m *mint.Model, r *rand.Rand) api.Block {
	c, _ := m.Tree.Ctx(m.Tree.Best())
	txs := []api.Tx{mint.First(c.Height, mint.Free(api.Subsidy/8, uint64(r.Intn(9)))...)}
	for _, one := range m.Coins(m.Tree.Best()) {
		if len(txs) > 2 || r.Intn(2) == 0 || one.Point.Height+api.Maturity > c.Height && r.Intn(3) > 0 {
			continue
		}
		txs = append(txs, mint.Spend([]api.Coin{one}, mint.Free(one.Value/2, one.Value-one.Value/2+uint64(r.Intn(3)))...))
	}
	return mint.Block(c, txs...)
}

func TestWeakWitness(t *testing.T) {
	if !isWeak() {
		t.Skip("just in the copy")
	}
	alike, fooled, refused := 0, 0, 0
	for seed := range int64(300) {
		r := rand.New(rand.NewSource(seed))
		w := newSide(t)
		s := open(t, device(t, 4096), 2*r.Intn(40))
		// What a full node is that is handed just the blocks to which the slim node does not say SaidProof.
		m := mint.NewModel()
		var beliefs []belief
		for range 40 {
			b := greedy(m, r)
			_, data, p, e := bridge.Unpack(w.proving(b, held(s, b)))
			ok(t, "Unpack", e, api.OK)
			for i := range data {
				if r.Intn(2) == 0 {
					data[i] = lie(r, data[i])
				}
			}
			for i := range p.Values {
				if p.Values[i].Kind == api.GivenHash && r.Intn(3) == 0 {
					p.Values[i].H = api.Hash{byte(r.Intn(8))}
				}
			}
			x := belief{claims: data, proof: p}
			parent, _ := w.m.Tree.Find(b.Head.Prev)
			coins, gone, _ := w.b.Leaves(parent)
			for _, c := range coins {
				text, _ := coin.Put(c)
				x.all = append(x.all, text)
			}
			x.gone = gone
			if id, _ := s.Tip(); id == b.Head.Prev {
				x.held = s.Held()
			}
			got := s.Deliver(packed(t, text(t, b), data, p))
			if got.Said == api.SaidProof {
				refused++
				continue
			}
			beliefs = append(beliefs, x)
			want := m.Deliver(text(t, b))
			w.deliver(text(t, b))
			if got == want {
				alike++
				continue
			}
			fooled++
			if !slices.ContainsFunc(beliefs, belief.clashes) {
				t.Fatalf("Deliver = %v, not %v, and no two texts are found", got, want)
			}
			break
		}
		isSo := func(x belief) bool { return clash.Inside(x.all, x.gone, x.claims) }
		if !slices.ContainsFunc(beliefs, belief.clashes) && !all(beliefs, isSo) {
			t.Fatal("nothing is found, and what is claimed is not so")
		}
	}
	if alike < 500 || fooled < 50 || refused < 100 {
		t.Errorf("%d alike, %d fooled, %d refused", alike, fooled, refused)
	}
}

func all[T any](l []T, is func(T) bool) bool {
	return !slices.ContainsFunc(l, func(x T) bool { return !is(x) })
}
