package bridge_test

import (
	"bytes"
	"math"
	"math/rand"
	"slices"
	"testing"

	"moneyer/api"
	"moneyer/block"
	"moneyer/bridge"
	"moneyer/check"
	"moneyer/clash"
	"moneyer/coin"
	"moneyer/dev"
	"moneyer/ends"
	"moneyer/full"
	"moneyer/head"
	"moneyer/mint"
	"moneyer/place"
	"moneyer/proof"
	"moneyer/sha"
	"moneyer/stump"
	"moneyer/wood"
)

func ok(t *testing.T, what string, got, want api.Errno) {
	t.Helper()
	if got != want {
		t.Errorf("%s: %d, not %d", what, got, want)
	}
}

func device(t *testing.T, sectors int) *dev.Dev {
	t.Helper()
	d, e := dev.New(sectors)
	if e != api.OK {
		t.Fatal(e)
	}
	return d
}

func open(t *testing.T, d *dev.Dev) *bridge.Bridge {
	t.Helper()
	b, e := bridge.Open(d)
	if b == nil || e != api.OK {
		t.Fatalf("Open: %d", e)
	}
	return b
}

func text(t *testing.T, b api.Block) []byte {
	t.Helper()
	x, e := block.Put(b)
	if e != api.OK {
		t.Fatal(e)
	}
	return x
}

func idOf(b api.Block) api.Hash { return head.Id(b.Head) }

func sameCoins(a, b []api.Coin) bool { return slices.EqualFunc(a, b, coin.Same) }

// deliver delivers to both, and holds the answers to be the same.
func deliver(t *testing.T, b *bridge.Bridge, m *mint.Model, x []byte) api.Reply {
	t.Helper()
	got, want := b.Deliver(x), m.Deliver(x)
	if got != want {
		t.Fatalf("Deliver = %v, not %v", got, want)
	}
	return got
}

// first answers a block of a first transaction alone, that makes free coins.
func first(c api.Ctx, values ...uint64) api.Block {
	return mint.Block(c, mint.First(c.Height, mint.Free(values...)...))
}

// leavesAt says by the words what the leaves at a block are: from the beginning on.
func leavesAt(m *mint.Model, k int) (coins []api.Coin, gone []bool) {
	chain, _ := m.Tree.Chain(k)
	for height, n := range chain {
		if n == 0 {
			continue
		}
		points, _ := check.Outside(m.Blocks[n], uint32(height))
		for _, p := range points {
			gone[slices.IndexFunc(coins, func(c api.Coin) bool { return c.Point == p })] = true
		}
		made, _ := check.Made(m.Blocks[n], uint32(height))
		coins = append(coins, made...)
		gone = append(gone, make([]bool, len(made))...)
	}
	return coins, gone
}

// woodOf answers a forest of these leaves, made at once.
func woodOf(coins []api.Coin, gone []bool) *wood.Wood {
	w := wood.New()
	var hashes []api.Hash
	var taken []uint64
	for i, c := range coins {
		b, _ := coin.Put(c)
		hashes = append(hashes, sha.Leaf(b))
		if gone[i] {
			taken = append(taken, uint64(i))
		}
	}
	w.Add(hashes)
	w.Take(taken)
	return w
}

// attached says what is attached to a block, by the words.
func attached(m *mint.Model, k int, held []api.Place) []byte {
	known, _ := m.Tree.Known(k)
	coins, gone := leavesAt(m, known.Parent)
	points, _ := check.Outside(m.Blocks[k], known.Height)
	var leaves []uint64
	var data [][]byte
	for i, c := range coins {
		if slices.Contains(points, c.Point) {
			leaves = append(leaves, uint64(i))
			x, _ := coin.Put(c)
			data = append(data, x)
		}
	}
	x, _ := block.Put(m.Blocks[k])
	b := append(ends.Row(x), ends.Count(uint64(len(data)))...)
	for _, x := range data {
		b = append(b, ends.Row(x)...)
	}
	p, _ := proof.Prove(woodOf(coins, gone), leaves, held)
	x, _ = proof.Put(p)
	return append(b, x...)
}

// places answers all that stand in a forest.
func places(n uint64) []api.Place {
	var l []api.Place
	for row := uint8(0); n>>row > 0; row++ {
		for at := range n >> row {
			l = append(l, api.Place{Row: row, At: at})
		}
	}
	return l
}

// hold holds a bridge against the model, in all that can be asked.
func hold(t *testing.T, b *bridge.Bridge, m *mint.Model, r *rand.Rand) {
	t.Helper()
	id, height := b.Tip()
	wantId, wantHeight := m.Tip()
	if id != wantId || height != wantHeight || !sameCoins(b.Coins(), m.Coins(m.Tree.Best())) || !slices.Equal(b.Refused(), m.Refused) || b.Tree().Len() != m.Tree.Len() {
		t.Fatal("the bridge is not the node that it is to be")
	}
	for _, k := range r.Perm(m.Tree.Len()) {
		coins, gone := leavesAt(m, k)
		want := woodOf(coins, gone)
		w, e := b.Wood(k)
		if e != api.OK || !stump.Same(w.Stump(), want.Stump()) {
			t.Fatalf("Wood(%d) = %v, %d", k, w.Stump(), e)
		}
		for _, p := range places(want.N()) {
			got, _ := w.Value(p)
			if value, _ := want.Value(p); got != value {
				t.Fatalf("Wood(%d): Value(%v) = %v, not %v", k, p, got, value)
			}
		}
		gotCoins, gotGone, e := b.Leaves(k)
		if e != api.OK || !sameCoins(gotCoins, coins) || !slices.Equal(gotGone, gone) {
			t.Fatalf("Leaves(%d) = %v, %v, %d", k, gotCoins, gotGone, e)
		}
		holdAttached(t, b, m, k, want, r)
	}
}

func holdAttached(t *testing.T, b *bridge.Bridge, m *mint.Model, k int, after *wood.Wood, r *rand.Rand) {
	t.Helper()
	known, _ := m.Tree.Known(k)
	if k == 0 {
		x, e := b.Attach(known.Id, nil)
		if len(x) != 0 || e != api.ErrNone {
			t.Fatalf("Attach of the beginning: %x, %d", x, e)
		}
		return
	}
	coins, gone := leavesAt(m, known.Parent)
	var held []api.Place
	for _, p := range places(uint64(len(coins))) {
		if r.Intn(3) == 0 {
			held = append(held, p)
		}
	}
	for _, held := range [][]api.Place{nil, held, {{Row: 40, At: 9}}} {
		x, e := b.Attach(known.Id, held)
		if e != api.OK || !bytes.Equal(x, attached(m, k, held)) {
			t.Fatalf("Attach of %d with %v: %x, %d", k, held, x, e)
		}
	}
	// And what it says is so: against the stump of its parent, and it leads to its own.
	x, _ := b.Attach(known.Id, nil)
	_, data, p, e := bridge.Unpack(x)
	ok(t, "Unpack", e, api.OK)
	var hashes, made []api.Hash
	for _, d := range data {
		hashes = append(hashes, sha.Leaf(d))
	}
	c, _ := check.Made(m.Blocks[k], known.Height)
	for _, one := range c {
		d, _ := coin.Put(one)
		made = append(made, sha.Leaf(d))
	}
	s, _, e := stump.Apply(woodOf(coins, gone).Stump(), hashes, p, nil, made)
	if e != api.OK || !stump.Same(s, after.Stump()) {
		t.Fatalf("Apply of what is attached to %d: %v, %d", k, s, e)
	}
}

// The chapter's examples.
func TestExamples(t *testing.T) {
	b := open(t, device(t, 64))
	w, e := b.Wood(0)
	if w.N() != 0 || e != api.OK {
		t.Errorf("Wood(0): %d, %d", w.N(), e)
	}
	x, e := b.Attach(api.Hash{}, nil)
	if len(x) != 0 || e != api.ErrNone {
		t.Errorf("Attach(zero) = %x, %d", x, e)
	}
	_, _, _, e = bridge.Unpack(nil)
	ok(t, "Unpack(none)", e, api.ErrShort)
	if x, e := bridge.Pack(nil, nil, api.Proof{}); !bytes.Equal(x, []byte{0, 0, 0, 0}) || e != api.OK {
		t.Errorf("Pack = %x, %d", x, e)
	}
}

// P30.1

func TestOpen(t *testing.T) {
	for _, d := range []*dev.Dev{nil, {}} {
		b, e := bridge.Open(d)
		if b != nil || e != api.ErrNil {
			t.Errorf("Open of nil: %d", e)
		}
	}
	b, e := bridge.Open(device(t, 63))
	if b != nil || e != api.ErrArg {
		t.Errorf("Open of 63 sectors: %d", e)
	}
	d := device(t, 64)
	d.Cut(0)
	d.Write(0, make([]byte, api.Sector))
	b, e = bridge.Open(d)
	if b != nil || e != api.ErrPower {
		t.Errorf("Open without power: %d", e)
	}
	d = device(t, 64)
	x := make([]byte, api.Sector)
	x[0] = 1
	d.Write(16, x)
	b, e = bridge.Open(d)
	if b != nil || e != api.ErrForm {
		t.Errorf("Open of what is no node's: %d", e)
	}
	// What a full node wrote is a bridge's, and the other way round.
	d = device(t, 256)
	n, _ := full.Open(d)
	a := first(mint.Begin(), 10, 20)
	n.Deliver(text(t, a))
	if w, e := open(t, d).Wood(1); w.N() != 2 || e != api.OK {
		t.Errorf("Wood(1): %d, %d", w.N(), e)
	}
	open(t, d).Deliver(text(t, first(mint.Upon(a, 1), 30)))
	n, e = full.Open(d)
	if _, height := n.Tip(); height != 2 || e != api.OK {
		t.Errorf("full.Open: %d, %d", height, e)
	}
}

// P30.2, P30.4: blocks of any kind, with forks, against the words; also behind an Open.
func TestAgainstTheModel(t *testing.T) {
	for seed := range int64(6) {
		r := rand.New(rand.NewSource(seed))
		d := device(t, 4096)
		b, m := open(t, d), mint.NewModel()
		for i := range 50 {
			x, e := block.Put(m.Some(r.Intn))
			if e != api.OK || len(m.Refused) == api.MaxBad {
				continue
			}
			deliver(t, b, m, x)
			if r.Intn(9) == 0 {
				deliver(t, b, m, x)
			}
			if i%25 == 24 {
				hold(t, b, m, r)
				b = open(t, d)
				hold(t, b, m, r)
			}
		}
		// The leaves that are not gone are the coins; and no two texts have one hash.
		for k := range m.Tree.Len() {
			coins, gone, _ := b.Leaves(k)
			table, _ := b.Table(k)
			var there []api.Coin
			var all [][]byte
			for i, c := range coins {
				x, _ := coin.Put(c)
				all = append(all, x)
				if !gone[i] {
					there = append(there, c)
				}
			}
			slices.SortFunc(there, func(a, b api.Coin) int {
				if coin.Less(a.Point, b.Point) {
					return -1
				}
				return 1
			})
			if !sameCoins(there, table.All()) {
				t.Fatalf("Leaves(%d) = %v, %v", k, coins, gone)
			}
			s, e := clash.Stump(all, gone)
			if w, _ := b.Wood(k); e != api.OK || !stump.Same(s, w.Stump()) {
				t.Fatalf("Wood(%d) = %v, not %v", k, w.Stump(), s)
			}
		}
	}
}

// Chains that take over from one another again and again.
func TestForks(t *testing.T) {
	r := rand.New(rand.NewSource(1))
	d := device(t, 4096)
	b, m := open(t, d), mint.NewModel()
	grow := func(from, many int, value uint64) int {
		for i := range many {
			c, _ := m.Tree.Ctx(from)
			txs := []api.Tx{mint.First(c.Height, mint.Free(value, uint64(i))...)}
			for _, one := range m.Coins(from) {
				if one.Point.Height+api.Maturity <= c.Height && len(txs) < 4 {
					txs = append(txs, mint.Spend([]api.Coin{one}, mint.Free(one.Value)...))
				}
			}
			deliver(t, b, m, text(t, mint.Block(c, txs...)))
			from = m.Tree.Len() - 1
		}
		return from
	}
	trunk := grow(0, 7, 100)
	left, right := trunk, trunk
	for range 3 {
		left = grow(left, 5, 200)
		hold(t, b, m, r)
		right = grow(right, 5, 300)
		right = grow(right, 2, 300)
		left = grow(left, 2, 200)
		hold(t, b, m, r)
	}
	hold(t, open(t, d), m, r)
	// A coin that is made and spent in one block is in no forest.
	c, _ := m.Tree.Ctx(m.Tree.Best())
	var old api.Coin
	for _, one := range m.Coins(m.Tree.Best()) {
		if one.Point.Height+api.Maturity <= c.Height && one.Value > 1 {
			old = one
		}
	}
	x := mint.Spend([]api.Coin{old}, mint.Free(old.Value-1, 1)...)
	y := mint.Spend([]api.Coin{mint.Coin(x, 0, c.Height)}, mint.Free(3)...)
	was, _, _ := b.Leaves(m.Tree.Best())
	deliver(t, b, m, text(t, mint.Block(c, mint.First(c.Height), x, y)))
	coins, _, _ := b.Leaves(m.Tree.Best())
	if len(coins) != len(was)+2 || coins[len(was)].Value != 1 || coins[len(was)+1].Value != 3 {
		t.Errorf("Leaves = %v", coins)
	}
	hold(t, b, m, r)
	// What is delivered to the node that it is, past the bridge, is its own too.
	c, _ = m.Tree.Ctx(m.Tree.Best())
	z := text(t, first(c, 5))
	m.Deliver(z)
	b.Node.Deliver(z)
	hold(t, b, m, r)
}

func TestArguments(t *testing.T) {
	b := open(t, device(t, 512))
	a := first(mint.Begin(), 10)
	bad := first(mint.Begin(), api.Subsidy+1)
	orphan := first(mint.Upon(first(mint.Begin(), 9), 1))
	for _, x := range []api.Block{a, bad, orphan} {
		b.Deliver(text(t, x))
	}
	for _, id := range []api.Hash{{}, {1}, idOf(bad), idOf(orphan), head.Id(head.Begin())} {
		x, e := b.Attach(id, nil)
		if len(x) != 0 || e != api.ErrNone {
			t.Errorf("Attach: %x, %d", x, e)
		}
	}
	for _, k := range []int{-1, 0, 1, 2, math.MinInt, math.MaxInt} {
		want := api.ErrArg
		if k == 0 || k == 1 {
			want = api.OK
		}
		w, e1 := b.Wood(k)
		coins, gone, e2 := b.Leaves(k)
		if e1 != want || e2 != want || (w != nil) != (want == api.OK) || len(coins) != max(0, k)%2*btoi(want == api.OK) || len(gone) != len(coins) {
			t.Errorf("Wood(%d): %d, Leaves: %v, %v, %d", k, e1, coins, gone, e2)
		}
	}
}

func btoi(is bool) int {
	if is {
		return 1
	}
	return 0
}

// Power that a delivery finds cut, or that is cut meanwhile.
func TestPower(t *testing.T) {
	a := first(mint.Begin(), 10)
	c := first(mint.Upon(a, 1), 20)
	next := first(mint.Upon(c, 2), 30)
	hold := func(b *bridge.Bridge, want api.Errno) {
		t.Helper()
		for k := range 3 {
			w, e1 := b.Wood(k)
			coins, gone, e2 := b.Leaves(k)
			ok(t, "Wood", e1, want)
			ok(t, "Leaves", e2, want)
			if want != api.OK && (w != nil || len(coins) != 0 || len(gone) != 0) {
				t.Errorf("Wood(%d) = %v, Leaves = %v, %v", k, w, coins, gone)
			}
		}
		_, e1 := b.Wood(3)
		_, _, e2 := b.Leaves(-1)
		ok(t, "Wood(3)", e1, api.ErrArg)
		ok(t, "Leaves(-1)", e2, api.ErrArg)
		for _, x := range []api.Block{a, c} {
			got, e := b.Attach(idOf(x), nil)
			if e != want || (len(got) != 0) != (want == api.OK) {
				t.Errorf("Attach: %x, %d", got, e)
			}
		}
		_, e := b.Attach(idOf(next), nil)
		ok(t, "Attach of what was not taken", e, api.ErrNone)
	}
	for _, cut := range []int{0, 1, 2, 5} {
		d := device(t, 256)
		b := open(t, d)
		b.Deliver(text(t, a))
		b.Deliver(text(t, c))
		hold(b, api.OK)
		d.Cut(cut)
		hold(b, api.OK)
		if r := b.Deliver(text(t, next)); r != (api.Reply{Said: api.SaidPower, Why: api.ErrPower}) {
			t.Fatalf("Deliver = %v", r)
		}
		hold(b, api.ErrPower)
		d.On(0, 0)
		hold(b, api.ErrPower)
		b = open(t, d)
		hold(b, api.OK)
		d.Cut(0)
		d.Write(0, make([]byte, api.Sector))
		hold(b, api.ErrPower)
		d.On(0, 0)
		hold(b, api.OK)
	}
}

// P30.3

// someProof answers a proof with all kinds of values.
func someProof() api.Proof {
	return api.Proof{Leaves: []uint64{3, 300}, Values: []api.Given{{Kind: api.GivenNone}, {Kind: api.GivenHash, H: api.Hash{1, 2}}, {Kind: api.GivenHeld}}}
}

func TestPack(t *testing.T) {
	p := someProof()
	pText, _ := proof.Put(p)
	data := [][]byte{{7, 8}, nil, bytes.Repeat([]byte{9}, 200)}
	want := slices.Concat([]byte{3, 1, 2, 3, 3, 2, 7, 8, 0, 200}, data[2], pText)
	x, e := bridge.Pack([]byte{1, 2, 3}, data, p)
	if !bytes.Equal(x, want) || e != api.OK {
		t.Errorf("Pack = %x, %d", x, e)
	}
	b, d, q, e := bridge.Unpack(want)
	if !bytes.Equal(b, []byte{1, 2, 3}) || !slices.EqualFunc(d, data, bytes.Equal) || !proof.Same(q, p) || e != api.OK {
		t.Errorf("Unpack = %x, %x, %v, %d", b, d, q, e)
	}
	many := make([][]byte, api.MaxClaims)
	x, e = bridge.Pack(make([]byte, api.MaxBlock), many, p)
	if _, d, _, e2 := bridge.Unpack(x); e != api.OK || e2 != api.OK || len(d) != api.MaxClaims {
		t.Errorf("the most: %d, %d", e, e2)
	}
	x, e = bridge.Pack(nil, append(many, nil), p)
	if len(x) != 0 || e != api.ErrArg {
		t.Errorf("more than MaxClaims: %d", e)
	}
	for i, p := range []api.Proof{{Leaves: make([]uint64, api.MaxClaims+1)}, {Values: make([]api.Given, 1)}, {Values: []api.Given{{Kind: 4}}}, {Values: []api.Given{{Kind: api.GivenNone, H: api.Hash{1}}}}} {
		x, e := bridge.Pack([]byte{1}, nil, p)
		if len(x) != 0 || e != api.ErrArg {
			t.Errorf("%d: Pack = %x, %d", i, x, e)
		}
	}
	// Packed is also what is too long to be unpacked.
	for _, c := range []struct {
		block, data int
	}{{api.MaxBlock + 1, 0}, {0, 201}} {
		x, e := bridge.Pack(make([]byte, c.block), [][]byte{make([]byte, c.data)}, p)
		ok(t, "Pack", e, api.OK)
		_, _, _, e = bridge.Unpack(x)
		ok(t, "Unpack", e, api.ErrLimit)
	}
}

func unpack(t *testing.T, x []byte, want api.Errno) {
	t.Helper()
	b, d, p, e := bridge.Unpack(x)
	if e != want || e != api.OK && (len(b) != 0 || len(d) != 0 || !proof.Same(p, api.Proof{})) {
		t.Errorf("Unpack(%x) = %x, %x, %v, %d, not %d", x, b, d, p, e, want)
	}
}

func TestUnpack(t *testing.T) {
	x, _ := bridge.Pack([]byte{1, 2, 3}, [][]byte{{7, 8}, nil}, someProof())
	for n := range x {
		unpack(t, x[:n:n], api.ErrShort)
		unpack(t, x[:n], api.ErrShort)
	}
	unpack(t, x, api.OK)
	for _, behind := range [][]byte{{0}, {255}, x} {
		unpack(t, append(bytes.Clone(x), behind...), api.ErrForm)
	}
	long := bytes.Repeat([]byte{255}, 9)
	for _, c := range []struct {
		b []byte
		e api.Errno
	}{
		{[]byte{253, 1, 0}, api.ErrForm},
		{[]byte{253, 33, 78}, api.ErrLimit},
		{long, api.ErrLimit},
		{[]byte{253, 32, 78}, api.ErrShort},
		{[]byte{1, 9, 253, 1, 1}, api.ErrLimit},
		{[]byte{1, 9, 253, 0, 1}, api.ErrShort},
		{[]byte{1, 9, 253, 252, 0}, api.ErrForm},
		{append([]byte{0}, long...), api.ErrLimit},
		{[]byte{0, 1, 201}, api.ErrLimit},
		{[]byte{0, 1, 200}, api.ErrShort},
		{[]byte{0, 1, 253, 200, 0}, api.ErrForm},
		{append([]byte{0, 1}, long...), api.ErrLimit},
		{[]byte{0, 2, 0, 201}, api.ErrLimit},
		{[]byte{0, 0, 253, 1, 1}, api.ErrLimit},
		{[]byte{0, 0, 0, 253, 1, 20}, api.ErrLimit},
		{[]byte{0, 0, 0, 1, 0}, api.ErrForm},
		{[]byte{0, 0, 0, 1, 4}, api.ErrForm},
		{[]byte{0, 0, 0, 1, 2}, api.ErrShort},
		{[]byte{0, 0, 253, 1, 0}, api.ErrForm},
	} {
		unpack(t, c.b, c.e)
		if c.e != api.ErrShort {
			unpack(t, append(c.b, 1, 2, 3), c.e)
		}
	}
}

// Rule 5: a nil pointer, and a zero object.
func TestNil(t *testing.T) {
	for _, b := range []*bridge.Bridge{nil, {}} {
		if b.Deliver(nil) != (api.Reply{}) || b.Deliver(text(t, first(mint.Begin()))) != (api.Reply{}) {
			t.Error("of nil something is told")
		}
		x, e1 := b.Attach(api.Hash{}, nil)
		w, e2 := b.Wood(0)
		coins, gone, e3 := b.Leaves(-1)
		if len(x) != 0 || w != nil || len(coins) != 0 || len(gone) != 0 {
			t.Error("of nil something is told")
		}
		for _, e := range []api.Errno{e1, e2, e3} {
			ok(t, "of nil", e, api.ErrNil)
		}
	}
	var b bridge.Bridge
	if id, height := b.Tip(); id != (api.Hash{}) || height != 0 || b.Tree() != nil {
		t.Error("of a zero object something is told")
	}
}

func overwrite(b []byte) {
	b = b[:cap(b)]
	for i := range b {
		b[i] ^= 255
	}
}

// The rules that hold everywhere: what is handed in stays as it is, what is answered is new memory.
func TestMemory(t *testing.T) {
	r := rand.New(rand.NewSource(3))
	d := device(t, 2048)
	b, m := open(t, d), mint.NewModel()
	for range 30 {
		x, e := block.Put(m.Some(r.Intn))
		if e != api.OK {
			continue
		}
		room := append(bytes.Clone(x), 1, 2, 3)
		was := bytes.Clone(room)
		m.Deliver(x)
		b.Deliver(room[:len(x)])
		if !bytes.Equal(room, was) {
			t.Fatal("what was delivered has changed")
		}
		overwrite(room)
	}
	for k := range m.Tree.Len() {
		w, _ := b.Wood(k)
		w.Add([]api.Hash{{1}})
		for leaf := range w.N() {
			w.Take([]uint64{leaf})
		}
		coins, gone, _ := b.Leaves(k)
		for i := range coins {
			overwrite(coins[i].Lock)
			coins[i] = api.Coin{}
			gone[i] = !gone[i]
		}
		known, _ := m.Tree.Known(k)
		held := place.Trees(9)
		was := slices.Clone(held)
		x, _ := b.Attach(known.Id, held[:1])
		overwrite(x)
		if !slices.Equal(held, was) {
			t.Error("what was held has changed")
		}
	}
	hold(t, b, m, r)
	text := bytes.Repeat([]byte{5}, 9)
	data := [][]byte{text[:3], text[3:5]}
	p := someProof()
	x, _ := bridge.Pack(text[5:7], data, p)
	y, _ := bridge.Pack(text[5:7], data, p)
	one, two, q, _ := bridge.Unpack(x)
	again, more, s, _ := bridge.Unpack(x)
	overwrite(one)
	overwrite(two[0])
	two[1] = nil
	q.Leaves[0], q.Values[0] = 9, api.Given{}
	if !bytes.Equal(x, y) || !bytes.Equal(again, text[5:7]) || !slices.EqualFunc(more, data, bytes.Equal) || !proof.Same(s, p) {
		t.Error("two answers of Unpack share memory")
	}
	overwrite(x)
	if !bytes.Equal(text, bytes.Repeat([]byte{5}, 9)) || !proof.Same(p, someProof()) || bytes.Equal(x, y) {
		t.Error("what was packed has changed")
	}
}
