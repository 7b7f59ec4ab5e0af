package full_test

import (
	"bytes"
	"math"
	"math/rand"
	"slices"
	"testing"

	"moneyer/api"
	"moneyer/block"
	"moneyer/check"
	"moneyer/coin"
	"moneyer/dev"
	"moneyer/full"
	"moneyer/head"
	"moneyer/mint"
	"moneyer/store"
	"moneyer/table"
	"moneyer/target"
	"moneyer/undo"
)

func ok(t *testing.T, what string, got, want api.Errno) {
	t.Helper()
	if got != want {
		t.Errorf("%s: %d, not %d", what, got, want)
	}
}

func device(t *testing.T, sectors int) *dev.Dev {
	t.Helper()
	d, e := dev.New(sectors)
	if e != api.OK {
		t.Fatal(e)
	}
	return d
}

func open(t *testing.T, d *dev.Dev) *full.Node {
	t.Helper()
	n, e := full.Open(d)
	if n == nil || e != api.OK {
		t.Fatalf("Open: %d", e)
	}
	return n
}

func text(t *testing.T, b api.Block) []byte {
	t.Helper()
	x, e := block.Put(b)
	if e != api.OK {
		t.Fatal(e)
	}
	return x
}

func idOf(b api.Block) api.Hash { return head.Id(b.Head) }

func sameCoins(a, b []api.Coin) bool { return slices.EqualFunc(a, b, coin.Same) }

// said delivers, and holds the answer to be this one.
func said(t *testing.T, n *full.Node, b api.Block, want int, why api.Errno) {
	t.Helper()
	r := n.Deliver(text(t, b))
	id, height := n.Tip()
	if want == api.SaidPower {
		id, height = api.Hash{}, 0
	}
	if r != (api.Reply{Said: want, Why: why, Tip: id, Height: height}) {
		t.Errorf("Deliver = %v, not %d, %d", r, want, why)
	}
}

// first answers a block of a first transaction alone, that makes free coins.
func first(c api.Ctx, values ...uint64) api.Block {
	return mint.Block(c, mint.First(c.Height, mint.Free(values...)...))
}

// The chapter's examples.
func TestExamples(t *testing.T) {
	n := open(t, device(t, 64))
	if id, height := n.Tip(); height != 0 || id != head.Id(head.Begin()) || len(n.Coins()) != 0 {
		t.Errorf("Tip = %x, %d", id, height)
	}
	if r := n.Deliver(nil); r.Said != api.SaidForm || r.Why != api.ErrShort {
		t.Errorf("Deliver(none) = %v", r)
	}
	_, e := n.Block(0)
	ok(t, "Block(0)", e, api.ErrArg)
	if r := n.Deliver(text(t, api.Block{Txs: []api.Tx{{}}})); r.Said != api.SaidForm || r.Why != api.ErrRule {
		t.Errorf("Deliver of a zero block = %v", r)
	}
}

// The document's examples of the whole that are a full node's.
func TestExamplesOfTheWhole(t *testing.T) {
	n := open(t, device(t, 512))
	a := first(mint.Begin(), 10, 20)
	b := first(mint.Upon(a, 1), 30)
	said(t, n, b, api.SaidOrphan, api.ErrNone)
	said(t, n, a, api.SaidNew, api.OK)
	said(t, n, a, api.SaidOld, api.ErrTwice)
	said(t, n, b, api.SaidNew, api.OK)
	// Two upon one parent: the tip is the first one; with a block upon the second one the tip is that.
	c := first(mint.Upon(a, 1), 31)
	said(t, n, c, api.SaidNew, api.OK)
	if id, height := n.Tip(); id != idOf(b) || height != 2 {
		t.Errorf("Tip = %x, %d", id, height)
	}
	d := first(mint.Upon(c, 2), 32)
	said(t, n, d, api.SaidNew, api.OK)
	if id, height := n.Tip(); id != idOf(d) || height != 3 {
		t.Errorf("Tip = %x, %d", id, height)
	}
	if l := n.Coins(); len(l) != 4 {
		t.Errorf("Coins = %v", l)
	}
	// A coin that is not there, and its child.
	missing := mint.Coin(b.Txs[0], 0, 2)
	e := mint.Block(mint.Upon(d, 3), mint.First(4), mint.Spend([]api.Coin{missing}))
	said(t, n, e, api.SaidRule, api.ErrNone)
	f := first(mint.Upon(e, 4))
	said(t, n, f, api.SaidRule, api.ErrRule)
	said(t, n, e, api.SaidRule, api.ErrTwice)
	said(t, n, f, api.SaidRule, api.ErrTwice)
	said(t, n, first(mint.Upon(f, 5)), api.SaidRule, api.ErrRule)
	if l := n.Refused(); len(l) != 3 || l[0] != idOf(e) || l[1] != idOf(f) {
		t.Errorf("Refused = %x", l)
	}
	// More than the subsidy and the fees.
	said(t, n, first(mint.Upon(d, 3), api.Subsidy+1), api.SaidRule, api.ErrRule)
	// Bytes of which one is changed.
	x := text(t, first(mint.Upon(d, 3), 1))
	for i := range x {
		if i >= 64 && i < 76 {
			// Another time or nonce may be one with which it works.
			continue
		}
		y := bytes.Clone(x)
		y[i] ^= 1
		if r := n.Deliver(y); r.Said != api.SaidForm && r.Said != api.SaidRule && r.Said != api.SaidOrphan {
			t.Errorf("byte %d: %v", i, r)
		}
	}
	if id, _ := n.Tip(); id != idOf(d) {
		t.Errorf("Tip = %x", id)
	}
}

// hold holds a node against the model, in all that can be asked.
func hold(t *testing.T, n *full.Node, m *mint.Model) {
	t.Helper()
	id, height := n.Tip()
	wantId, wantHeight := m.Tip()
	if id != wantId || height != wantHeight {
		t.Fatalf("Tip = %x, %d", id, height)
	}
	if !sameCoins(n.Coins(), m.Coins(m.Tree.Best())) {
		t.Fatalf("Coins = %v, not %v", n.Coins(), m.Coins(m.Tree.Best()))
	}
	if !slices.Equal(n.Refused(), m.Refused) {
		t.Fatalf("Refused = %x", n.Refused())
	}
	x := n.Tree()
	if x.Len() != m.Tree.Len() || x.Best() != m.Tree.Best() {
		t.Fatalf("Tree: %d, %d", x.Len(), x.Best())
	}
	for k := range x.Len() {
		a, _ := x.Known(k)
		b, _ := m.Tree.Known(k)
		if a != b {
			t.Fatalf("Known(%d) = %v", k, a)
		}
	}
	holdBlocks(t, n, m)
}

func holdBlocks(t *testing.T, n *full.Node, m *mint.Model) {
	t.Helper()
	for k := range m.Tree.Len() {
		c, e := n.Table(k)
		if e != api.OK || !sameCoins(c.All(), m.Coins(k)) {
			t.Fatalf("Table(%d): %d", k, e)
		}
		b, e1 := n.Block(k)
		u, e2 := n.Undo(k)
		if k == 0 {
			if len(b) != 0 || len(u.Spent) != 0 || len(u.Made) != 0 || e1 != api.ErrArg || e2 != api.ErrArg {
				t.Fatalf("Block(0): %d, Undo(0): %d", e1, e2)
			}
			continue
		}
		known, _ := m.Tree.Known(k)
		at := table.New()
		for _, one := range m.Coins(known.Parent) {
			at.Put(one)
		}
		points, _ := check.Outside(m.Blocks[k], known.Height)
		made, _ := check.Made(m.Blocks[k], known.Height)
		want, _ := undo.Do(at, points, made)
		if !bytes.Equal(b, text(t, m.Blocks[k])) || e1 != api.OK || !undo.Same(u, want) || e2 != api.OK {
			t.Fatalf("Block(%d) = %x, %d, Undo = %v, %d", k, b, e1, u, e2)
		}
	}
}

// P0.1: blocks of any kind, in any order, against the model; and P0.5: what all coins are worth.
func TestAgainstTheModel(t *testing.T) {
	for seed := range int64(8) {
		r := rand.New(rand.NewSource(seed))
		d := device(t, 4096)
		n, m := open(t, d), mint.NewModel()
		counts := map[int]int{}
		var later [][]byte
		for i := range 90 {
			b := m.Some(r.Intn)
			x, e := block.Put(b)
			if e != api.OK {
				continue
			}
			later = append(later, x)
			if r.Intn(6) == 0 {
				// A child ahead of it: an orphan, till it is handed in again.
				later = append(later, text(t, first(mint.Upon(b, uint32(r.Intn(9))), 5)))
			}
			if r.Intn(8) == 0 {
				continue
			}
			for range 1 + r.Intn(2) {
				if r.Intn(4) == 0 {
					x = later[r.Intn(len(later))]
				}
				if r.Intn(15) == 0 {
					x = bytes.Clone(x)
					x[r.Intn(len(x))] ^= byte(1 << r.Intn(8))
				}
				if len(m.Refused) == api.MaxBad {
					break
				}
				got, want := n.Deliver(x), m.Deliver(x)
				if got != want {
					t.Fatalf("Deliver = %v, not %v", got, want)
				}
				counts[got.Said]++
				x = later[len(later)-1]
			}
			worth, subsidies := uint64(0), uint64(0)
			for _, c := range n.Coins() {
				worth += c.Value
			}
			_, height := n.Tip()
			for h := range height + 1 {
				subsidies += target.Subsidy(h)
			}
			if worth > subsidies {
				t.Fatalf("all coins are worth %d, the subsidies %d", worth, subsidies)
			}
			if i%30 == 29 {
				hold(t, n, m)
				n = open(t, d)
				hold(t, n, m)
			}
		}
		hold(t, n, m)
		for _, s := range []int{api.SaidNew, api.SaidOld, api.SaidForm, api.SaidOrphan, api.SaidRule} {
			if counts[s] == 0 {
				t.Errorf("nothing was answered by %d", s)
			}
		}
		if counts[api.SaidFull] > 0 || counts[api.SaidPower] > 0 {
			t.Errorf("%v", counts)
		}
	}
}

// A long side chain takes over, and back: the coins go with it.
func TestForks(t *testing.T) {
	d := device(t, 2048)
	n, m := open(t, d), mint.NewModel()
	put := func(b api.Block) {
		t.Helper()
		x := text(t, b)
		if got, want := n.Deliver(x), m.Deliver(x); got != want || got.Said != api.SaidNew {
			t.Fatalf("Deliver = %v, not %v", got, want)
		}
	}
	grow := func(from, many int, value uint64, spends bool) int {
		for i := range many {
			c, _ := m.Tree.Ctx(from)
			txs := []api.Tx{mint.First(c.Height, mint.Free(value, uint64(i))...)}
			for _, one := range m.Coins(from) {
				if spends && one.Point.Height+api.Maturity <= c.Height && len(txs) < 3 {
					txs = append(txs, mint.Spend([]api.Coin{one}, mint.Free(one.Value)...))
				}
			}
			put(mint.Block(c, txs...))
			from = m.Tree.Len() - 1
		}
		return from
	}
	trunk := grow(0, 6, 100, true)
	a := grow(trunk, 5, 200, true)
	b := grow(trunk, 5, 300, true)
	hold(t, n, m)
	if id, _ := n.Tip(); m.Tree.Best() != a {
		t.Errorf("Tip = %x", id)
	}
	b = grow(b, 3, 301, true)
	hold(t, n, m)
	n = open(t, d)
	hold(t, n, m)
	if m.Tree.Best() != b {
		t.Error("the other chain did not take over")
	}
	a = grow(a, 7, 201, false)
	hold(t, n, m)
	if m.Tree.Best() != a {
		t.Error("the first chain did not take over again")
	}
	grow(0, 4, 400, true)
	hold(t, open(t, d), m)
}

// What stands on the device: the files and the state.
func TestWhatStandsThere(t *testing.T) {
	d := device(t, 512)
	n := open(t, d)
	a := first(mint.Begin(), 10, 20)
	b := first(mint.Upon(a, 1), 30)
	bad := first(mint.Upon(a, 1), api.Subsidy+1)
	for _, x := range []api.Block{a, b, bad} {
		n.Deliver(text(t, x))
	}
	s, e := store.Open(d)
	ok(t, "store.Open", e, api.OK)
	blocks, _ := s.Records(api.FileBlocks)
	if len(blocks) != 2 || !bytes.Equal(blocks[0], text(t, a)) || !bytes.Equal(blocks[1], text(t, b)) {
		t.Errorf("the blocks are %x", blocks)
	}
	undos, _ := s.Records(api.FileUndos)
	u, _ := undo.Put(api.Undo{Made: []api.Point{mint.Coin(a.Txs[0], 0, 1).Point, mint.Coin(a.Txs[0], 1, 1).Point}})
	if len(undos) != 2 || !bytes.Equal(undos[0], u) {
		t.Errorf("the undos are %x", undos)
	}
	x := table.New()
	for _, c := range []api.Coin{mint.Coin(a.Txs[0], 0, 1), mint.Coin(a.Txs[0], 1, 1), mint.Coin(b.Txs[0], 0, 2)} {
		x.Put(c)
	}
	id := idOf(bad)
	if want := slices.Concat([]byte{1}, id[:], x.Bytes()); !bytes.Equal(s.State(), want) {
		t.Errorf("the state is %x, not %x", s.State(), want)
	}
}

// P29.1: what is no node's.
func TestOpen(t *testing.T) {
	for _, d := range []*dev.Dev{nil, {}} {
		n, e := full.Open(d)
		if n != nil || e != api.ErrNil {
			t.Errorf("Open of nil: %d", e)
		}
	}
	if n, e := full.Open(device(t, 63)); n != nil || e != api.ErrArg {
		t.Errorf("Open(63): %d", e)
	}
	d := device(t, 64)
	d.Cut(0)
	d.Write(0, make([]byte, api.Sector))
	if n, e := full.Open(d); n != nil || e != api.ErrPower {
		t.Errorf("Open without power: %d", e)
	}
	a := first(mint.Begin(), 10)
	b := first(mint.Upon(a, 1), 20)
	bad := first(mint.Upon(a, 1), api.Subsidy+1)
	undoOf := func(coins ...api.Coin) []byte {
		var u api.Undo
		for _, c := range coins {
			u.Made = append(u.Made, c.Point)
		}
		x, _ := undo.Put(u)
		return x
	}
	ca, cb := mint.Coin(a.Txs[0], 0, 1), mint.Coin(b.Txs[0], 0, 2)
	ua, ub := undoOf(ca), undoOf(cb)
	state := func(ids []api.Hash, coins ...api.Coin) []byte {
		x := table.New()
		for _, c := range coins {
			x.Put(c)
		}
		l := []byte{byte(len(ids))}
		for _, id := range ids {
			l = append(l, id[:]...)
		}
		return append(l, x.Bytes()...)
	}
	ta, tb := text(t, a), text(t, b)
	var many []api.Hash
	for i := range 65 {
		many = append(many, api.Hash{byte(i), 1})
	}
	other := cb
	other.Value++
	for i, c := range []struct {
		blocks, undos [][]byte
		state         []byte
		e             api.Errno
	}{
		{nil, nil, nil, api.OK},
		{nil, nil, []byte{0, 0}, api.OK},
		{[][]byte{ta}, [][]byte{ua}, state(nil, ca), api.OK},
		{[][]byte{ta, tb}, [][]byte{ua, ub}, state(nil, ca, cb), api.OK},
		{[][]byte{ta, tb}, [][]byte{ua, ub}, state(many[:64], ca, cb), api.OK},
		{[][]byte{ta}, [][]byte{ua}, nil, api.ErrForm},
		{[][]byte{ta}, [][]byte{ua}, []byte{0}, api.ErrForm},
		{[][]byte{ta}, [][]byte{ua}, append(state(nil, ca), 0), api.ErrForm},
		{[][]byte{ta}, [][]byte{ua}, []byte{253, 1, 0}, api.ErrForm},
		{[][]byte{ta}, [][]byte{ua}, state(many, ca), api.ErrForm},
		{[][]byte{ta}, [][]byte{ua}, state([]api.Hash{many[0], many[1], many[0]}, ca), api.ErrForm},
		{[][]byte{ta}, [][]byte{ua}, state([]api.Hash{idOf(a)}, ca), api.ErrForm},
		{[][]byte{ta}, [][]byte{ua}, state([]api.Hash{idOf(b)}, ca), api.OK},
		{[][]byte{ta}, [][]byte{ua}, state([]api.Hash{head.Id(head.Begin())}, ca), api.ErrForm},
		{[][]byte{ta}, [][]byte{ua}, state(nil), api.ErrForm},
		{[][]byte{ta}, [][]byte{ua}, state(nil, cb), api.ErrForm},
		{[][]byte{ta}, [][]byte{ua}, state(nil, ca, cb), api.ErrForm},
		{[][]byte{ta, tb}, [][]byte{ua, ub}, state(nil, ca, other), api.ErrForm},
		{[][]byte{ta}, nil, state(nil, ca), api.ErrForm},
		{nil, [][]byte{ua}, state(nil), api.ErrForm},
		{nil, [][]byte{ua}, nil, api.ErrForm},
		{[][]byte{ta}, nil, nil, api.ErrForm},
		{[][]byte{text(t, first(mint.Begin()))}, [][]byte{{0, 0}}, state(nil), api.OK},
		{[][]byte{text(t, first(mint.Begin()))}, [][]byte{{0, 0}}, []byte{9}, api.ErrForm},
		{[][]byte{text(t, first(mint.Begin()))}, [][]byte{{0, 0}}, []byte{0, 1, 0}, api.ErrForm},
		{[][]byte{ta, tb}, [][]byte{ua}, state(nil, ca, cb), api.ErrForm},
		{[][]byte{ta}, [][]byte{ub}, state(nil, ca), api.ErrForm},
		{[][]byte{ta}, [][]byte{{0, 0}}, state(nil, ca), api.ErrForm},
		{[][]byte{ta}, [][]byte{{9}}, state(nil, ca), api.ErrForm},
		{[][]byte{tb}, [][]byte{ub}, state(nil, cb), api.ErrForm},
		{[][]byte{tb, ta}, [][]byte{ub, ua}, state(nil, ca, cb), api.ErrForm},
		{[][]byte{ta, ta}, [][]byte{ua, ua}, state(nil, ca), api.ErrForm},
		{[][]byte{append(bytes.Clone(ta), 0)}, [][]byte{ua}, state(nil, ca), api.ErrForm},
		{[][]byte{ta, text(t, bad)}, [][]byte{ua, undoOf(mint.Coin(bad.Txs[0], 0, 2))}, state(nil, ca, mint.Coin(bad.Txs[0], 0, 2)), api.ErrForm},
		{[][]byte{{}}, [][]byte{{}}, state(nil), api.ErrForm},
	} {
		d := device(t, 512)
		s, _ := store.Open(d)
		for _, x := range c.blocks {
			s.Append(api.FileBlocks, x)
		}
		for _, x := range c.undos {
			s.Append(api.FileUndos, x)
		}
		ok(t, "Save", s.Save(c.state), api.OK)
		n, e := full.Open(d)
		if e != c.e || (n != nil) != (e == api.OK) {
			t.Errorf("%d: Open: %d, not %d", i, e, c.e)
		}
	}
	// A record that cannot be read.
	d = device(t, 512)
	n := open(t, d)
	n.Deliver(ta)
	x, _ := d.Read(3 * 64)
	x[50]++
	d.Write(3*64, x)
	if n, e := full.Open(d); n != nil || e != api.ErrForm {
		t.Errorf("Open of a spoilt record: %d", e)
	}
	if b, e := n.Block(1); len(b) != 0 || e != api.ErrPower {
		t.Errorf("Block of a spoilt record: %d", e)
	}
}

// P0.1: beyond its room it says SaidFull, and has changed nothing.
func TestFull(t *testing.T) {
	same := func(t *testing.T, d *dev.Dev, n *full.Node, m *mint.Model) {
		t.Helper()
		hold(t, n, m)
		hold(t, open(t, d), m)
	}
	// tooMuch delivers a block for which there is no room: nothing is written.
	tooMuch := func(t *testing.T, d *dev.Dev, n *full.Node, b api.Block) {
		t.Helper()
		was, writes := d.Image(), d.Writes()
		said(t, n, b, api.SaidFull, api.ErrFull)
		if !bytes.Equal(d.Image(), was) || d.Writes() != writes {
			t.Error("the device has changed")
		}
	}
	both := func(t *testing.T, n *full.Node, m *mint.Model, b api.Block) {
		t.Helper()
		x := text(t, b)
		if got, want := n.Deliver(x), m.Deliver(x); got != want {
			t.Fatalf("Deliver = %v, not %v", got, want)
		}
	}
	t.Run("blocks", func(t *testing.T) {
		d := device(t, 4096)
		n, m := open(t, d), mint.NewModel()
		for range api.MaxBlocks - 1 {
			c, _ := m.Tree.Ctx(m.Tree.Len() - 1)
			both(t, n, m, mint.Block(c, mint.First(c.Height)))
		}
		c, _ := m.Tree.Ctx(m.Tree.Len() - 1)
		tooMuch(t, d, n, mint.Block(c, mint.First(c.Height)))
		c, _ = m.Tree.Ctx(0)
		tooMuch(t, d, n, first(c, 5))
		// What is refused is refused as ever.
		both(t, n, m, first(c, api.Subsidy+1))
		both(t, n, m, m.Blocks[7])
		same(t, d, n, m)
	})
	t.Run("ids", func(t *testing.T) {
		d := device(t, 4096)
		n, m := open(t, d), mint.NewModel()
		both(t, n, m, first(mint.Begin(), 5))
		bad := first(mint.Begin(), api.Subsidy+1)
		both(t, n, m, bad)
		for i := range uint64(api.MaxBad - 1) {
			if i%2 == 0 {
				both(t, n, m, first(mint.Begin(), api.Subsidy+2+i))
			} else {
				both(t, n, m, first(mint.Upon(bad, 1), i))
			}
		}
		missing := mint.Block(mint.Begin(), mint.First(1), mint.Spend([]api.Coin{{Point: api.Point{N: 1}}}))
		for _, b := range []api.Block{first(mint.Begin(), api.Subsidy+999), first(mint.Upon(bad, 1), 999), missing} {
			tooMuch(t, d, n, b)
		}
		both(t, n, m, bad)
		both(t, n, m, first(mint.Begin(), 6))
		if len(n.Refused()) != api.MaxBad {
			t.Errorf("%d are refused", len(n.Refused()))
		}
		same(t, d, n, m)
	})
	t.Run("coins", func(t *testing.T) {
		d := device(t, api.MaxSectors)
		n, m := open(t, d), mint.NewModel()
		var values []uint64
		for i := range uint64(16) {
			values = append(values, i*1000)
		}
		for range api.MaxCoins / 16 {
			c, _ := m.Tree.Ctx(m.Tree.Len() - 1)
			both(t, n, m, first(c, values...))
		}
		tip := m.Tree.Len() - 1
		c, _ := m.Tree.Ctx(tip)
		tooMuch(t, d, n, first(c, 1))
		// At the block, though it is not the tip.
		side, _ := m.Tree.Ctx(tip - 1)
		said(t, n, first(side, append(values, 1)[1:]...), api.SaidNew, api.OK)
		b, _ := n.Block(tip + 1)
		x, _ := block.Read(b)
		m.Deliver(b)
		tooMuch(t, d, n, first(mint.Upon(x, side.Height), 1))
		// As many as are spent may be made.
		old := m.Coins(tip)[:1]
		both(t, n, m, mint.Block(c, mint.First(c.Height), mint.Spend(old, mint.Free(0)...)))
		same(t, d, n, m)
	})
	t.Run("files", func(t *testing.T) {
		d := device(t, 64)
		n, m := open(t, d), mint.NewModel()
		filled := 0
		for i := range uint64(60) {
			c, _ := m.Tree.Ctx(m.Tree.Len() - 1)
			b := first(c)
			for range i % 3 {
				b.Txs[0].Outs = append(b.Txs[0].Outs, api.Out{Lock: make([]byte, 90)})
			}
			// So that no coin is left: all of the room goes to the files.
			b = mint.Mined(b)
			x := text(t, b)
			s, _ := store.Open(d)
			u := 2 + 38*len(b.Txs[0].Outs)
			fits := s.Room(api.FileBlocks) >= len(x) && s.Room(api.FileUndos) >= u
			coins := table.New()
			for _, c := range n.Coins() {
				coins.Put(c)
			}
			made, _ := check.Made(b, c.Height)
			for _, c := range made {
				coins.Put(c)
			}
			fits = fits && 1+len(coins.Bytes()) <= 8*128-16
			if !fits {
				tooMuch(t, d, n, b)
				filled++
				continue
			}
			if got, want := n.Deliver(x), m.Deliver(x); got != want || got.Said != api.SaidNew {
				t.Fatalf("Deliver = %v, not %v", got, want)
			}
		}
		if filled < 5 {
			t.Errorf("just %d were too much", filled)
		}
		same(t, d, n, m)
	})
	t.Run("undos", func(t *testing.T) {
		// What is spent of long locks makes long undos: their file is full, while the others have room.
		d := device(t, 256)
		n, m := open(t, d), mint.NewModel()
		long := api.Out{Lock: slices.Concat([]byte{96}, make([]byte, 96), []byte{127 + api.OpDrop, 1, 1})}
		isFull := false
		for !isFull {
			c, _ := m.Tree.Ctx(m.Tree.Len() - 1)
			b := mint.Block(c, mint.First(c.Height))
			switch c.Height % 5 {
			case 0:
				b = mint.Block(c, mint.First(c.Height, slices.Repeat([]api.Out{long}, 16)...))
			case 4:
				if coins := m.Coins(m.Tree.Len() - 1); len(coins) > 0 {
					b = mint.Block(c, mint.First(c.Height), mint.Spend(coins))
				}
			}
			x := text(t, b)
			s, _ := store.Open(d)
			room, undoRoom := s.Room(api.FileBlocks), s.Room(api.FileUndos)
			was := d.Image()
			r := n.Deliver(x)
			isFull = r.Said == api.SaidFull
			if !isFull {
				if want := m.Deliver(x); r != want {
					t.Fatalf("Deliver = %v, not %v", r, want)
				}
			} else if room < len(x) || undoRoom > 3000 || !bytes.Equal(d.Image(), was) {
				t.Errorf("full with room for %d and %d", room, undoRoom)
			}
		}
		same(t, d, n, m)
	})
	t.Run("state", func(t *testing.T) {
		// A refused id for which the state has no room.
		d := device(t, 64)
		n, m := open(t, d), mint.NewModel()
		i := uint64(0)
		for ; ; i++ {
			b := first(mint.Begin(), api.Subsidy+1+i)
			if 1+32*(len(m.Refused)+1)+1 > 8*128-16 {
				tooMuch(t, d, n, b)
				break
			}
			both(t, n, m, b)
		}
		if len(m.Refused) != 31 {
			t.Errorf("%d are refused", len(m.Refused))
		}
		tooMuch(t, d, n, first(mint.Begin(), 5))
		both(t, n, m, first(mint.Begin()))
		same(t, d, n, m)
	})
}

// lockOf answers a lock of 4 to 100 bytes that is open.
func lockOf(size int) []byte {
	return slices.Concat([]byte{byte(size - 4)}, make([]byte, size-4), []byte{127 + api.OpDrop, 1, 1})
}

// The edges of its room: what just fits is taken, a byte more is not.
func TestJustFull(t *testing.T) {
	put := func(t *testing.T, n *full.Node, m *mint.Model, b api.Block, want int) {
		t.Helper()
		x := text(t, b)
		r := n.Deliver(x)
		if r.Said != want {
			t.Fatalf("Deliver = %v, not %d", r, want)
		}
		if want != api.SaidFull {
			m.Deliver(x)
		}
	}
	locked := func(m *mint.Model, sizes ...int) api.Block {
		c, _ := m.Tree.Ctx(m.Tree.Len() - 1)
		var outs []api.Out
		for _, size := range sizes {
			outs = append(outs, api.Out{Lock: lockOf(size)})
		}
		return mint.Block(c, mint.First(c.Height, outs...))
	}
	t.Run("state", func(t *testing.T) {
		d := device(t, 64)
		n, m := open(t, d), mint.NewModel()
		for i := range uint64(28) {
			put(t, n, m, first(mint.Begin(), api.Subsidy+1+i), api.SaidRule)
		}
		put(t, n, m, locked(m, 62), api.SaidFull)
		put(t, n, m, locked(m, 61), api.SaidNew)
		s, _ := store.Open(d)
		if len(s.State()) != 8*128-16 {
			t.Errorf("the state has %d bytes", len(s.State()))
		}
		put(t, n, m, first(mint.Begin(), api.Subsidy+99), api.SaidFull)
		hold(t, open(t, d), m)
	})
	t.Run("blocks", func(t *testing.T) {
		d := device(t, 64)
		n, m := open(t, d), mint.NewModel()
		for range 30 {
			put(t, n, m, locked(m), api.SaidNew)
		}
		put(t, n, m, locked(m, 100, 100, 25), api.SaidFull)
		put(t, n, m, locked(m, 100, 100, 24), api.SaidNew)
		s, _ := store.Open(d)
		if s.Length(api.FileBlocks) != 3*8*128 {
			t.Errorf("the file of blocks has %d bytes", s.Length(api.FileBlocks))
		}
		hold(t, open(t, d), m)
	})
	t.Run("undos", func(t *testing.T) {
		d := device(t, 512)
		n, m := open(t, d), mint.NewModel()
		left := func() int {
			s, _ := store.Open(d)
			return 2*64*128 - s.Length(api.FileUndos)
		}
		// spend answers a block that spends the first coin of that lock, and makes so many.
		spend := func(size, makes int) api.Block {
			c, _ := m.Tree.Ctx(m.Tree.Len() - 1)
			for _, one := range m.Coins(m.Tree.Len() - 1) {
				if len(one.Lock) == size && one.Point.Height+api.Maturity <= c.Height {
					return mint.Block(c, mint.First(c.Height, mint.Free(make([]uint64, makes)...)...), mint.Spend([]api.Coin{one}))
				}
			}
			t.Fatalf("there is no coin of a lock of %d bytes", size)
			return api.Block{}
		}
		sizes := []int{4, 5, 6, 7, 8, 9, 10, 11, 12, 13, 14, 15, 16, 17, 18, 19, 20, 21, 22, 23, 24, 25, 26, 27, 28, 29, 30, 31, 32, 33, 34, 35, 36, 37, 38, 39, 40, 41, 42}
		for from := 0; from < len(sizes); from += 13 {
			put(t, n, m, locked(m, sizes[from:from+13]...), api.SaidNew)
		}
		for left() > 500 {
			c, _ := m.Tree.Ctx(m.Tree.Len() - 1)
			b := locked(m)
			if c.Height%5 == 0 {
				b = locked(m, slices.Repeat([]int{100}, 8)...)
			}
			var long []api.Coin
			for _, one := range m.Coins(m.Tree.Len() - 1) {
				if len(one.Lock) == 100 && one.Point.Height+api.Maturity <= c.Height && len(long) < 2 {
					long = append(long, one)
				}
			}
			if len(long) == 2 && c.Height%5 != 0 {
				b = mint.Block(c, mint.First(c.Height), mint.Spend(long))
			}
			put(t, n, m, b, api.SaidNew)
		}
		// A record's head, two counts, a coin, points: of these the lock's length makes up what is left.
		makes := (left() - 10 - 48 - 4) / 38
		size := left() - 10 - 48 - 38*makes
		put(t, n, m, spend(size+1, makes), api.SaidFull)
		put(t, n, m, spend(size, makes), api.SaidNew)
		if left() != 0 {
			t.Errorf("%d bytes are left", left())
		}
		hold(t, open(t, d), m)
	})
}

// P0.4: wherever the power is cut, whatever is kept and torn: opened anew a node is as it was ahead of the delivery, or behind it.
func TestPower(t *testing.T) {
	r := rand.New(rand.NewSource(7))
	// The walk: blocks with a fork, a refused one, and one that takes over.
	m := mint.NewModel()
	var walk [][]byte
	put := func(b api.Block) int {
		walk = append(walk, text(t, b))
		m.Deliver(text(t, b))
		return m.Tree.Len() - 1
	}
	at := 0
	for i := range 6 {
		c, _ := m.Tree.Ctx(at)
		at = put(first(c, 100, uint64(i)))
	}
	c, _ := m.Tree.Ctx(at)
	put(first(c, api.Subsidy+1))
	side, _ := m.Tree.Ctx(at - 2)
	x := put(first(side, 7))
	for range 3 {
		c, _ := m.Tree.Ctx(x)
		old := m.Coins(x)
		old = slices.DeleteFunc(old, func(one api.Coin) bool { return one.Point.Height+api.Maturity > c.Height })
		x = put(mint.Block(c, mint.First(c.Height, mint.Free(9)...), mint.Spend(old[:1], mint.Free(old[0].Value)...)))
	}
	if m.Tree.Best() != x {
		t.Fatal("the side chain did not take over")
	}
	// After each delivery: how many writes there were, and what the node is.
	d := device(t, 256)
	n := open(t, d)
	writes := []int{d.Writes()}
	models := []*mint.Model{mint.NewModel()}
	for i, b := range walk {
		n.Deliver(b)
		writes = append(writes, d.Writes())
		next := mint.NewModel()
		for _, b := range walk[:i+1] {
			next.Deliver(b)
		}
		models = append(models, next)
	}
	ahead, behind := 0, 0
	for after := range writes[len(writes)-1] {
		keep, torn := []int{0, 1, 2, 3, 6, 99}[r.Intn(6)], r.Intn(129)
		d := device(t, 256)
		n := open(t, d)
		d.Cut(after)
		k := 0
		for ; k < len(walk); k++ {
			id, height := n.Tip()
			reply := n.Deliver(walk[k])
			if reply.Said != api.SaidPower {
				continue
			}
			if reply != (api.Reply{Said: api.SaidPower, Why: api.ErrPower}) {
				t.Fatalf("Deliver = %v", reply)
			}
			// From then on Deliver says that; the others tell what they told.
			if again := n.Deliver(nil); again != reply {
				t.Fatalf("Deliver again = %v", again)
			}
			if nowId, nowHeight := n.Tip(); nowId != id || nowHeight != height || !slices.Equal(n.Refused(), models[k].Refused) || n.Tree().Len() != models[k].Tree.Len() || !sameCoins(n.Coins(), models[k].Coins(models[k].Tree.Best())) {
				t.Fatal("without power a node tells something else")
			}
			_, e1 := n.Block(1)
			_, e2 := n.Undo(1)
			_, e3 := n.Table(0)
			want := api.ErrPower
			if n.Tree().Len() == 1 {
				want = api.ErrArg
			}
			if e1 != want || e2 != want || e3 != api.ErrPower {
				t.Fatalf("Block: %d, Undo: %d, Table: %d", e1, e2, e3)
			}
			break
		}
		if k == len(walk) || after < writes[k] || after >= writes[k+1] {
			t.Fatalf("cut behind %d writes: met at %d", after, k)
		}
		ok(t, "On", d.On(keep, torn), api.OK)
		if again := n.Deliver(walk[k]); again.Said != api.SaidPower {
			t.Fatalf("Deliver, not opened anew = %v", again)
		}
		// Also where it is cut while it is opened.
		d.Cut(r.Intn(4))
		if _, e := full.Open(d); e != api.OK {
			ok(t, "Open", e, api.ErrPower)
			ok(t, "On", d.On(r.Intn(3), torn), api.OK)
		}
		d.On(99, 0)
		n = open(t, d)
		if is := n.Tree().Len() == models[k].Tree.Len() && len(n.Refused()) == len(models[k].Refused); is {
			ahead++
			hold(t, n, models[k])
		} else {
			behind++
			hold(t, n, models[k+1])
		}
		// It goes on from there as one that never was cut.
		for _, b := range walk[k:] {
			n.Deliver(b)
		}
		hold(t, n, m)
	}
	if ahead < 20 || behind < 20 {
		t.Errorf("%d ahead, %d behind", ahead, behind)
	}
}

// Power that is lost without a delivery that met it: what cannot be read is not told.
func TestPowerLostMeanwhile(t *testing.T) {
	a := first(mint.Begin(), 10)
	b := first(mint.Upon(a, 1), 20)
	side := first(mint.Upon(a, 1), 21)
	start := func() (*dev.Dev, *full.Node) {
		d := device(t, 512)
		n := open(t, d)
		said(t, n, a, api.SaidNew, api.OK)
		said(t, n, b, api.SaidNew, api.OK)
		d.Cut(0)
		d.Write(0, make([]byte, api.Sector))
		return d, n
	}
	d, n := start()
	for k := 1; k <= 2; k++ {
		x, e1 := n.Block(k)
		u, e2 := n.Undo(k)
		c, e3 := n.Table(k)
		if len(x) != 0 || len(u.Made) != 0 || c != nil || e1 != api.ErrPower || e2 != api.ErrPower || e3 != api.ErrPower {
			t.Errorf("Block(%d): %d, Undo: %d, Table: %d", k, e1, e2, e3)
		}
	}
	if c, e := n.Table(0); c != nil || e != api.ErrPower {
		t.Errorf("Table(0): %d", e)
	}
	if _, e := n.Table(3); e != api.ErrArg {
		t.Errorf("Table(3): %d", e)
	}
	// No delivery has met it: when it is there again, all goes on.
	d.On(0, 0)
	if x, e := n.Block(1); len(x) == 0 || e != api.OK {
		t.Errorf("Block: %d", e)
	}
	said(t, n, side, api.SaidNew, api.OK)
	d, n = start()
	// The coins at its parent cannot be worked out.
	said(t, n, side, api.SaidPower, api.ErrPower)
	d.On(0, 0)
	said(t, n, side, api.SaidPower, api.ErrPower)
	said(t, open(t, d), side, api.SaidNew, api.OK)
}

// A node that refused, and took nothing.
func TestJustRefused(t *testing.T) {
	d := device(t, 64)
	n := open(t, d)
	bad := first(mint.Begin(), api.Subsidy+1)
	said(t, n, bad, api.SaidRule, api.ErrRule)
	n = open(t, d)
	if l := n.Refused(); !slices.Equal(l, []api.Hash{idOf(bad)}) {
		t.Errorf("Refused = %x", l)
	}
	said(t, n, bad, api.SaidRule, api.ErrTwice)
}

// P29.2

func TestArguments(t *testing.T) {
	n := open(t, device(t, 512))
	said(t, n, first(mint.Begin(), 10), api.SaidNew, api.OK)
	for _, k := range []int{-1, 0, 1, 2, math.MinInt, math.MaxInt} {
		b, e1 := n.Block(k)
		u, e2 := n.Undo(k)
		x, e3 := n.Table(k)
		want := api.ErrArg
		if k == 1 {
			want = api.OK
		}
		if e1 != want || e2 != want || (len(b) != 0) != (k == 1) || (len(u.Made) != 0) != (k == 1) {
			t.Errorf("Block(%d): %d, Undo: %d", k, e1, e2)
		}
		if k == 0 {
			want = api.OK
		}
		if e3 != want || (x != nil) != (want == api.OK) {
			t.Errorf("Table(%d): %d", k, e3)
		}
	}
}

// Rule 5: a nil pointer, and a zero object.
func TestNil(t *testing.T) {
	for _, n := range []*full.Node{nil, {}} {
		id, height := n.Tip()
		if n.Deliver(nil) != (api.Reply{}) || n.Deliver(text(t, first(mint.Begin()))) != (api.Reply{}) || id != (api.Hash{}) || height != 0 || len(n.Coins()) != 0 || len(n.Refused()) != 0 || n.Tree() != nil {
			t.Error("of nil something is told")
		}
		_, e1 := n.Block(1)
		_, e2 := n.Undo(-1)
		_, e3 := n.Table(0)
		for _, e := range []api.Errno{e1, e2, e3} {
			ok(t, "of nil", e, api.ErrNil)
		}
	}
}

// The rules that hold everywhere: what is handed in stays as it is, what is answered is new memory.
func TestMemory(t *testing.T) {
	n, m := open(t, device(t, 512)), mint.NewModel()
	room := append(text(t, first(mint.Begin(), 10, 20)), 1, 2, 3)
	was := bytes.Clone(room)
	x := room[:len(room)-3]
	m.Deliver(bytes.Clone(x))
	n.Deliver(x)
	if !bytes.Equal(room, was) {
		t.Error("what was delivered has changed")
	}
	bad := text(t, first(mint.Begin(), api.Subsidy+1))
	n.Deliver(bad)
	m.Deliver(bad)
	for i := range room {
		room[i] ^= 255
	}
	coins, ids, tree := n.Coins(), n.Refused(), n.Tree()
	for i, c := range coins[:cap(coins)] {
		for k := range c.Lock[:cap(c.Lock)] {
			c.Lock[:cap(c.Lock)][k] ^= 255
		}
		coins[:cap(coins)][i] = api.Coin{}
	}
	for i := range ids[:cap(ids)] {
		ids[:cap(ids)][i] = api.Hash{}
	}
	tree.Add(api.Head{Prev: head.Id(head.Begin()), Bits: 0x01010000})
	for _, k := range []int{0, 1} {
		c, _ := n.Table(k)
		c.Put(api.Coin{Value: 1})
		c.Take(mint.Coin(m.Blocks[1].Txs[0], 0, 1).Point)
	}
	b, _ := n.Block(1)
	u, _ := n.Undo(1)
	b[0]++
	u.Made[0] = api.Point{}
	hold(t, n, m)
}
