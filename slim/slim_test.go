package slim_test

import (
	"bytes"
	"math"
	"math/rand"
	"slices"
	"testing"

	"moneyer/api"
	"moneyer/block"
	"moneyer/bridge"
	"moneyer/check"
	"moneyer/coin"
	"moneyer/dev"
	"moneyer/ends"
	"moneyer/full"
	"moneyer/head"
	"moneyer/mint"
	"moneyer/place"
	"moneyer/proof"
	"moneyer/sha"
	"moneyer/slim"
	"moneyer/store"
	"moneyer/stump"
)

func ok(t *testing.T, what string, got, want api.Errno) {
	t.Helper()
	if got != want {
		t.Errorf("%s: %d, not %d", what, got, want)
	}
}

func device(t *testing.T, sectors int) *dev.Dev {
	t.Helper()
	d, e := dev.New(sectors)
	if e != api.OK {
		t.Fatal(e)
	}
	return d
}

func open(t *testing.T, d *dev.Dev, room int) *slim.Slim {
	t.Helper()
	s, e := slim.Open(d, room)
	if s == nil || e != api.OK {
		t.Fatalf("Open: %d", e)
	}
	return s
}

func text(t *testing.T, b api.Block) []byte {
	t.Helper()
	x, e := block.Put(b)
	if e != api.OK {
		t.Fatal(e)
	}
	return x
}

func idOf(b api.Block) api.Hash { return head.Id(b.Head) }

// bare answers a block with nothing that proves it.
func bare(t *testing.T, b api.Block) []byte {
	t.Helper()
	return packed(t, text(t, b), nil, api.Proof{})
}

func packed(t *testing.T, x []byte, data [][]byte, p api.Proof) []byte {
	t.Helper()
	y, e := bridge.Pack(x, data, p)
	if e != api.OK {
		t.Fatal(e)
	}
	return y
}

// first answers a block of a first transaction alone, that makes free coins.
func first(c api.Ctx, values ...uint64) api.Block {
	return mint.Block(c, mint.First(c.Height, mint.Free(values...)...))
}

// upon answers what stands upon the tip.
func upon(s *slim.Slim) api.Ctx {
	blocks := s.Tree()
	c, _ := blocks.Ctx(blocks.Best())
	return c
}

func said(t *testing.T, s *slim.Slim, x []byte, want int, why api.Errno) {
	t.Helper()
	r := s.Deliver(x)
	id, height := s.Tip()
	if want == api.SaidPower {
		id, height = api.Hash{}, 0
	}
	if r != (api.Reply{Said: want, Why: why, Tip: id, Height: height}) {
		t.Errorf("Deliver = %v, not %d, %d", r, want, why)
	}
}

// A side is a bridge, the model of its coins, and what of it proves a block.
type side struct {
	t *testing.T
	b *bridge.Bridge
	m *mint.Model
}

func newSide(t *testing.T) *side {
	b, e := bridge.Open(device(t, api.MaxSectors))
	ok(t, "bridge.Open", e, api.OK)
	return &side{t, b, mint.NewModel()}
}

func (s *side) deliver(x []byte) api.Reply {
	s.t.Helper()
	got, want := s.b.Deliver(x), s.m.Deliver(x)
	if got != want {
		s.t.Fatalf("the bridge says %v, not %v", got, want)
	}
	return got
}

// proving answers the bytes of a block with the coins that it spends and their proof, also of a block that the bridge did not take; just of those that are there.
func (s *side) proving(b api.Block, held []api.Place) []byte {
	s.t.Helper()
	x := text(s.t, b)
	parent, e := s.m.Tree.Find(b.Head.Prev)
	if e != api.OK {
		return packed(s.t, x, nil, api.Proof{})
	}
	c, _ := s.m.Tree.Ctx(parent)
	points, _ := check.Outside(b, c.Height)
	coins, gone, _ := s.b.Leaves(parent)
	w, _ := s.b.Wood(parent)
	var leaves []uint64
	var data [][]byte
	for i, one := range coins {
		if !gone[i] && slices.Contains(points, one.Point) {
			leaves = append(leaves, uint64(i))
			text, _ := coin.Put(one)
			data = append(data, text)
		}
	}
	p, e := proof.Prove(w, leaves, held)
	ok(s.t, "Prove", e, api.OK)
	return packed(s.t, x, data, p)
}

// held answers the places of what the node holds, if the block stands upon its tip.
func held(s *slim.Slim, b api.Block) []api.Place {
	if id, _ := s.Tip(); id != b.Head.Prev {
		return nil
	}
	var l []api.Place
	for _, h := range s.Held() {
		l = append(l, h.Place)
	}
	return l
}

// hold holds a node against a full node's model, and its stumps against the forests of the bridge.
func hold(t *testing.T, s *slim.Slim, m *mint.Model, b *bridge.Bridge) {
	t.Helper()
	id, height := s.Tip()
	wantId, wantHeight := m.Tip()
	if id != wantId || height != wantHeight || !slices.Equal(s.Refused(), m.Refused) {
		t.Fatalf("Tip = %x, %d, Refused = %x", id, height, s.Refused())
	}
	x := s.Tree()
	if x.Len() != m.Tree.Len() || x.Best() != m.Tree.Best() {
		t.Fatalf("Tree: %d, %d", x.Len(), x.Best())
	}
	for k := range x.Len() {
		got, _ := x.Known(k)
		want, _ := m.Tree.Known(k)
		if got != want {
			t.Fatalf("Known(%d) = %v", k, got)
		}
		n, e := b.Tree().Find(got.Id)
		ok(t, "Find", e, api.OK)
		w, _ := b.Wood(n)
		st, e := s.Stump(k)
		if e != api.OK || !stump.Same(st, w.Stump()) {
			t.Fatalf("Stump(%d) = %v, %d, not %v", k, st, e, w.Stump())
		}
	}
}

// holdHeld holds what is held to be what the forest of the tip has there.
func holdHeld(t *testing.T, s *slim.Slim, b *bridge.Bridge) {
	t.Helper()
	id, _ := s.Tip()
	n, _ := b.Tree().Find(id)
	w, _ := b.Wood(n)
	for _, h := range s.Held() {
		if v, e := w.Value(h.Place); e != api.OK || v != h.Node {
			t.Fatalf("held is %v, the forest has %v, %d", h, v, e)
		}
	}
}

// The chapter's examples.
func TestExamples(t *testing.T) {
	d := device(t, 64)
	s, e := slim.Open(d, 3)
	if s != nil || e != api.ErrArg {
		t.Errorf("Open(a new device, 3): %d", e)
	}
	s = open(t, d, 4)
	if id, height := s.Tip(); id != head.Id(head.Begin()) || height != 0 || len(s.Held()) != 0 {
		t.Errorf("Tip = %x, %d", id, height)
	}
	if st, e := s.Stump(0); st.N != 0 || len(st.Roots) != 0 || e != api.OK {
		t.Errorf("Stump(0) = %v, %d", st, e)
	}
	ok(t, "Drop(0)", s.Drop(0), api.ErrNone)
	if r := s.Deliver(nil); r.Said != api.SaidForm || r.Why != api.ErrShort || r.Tip != head.Id(head.Begin()) {
		t.Errorf("Deliver(none) = %v", r)
	}
}

// P31.1: the answers one by one, as the words say them.
func TestDeliver(t *testing.T) {
	w := newSide(t)
	s := open(t, device(t, 1024), 20)
	at := 0
	next := func(b api.Block) {
		t.Helper()
		w.deliver(text(t, b))
		said(t, s, w.proving(b, held(s, b)), api.SaidNew, api.OK)
		at = w.m.Tree.Len() - 1
	}
	ctx := func() api.Ctx { c, _ := w.m.Tree.Ctx(at); return c }
	for i := range uint64(6) {
		next(first(ctx(), 100+i, 200+i))
	}
	// (a)
	c := ctx()
	good := first(c, 7)
	x := bare(t, good)
	for n := range len(x) - 4 {
		said(t, s, x[:n], api.SaidForm, api.ErrShort)
	}
	said(t, s, []byte{253, 33, 78}, api.SaidForm, api.ErrLimit)
	said(t, s, ends.Row(make([]byte, api.MaxBlock+1)), api.SaidForm, api.ErrLimit)
	said(t, s, ends.Row(make([]byte, api.MaxBlock)), api.SaidForm, api.ErrForm)
	said(t, s, []byte{253, 9, 0}, api.SaidForm, api.ErrForm)
	said(t, s, []byte{0}, api.SaidForm, api.ErrShort)
	said(t, s, packed(t, append(text(t, good), 0), nil, api.Proof{}), api.SaidForm, api.ErrForm)
	unsealed := good
	unsealed.Head.Root[0]++
	said(t, s, bare(t, unsealed), api.SaidForm, api.ErrRule)
	// (b) and (c), whatever stands behind the block.
	said(t, s, bare(t, w.m.Blocks[3]), api.SaidOld, api.ErrTwice)
	said(t, s, append(bare(t, w.m.Blocks[3]), 9), api.SaidOld, api.ErrTwice)
	bad := first(c, api.Subsidy+1)
	said(t, s, bare(t, bad), api.SaidRule, api.ErrRule)
	said(t, s, append(bare(t, bad), 9), api.SaidRule, api.ErrTwice)
	child := first(mint.Upon(bad, c.Height), 1)
	said(t, s, append(bare(t, child), 9), api.SaidRule, api.ErrRule)
	said(t, s, bare(t, child), api.SaidRule, api.ErrTwice)
	if !slices.Equal(s.Refused(), []api.Hash{idOf(bad), idOf(child)}) {
		t.Errorf("Refused = %x", s.Refused())
	}
	// (d)
	said(t, s, append(bare(t, first(mint.Upon(good, c.Height))), 9), api.SaidOrphan, api.ErrNone)
	// (e)
	for _, behind := range [][]byte{{0}, {0, 0}, {1, 0, 0, 0}, {0, 0, 0, 0}, {0, 0, 1, 1}, {0, 1, 0, 0}} {
		said(t, s, append(ends.Row(text(t, good)), behind...), api.SaidProof, api.ErrProof)
	}
	coins := slices.DeleteFunc(w.m.Coins(at), func(one api.Coin) bool { return one.Point.Height+api.Maturity > c.Height })
	spends := mint.Block(c, mint.First(c.Height, mint.Free(1)...), mint.Spend(coins[:2], mint.Free(50)...))
	said(t, s, bare(t, spends), api.SaidProof, api.ErrProof)
	// A coin that is not there cannot be proved, here or elsewhere: nothing is refused.
	missing := api.Coin{Point: api.Point{N: 9}, Value: 5}
	data, _ := coin.Put(missing)
	lost := mint.Block(c, mint.First(c.Height), mint.Spend([]api.Coin{missing}))
	for _, p := range []api.Proof{{}, {Leaves: []uint64{0}}, {Leaves: []uint64{11}, Values: slices.Repeat([]api.Given{{Kind: api.GivenNone}}, 2)}} {
		said(t, s, packed(t, text(t, lost), [][]byte{data}, p), api.SaidProof, api.ErrProof)
	}
	if len(s.Refused()) != 2 {
		t.Errorf("Refused = %x", s.Refused())
	}
	// (f): proved, but not to be.
	for i, b := range []api.Block{
		mint.Block(c, mint.First(c.Height, mint.Free(api.Subsidy+400)...), mint.Spend(coins[:2], mint.Free(50)...)),
		mint.Block(c, mint.First(c.Height), mint.Spend(coins[:2], mint.Free(5000)...)),
		mint.Block(c, mint.First(c.Height+1), mint.Spend(coins[:2], mint.Free(50)...)),
	} {
		said(t, s, w.proving(b, nil), api.SaidRule, api.ErrRule)
		if l := s.Refused(); len(l) != 3+i || l[2+i] != idOf(b) {
			t.Errorf("Refused = %x", l)
		}
	}
	young := w.m.Coins(at)[slices.IndexFunc(w.m.Coins(at), func(one api.Coin) bool { return one.Point.Height+api.Maturity == c.Height+1 })]
	said(t, s, w.proving(mint.Block(c, mint.First(c.Height), mint.Spend([]api.Coin{young})), nil), api.SaidRule, api.ErrRule)
	shut := mint.Spend(coins[:1])
	shut.Ins[0].Unlock = []byte{1, 1}
	said(t, s, w.proving(mint.Block(c, mint.First(c.Height), shut), nil), api.SaidRule, api.ErrScript)
	// (g)
	next(spends)
	hold(t, s, &mint.Model{Tree: w.m.Tree, Refused: s.Refused()}, w.b)
}

// P31.1 (e): the data are, each once, the coins that are spent, by the leaves of the proof.
func TestWitness(t *testing.T) {
	w := newSide(t)
	d := device(t, 1024)
	s := open(t, d, 20)
	at := 0
	for i := range uint64(6) {
		c, _ := w.m.Tree.Ctx(at)
		b := first(c, 100+i, 200+i)
		w.deliver(text(t, b))
		said(t, s, bare(t, b), api.SaidNew, api.OK)
		at = w.m.Tree.Len() - 1
	}
	c, _ := w.m.Tree.Ctx(at)
	coins, _, _ := w.b.Leaves(at)
	// The inputs stand in another order than the leaves.
	b := mint.Block(c, mint.First(c.Height, mint.Free(1, 2)...), mint.Spend([]api.Coin{coins[3], coins[0]}, mint.Free(50)...), mint.Spend([]api.Coin{coins[2]}, mint.Free(3)...))
	_, data, p, e := bridge.Unpack(w.proving(b, nil))
	ok(t, "Unpack", e, api.OK)
	if !slices.Equal(p.Leaves, []uint64{0, 2, 3}) {
		t.Fatalf("the leaves are %v", p.Leaves)
	}
	other := func(i int, change func(*api.Coin)) [][]byte {
		l := slices.Clone(data)
		c, _ := coin.Read(l[i])
		change(&c)
		l[i], _ = coin.Put(c)
		return l
	}
	x := text(t, b)
	was, writes := d.Image(), d.Writes()
	values := func(i int, v api.Given) api.Proof {
		l := slices.Clone(p.Values)
		l[i] = v
		return api.Proof{Leaves: p.Leaves, Values: l}
	}
	for i, wrong := range [][]byte{
		packed(t, x, data[:2], p), packed(t, x, data[:2], api.Proof{Leaves: p.Leaves[:2], Values: p.Values}),
		packed(t, x, [][]byte{data[1], data[0], data[2]}, p),
		packed(t, x, [][]byte{data[0], data[0], data[2]}, p),
		packed(t, x, append(slices.Clone(data), data[0]), p),
		packed(t, x, append(slices.Clone(data), nil), p),
		packed(t, x, [][]byte{data[0], data[1], append(bytes.Clone(data[2]), 0)}, p),
		packed(t, x, [][]byte{data[0], data[1], data[2][:9]}, p),
		packed(t, x, other(1, func(c *api.Coin) { c.Value++ }), p),
		packed(t, x, other(1, func(c *api.Coin) { c.Base = false }), p),
		packed(t, x, other(1, func(c *api.Coin) { c.Lock = nil }), p),
		packed(t, x, other(1, func(c *api.Coin) { c.Point.Height++ }), p),
		packed(t, x, data, api.Proof{Leaves: []uint64{0, 1, 3}, Values: p.Values}),
		packed(t, x, data, api.Proof{Leaves: []uint64{0, 2, 2}, Values: p.Values}),
		packed(t, x, data, api.Proof{Leaves: p.Leaves, Values: p.Values[1:]}),
		packed(t, x, data, api.Proof{Leaves: p.Leaves, Values: append(slices.Clone(p.Values), api.Given{Kind: api.GivenNone})}),
		packed(t, x, data, values(0, api.Given{Kind: api.GivenNone})),
		packed(t, x, data, values(0, api.Given{Kind: api.GivenHash, H: api.Hash{1}})),
		append(packed(t, x, data, p), 0),
		packed(t, x, data, p)[:len(x)+20],
		bare(t, b),
	} {
		said(t, s, wrong, api.SaidProof, api.ErrProof)
		if !bytes.Equal(d.Image(), was) || d.Writes() != writes {
			t.Fatalf("%d: something was written", i)
		}
	}
	// What is held counts upon the tip alone.
	var all []api.Place
	for _, h := range s.Held() {
		all = append(all, h.Place)
	}
	c, _ = w.m.Tree.Ctx(5)
	fork := first(c, 9)
	w.deliver(text(t, fork))
	said(t, s, bare(t, fork), api.SaidNew, api.OK)
	c, _ = w.m.Tree.Ctx(w.m.Tree.Len() - 1)
	upon := mint.Block(c, mint.First(c.Height), mint.Spend(coins[:1]))
	y := w.proving(upon, all)
	if _, _, p, _ := bridge.Unpack(y); !slices.Contains(p.Values, api.Given{Kind: api.GivenHeld}) {
		t.Error("nothing of the proof is held")
	}
	said(t, s, y, api.SaidProof, api.ErrProof)
	said(t, s, w.proving(upon, nil), api.SaidNew, api.OK)
	w.deliver(text(t, upon))
	holdHeld(t, s, w.b)
}

// A run hands blocks of any kind to both sides: to the slim node mostly with what the bridge says of them.
type run struct {
	t    *testing.T
	r    *rand.Rand
	w    *side
	d    *dev.Dev
	room int
	s    *slim.Slim
	// What a full node is that was handed just the blocks to which the slim node did not say SaidProof.
	m      *mint.Model
	counts map[int]int
	// isTrue says that nothing but what a bridge attaches was handed in; spoils, that other things are to be.
	isTrue, spoils bool
	later          [][]byte
}

func newRun(t *testing.T, seed int64, room int) *run {
	d := device(t, 8192)
	return &run{t: t, r: rand.New(rand.NewSource(seed)), w: newSide(t), d: d, room: room, s: open(t, d, room), m: mint.NewModel(), counts: map[int]int{}, isTrue: true}
}

// give delivers bytes to the slim node, and holds its answer against the model's.
func (x *run) give(y []byte) api.Reply {
	x.t.Helper()
	image, writes := x.d.Image(), x.d.Writes()
	got := x.s.Deliver(y)
	x.counts[got.Said]++
	if got.Said == api.SaidProof {
		id, height := x.m.Tip()
		if got != (api.Reply{Said: api.SaidProof, Why: api.ErrProof, Tip: id, Height: height}) || !bytes.Equal(x.d.Image(), image) || x.d.Writes() != writes {
			x.t.Fatalf("SaidProof: %v", got)
		}
		return got
	}
	text, _, e := ends.GetRow(y, 0, api.MaxBlock)
	if e != api.OK {
		id, height := x.m.Tip()
		if got != (api.Reply{Said: api.SaidForm, Why: e, Tip: id, Height: height}) {
			x.t.Fatalf("Deliver = %v, not SaidForm", got)
		}
		return got
	}
	if want := x.m.Deliver(text); got != want {
		x.t.Fatalf("Deliver = %v, not %v", got, want)
	}
	if got.Said == api.SaidNew {
		// What was spoilt may hold all the same.
		x.w.deliver(text)
	}
	return got
}

// step makes a block, and hands it in; the bridge, which is handed it too, attaches to it, if it takes it.
func (x *run) step() {
	b := x.w.m.Some(x.r.Intn)
	y, e := block.Put(b)
	if e != api.OK || len(x.w.m.Refused) == api.MaxBad {
		return
	}
	// What a bridge has not got it cannot prove: of the coins that are not there nothing is said.
	proving := x.w.proving(b, held(x.s, b))
	if r := x.w.deliver(y); r.Said == api.SaidNew {
		attached, e := x.w.b.Attach(idOf(b), held(x.s, b))
		if e != api.OK || !bytes.Equal(attached, proving) {
			x.t.Fatalf("Attach: %d", e)
		}
	}
	x.later = append(x.later, proving)
	if x.r.Intn(3) == 0 {
		x.catchUp()
	}
	for x.spoils && x.r.Intn(2) == 0 {
		x.spoil()
	}
	if x.r.Intn(6) == 0 {
		return
	}
	x.give(proving)
	if x.r.Intn(5) == 0 {
		x.give(x.later[x.r.Intn(len(x.later))])
	}
	if l := x.s.Held(); x.r.Intn(4) == 0 && len(l) > 0 {
		n := x.r.Intn(len(l))
		ok(x.t, "Drop", x.s.Drop(n), api.OK)
		if !slices.Equal(x.s.Held(), slices.Delete(slices.Clone(l), n, n+1)) {
			x.t.Fatalf("Held behind Drop(%d) = %v, not %v", n, x.s.Held(), l)
		}
	}
}

// catchUp hands in what the slim node has not got, up to one that it does not take.
func (x *run) catchUp() {
	for _, b := range x.w.m.Blocks[1:] {
		if _, e := x.s.Tree().Find(idOf(b)); e == api.OK {
			continue
		}
		y, e := x.w.b.Attach(idOf(b), held(x.s, b))
		ok(x.t, "Attach", e, api.OK)
		if x.give(y).Said != api.SaidNew {
			return
		}
	}
}

// spoil hands in something of the last ones with other data, or another proof.
func (x *run) spoil() {
	x.isTrue = false
	y := x.later[max(0, len(x.later)-1-x.r.Intn(3))]
	text, data, p, e := bridge.Unpack(y)
	if e != api.OK {
		x.t.Fatalf("Unpack: %d", e)
	}
	switch x.r.Intn(7) {
	case 0:
		y = bytes.Clone(y)
		y[x.r.Intn(len(y))] ^= byte(1 << x.r.Intn(8))
	case 1:
		y = y[:x.r.Intn(len(y)+1)]
	case 2:
		x.r.Shuffle(len(data), func(i, k int) { data[i], data[k] = data[k], data[i] })
		y = packed(x.t, text, data, p)
	case 3:
		_, other, q, _ := bridge.Unpack(x.later[x.r.Intn(len(x.later))])
		if x.r.Intn(2) == 0 {
			other = data
		}
		y = packed(x.t, text, other, q)
	case 4:
		for i := range p.Values {
			if x.r.Intn(4) == 0 {
				p.Values[i] = api.Given{Kind: uint8(1 + x.r.Intn(3))}
			}
		}
		y = packed(x.t, text, data, p)
	case 5:
		for i := range p.Leaves {
			p.Leaves[i] += uint64(x.r.Intn(2))
		}
		y = packed(x.t, text, data, p)
	case 6:
		if len(data) > 0 {
			c, _ := coin.Read(data[0])
			c.Value++
			data[0], _ = coin.Put(c)
		}
		y = packed(x.t, text, data, p)
	}
	x.give(y)
}

func (x *run) hold() {
	x.t.Helper()
	hold(x.t, x.s, x.m, x.w.b)
	if len(x.s.Held()) > x.room {
		x.t.Fatalf("%d are held", len(x.s.Held()))
	}
	if x.isTrue {
		holdHeld(x.t, x.s, x.w.b)
	}
}

// P0.2: whatever stands behind the blocks.
func TestWhatever(t *testing.T) {
	for seed := range int64(8) {
		x := newRun(t, seed, []int{0, 2, 30, 256}[seed%4])
		x.spoils = seed < 6
		for i := range 100 {
			x.step()
			if i%25 == 24 {
				x.hold()
				l := x.s.Held()
				// With whatever room it is opened anew: it has the one that it has.
				x.s = open(t, x.d, 2*x.r.Intn(129))
				x.hold()
				if !slices.Equal(x.s.Held(), l) {
					t.Fatalf("Held = %v, not %v", x.s.Held(), l)
				}
			}
		}
		for _, said := range []int{api.SaidNew, api.SaidOld, api.SaidOrphan, api.SaidForm, api.SaidRule, api.SaidProof} {
			if x.counts[said] == 0 && (x.spoils || said != api.SaidProof) {
				t.Errorf("nothing was answered by %d", said)
			}
		}
		if x.counts[api.SaidFull]+x.counts[api.SaidPower] > 0 {
			t.Errorf("%v", x.counts)
		}
	}
}

// P0.3: handed what a bridge attaches, whatever it holds, and however it is dropped, it never says SaidProof.
func TestWhatIsAttached(t *testing.T) {
	for seed := range int64(10) {
		x := newRun(t, 100+seed, []int{0, 2, 8, 60, 256}[seed%5])
		most := 0
		for i := range 60 {
			b := x.w.m.Some(x.r.Intn)
			y, e := block.Put(b)
			if e != api.OK || x.w.deliver(y).Said != api.SaidNew {
				continue
			}
			attached, e := x.w.b.Attach(idOf(b), held(x.s, b))
			ok(t, "Attach", e, api.OK)
			if r := x.give(attached); r.Said != api.SaidNew {
				t.Fatalf("Deliver = %v", r)
			}
			for most = max(most, len(x.s.Held())); len(x.s.Held()) > 0 && x.r.Intn(3) == 0; {
				ok(t, "Drop", x.s.Drop(x.r.Intn(len(x.s.Held()))), api.OK)
			}
			holdHeld(t, x.s, x.w.b)
			if i%20 == 19 {
				x.hold()
				x.s = open(t, x.d, 0)
				x.hold()
			}
		}
		x.hold()
		if x.room > 0 && x.room < 9 && most != x.room {
			t.Errorf("just %d are held, of %d", most, x.room)
		}
	}
}

// applied says what the slim node's words make of a block: what it holds, and the stump behind it.
func applied(t *testing.T, x []byte, before api.Stump, was []api.Held, room int, clears bool, made []api.Coin) ([]api.Held, api.Stump) {
	t.Helper()
	_, data, p, e := bridge.Unpack(x)
	ok(t, "Unpack", e, api.OK)
	var hashes, add []api.Hash
	for _, d := range data {
		hashes = append(hashes, sha.Leaf(d))
	}
	for _, c := range made {
		d, _ := coin.Put(c)
		add = append(add, sha.Leaf(d))
	}
	after, known, e := stump.Apply(before, hashes, p, was, add)
	ok(t, "Apply", e, api.OK)
	if clears {
		was = nil
	}
	slices.Reverse(known)
	for _, h := range was {
		if !slices.ContainsFunc(known, func(k api.Held) bool { return k.Place == h.Place }) {
			known = append(known, h)
		}
	}
	return known[:min(room, len(known))], after
}

// What is held, by the words: what Apply says, by places, rising, each newer than the one ahead; behind another tip's nothing else.
func TestHeld(t *testing.T) {
	for _, room := range []int{0, 2, 10, 34, 256} {
		w := newSide(t)
		s := open(t, device(t, 4096), room)
		put := func(parent int, b api.Block) int {
			t.Helper()
			tip := s.Tree().Best()
			was := s.Held()
			before, _ := s.Stump(parent)
			x := w.proving(b, held(s, b))
			w.deliver(text(t, b))
			said(t, s, x, api.SaidNew, api.OK)
			k := s.Tree().Len() - 1
			known, _ := w.m.Tree.Known(k)
			made, _ := check.Made(b, known.Height)
			have := was
			if parent != tip {
				have = nil
			}
			want, after := applied(t, x, before, have, room, parent != tip, made)
			if s.Tree().Best() != k {
				want = was
			}
			if !slices.Equal(s.Held(), want) {
				t.Fatalf("Held = %v, not %v", s.Held(), want)
			}
			if st, e := s.Stump(k); e != api.OK || !stump.Same(st, after) {
				t.Fatalf("Stump = %v, %d, not %v", st, e, after)
			}
			return k
		}
		grow := func(parent, many int, value uint64) int {
			for i := range many {
				c, _ := w.m.Tree.Ctx(parent)
				txs := []api.Tx{mint.First(c.Height, mint.Free(value, uint64(i), 5)...)}
				for k, one := range w.m.Coins(parent) {
					if one.Point.Height+api.Maturity <= c.Height && len(txs) < 4 && k%2 == 0 {
						txs = append(txs, mint.Spend([]api.Coin{one}, mint.Free(one.Value)...))
					}
				}
				parent = put(parent, mint.Block(c, txs...))
			}
			return parent
		}
		trunk := grow(0, 7, 100)
		left := grow(trunk, 3, 200)
		right := grow(trunk, 5, 300)
		left = grow(left, 4, 200)
		grow(right, 4, 300)
	}
}

// What stands on the device: the files and the state.
func TestWhatStandsThere(t *testing.T) {
	d := device(t, 1024)
	s := open(t, d, 6)
	w := newSide(t)
	a := first(mint.Begin(), 10, 20, 30)
	b := first(mint.Upon(a, 1))
	bad := first(mint.Upon(a, 1), api.Subsidy+1)
	for _, x := range []api.Block{a, b, bad} {
		w.deliver(text(t, x))
		s.Deliver(bare(t, x))
	}
	st, e := store.Open(d)
	ok(t, "store.Open", e, api.OK)
	blocks, _ := st.Records(api.FileBlocks)
	if len(blocks) != 2 || !bytes.Equal(blocks[0], text(t, a)) || !bytes.Equal(blocks[1], text(t, b)) {
		t.Errorf("the blocks are %x", blocks)
	}
	wood, _ := w.b.Wood(1)
	at := func(row uint8, at uint64) []byte {
		v, _ := wood.Value(api.Place{Row: row, At: at})
		return v.H[:]
	}
	want := slices.Concat([]byte{3, 1}, at(1, 0), []byte{1}, at(0, 2))
	stumps, _ := st.Records(api.FileUndos)
	if len(stumps) != 2 || !bytes.Equal(stumps[0], want) || !bytes.Equal(stumps[1], want) {
		t.Errorf("the stumps are %x, not %x", stumps, want)
	}
	id := idOf(bad)
	state := slices.Concat([]byte{1}, id[:], []byte{3, 4})
	for _, p := range []api.Place{{Row: 1}, {At: 2}, {At: 1}, {}} {
		state = slices.Concat(state, []byte{p.Row, byte(p.At), 0, 0, 0, 0, 0, 0, 0, 1}, at(p.Row, p.At))
	}
	if !bytes.Equal(st.State(), state) {
		t.Errorf("the state is %x, not %x", st.State(), state)
	}
	// A value that is none, where a leaf is gone.
	for range 4 {
		c, _ := w.m.Tree.Ctx(w.m.Tree.Best())
		b = first(c)
		w.deliver(text(t, b))
		s.Deliver(bare(t, b))
	}
	coins, _, _ := w.b.Leaves(1)
	c, _ := w.m.Tree.Ctx(w.m.Tree.Best())
	b = mint.Block(c, mint.First(c.Height), mint.Spend(coins))
	said(t, s, w.proving(b, held(s, b)), api.SaidNew, api.OK)
	none := []byte{0, 0, 0, 0, 0, 0, 0, 0, 0}
	state = slices.Concat([]byte{1}, id[:], []byte{3, 4, 1}, none, []byte{0, 2}, none[1:], []byte{0, 1}, none[1:], []byte{0}, none)
	st, _ = store.Open(d)
	stumps, _ = st.Records(api.FileUndos)
	if !bytes.Equal(st.State(), state) || !bytes.Equal(stumps[len(stumps)-1], []byte{3, 0, 0}) {
		t.Errorf("the state is %x, not %x; the stump %x", st.State(), state, stumps[len(stumps)-1])
	}
	l := s.Held()
	s = open(t, d, 0)
	if !slices.Equal(s.Held(), l) || len(l) != 4 {
		t.Errorf("Held = %v, not %v", s.Held(), l)
	}
	if got, e := s.Stump(s.Tree().Best()); e != api.OK || !stump.Same(got, api.Stump{N: 3, Roots: make([]api.Node, 2)}) {
		t.Errorf("Stump = %v, %d", got, e)
	}
}

// P31.1: what is no slim node's.
func TestOpen(t *testing.T) {
	for _, d := range []*dev.Dev{nil, {}} {
		for _, room := range []int{0, 3} {
			s, e := slim.Open(d, room)
			if s != nil || e != api.ErrNil {
				t.Errorf("Open of nil: %d", e)
			}
		}
	}
	for _, room := range []int{-1, -2, 1, 3, 255, 257, 258, math.MinInt, math.MaxInt, math.MaxInt - 1} {
		s, e := slim.Open(device(t, 64), room)
		if s != nil || e != api.ErrArg {
			t.Errorf("Open with room %d: %d", room, e)
		}
	}
	for _, room := range []int{0, 2, 128, 254, 256} {
		open(t, device(t, 64), room)
	}
	s, e := slim.Open(device(t, 63), 4)
	if s != nil || e != api.ErrArg {
		t.Errorf("Open of 63 sectors: %d", e)
	}
	d := device(t, 64)
	d.Cut(0)
	d.Write(0, make([]byte, api.Sector))
	for _, room := range []int{4, 5} {
		s, e = slim.Open(d, room)
		if s != nil || e != api.ErrPower {
			t.Errorf("Open without power: %d", e)
		}
	}
	// The store's errors are ahead of the room's, the room's ahead of the node's.
	d = device(t, 64)
	x := make([]byte, api.Sector)
	x[0] = 1
	d.Write(16, x)
	s, e = slim.Open(d, 3)
	if s != nil || e != api.ErrForm {
		t.Errorf("Open of no state: %d", e)
	}
	d = device(t, 64)
	st, _ := store.Open(d)
	st.Save([]byte{9})
	s, e = slim.Open(d, 3)
	if s != nil || e != api.ErrArg {
		t.Errorf("Open of no node's state with room 3: %d", e)
	}
	s, e = slim.Open(d, 4)
	if s != nil || e != api.ErrForm {
		t.Errorf("Open of no node's state: %d", e)
	}
	// A full node's device is none of a slim node, and the other way round.
	a := first(mint.Begin(), 10, 20)
	bad := first(mint.Begin(), api.Subsidy+1)
	for _, l := range [][]api.Block{{a}, {bad}, {bad, a}, {first(mint.Begin())}} {
		d, other := device(t, 256), device(t, 256)
		n, _ := full.Open(d)
		s := open(t, other, 4)
		for _, b := range l {
			n.Deliver(text(t, b))
			s.Deliver(bare(t, b))
		}
		s, e := slim.Open(d, 4)
		if s != nil || e != api.ErrForm {
			t.Errorf("Open of a full node's: %d", e)
		}
		n, e = full.Open(other)
		if n != nil || e != api.ErrForm {
			t.Errorf("full.Open of a slim node's: %d", e)
		}
	}
}

// stands is what a store may have.
type stands struct {
	blocks, stumps [][]byte
	state          []byte
}

// opens opens what stands so on a device.
func (x stands) opens(t *testing.T) (*slim.Slim, api.Errno) {
	t.Helper()
	d := device(t, 1024)
	st, _ := store.Open(d)
	for _, b := range x.blocks {
		st.Append(api.FileBlocks, b)
	}
	for _, b := range x.stumps {
		st.Append(api.FileUndos, b)
	}
	ok(t, "Save", st.Save(x.state), api.OK)
	s, e := slim.Open(d, 8)
	if (s != nil) != (e == api.OK) {
		t.Errorf("Open: %d", e)
	}
	return s, e
}

func TestWhatIsNoSlimNodes(t *testing.T) {
	d := device(t, 1024)
	s := open(t, d, 4)
	a := first(mint.Begin(), 10, 20)
	b := first(mint.Upon(a, 1), 30)
	bad := first(mint.Upon(a, 1), api.Subsidy+1)
	for _, x := range []api.Block{a, b, bad} {
		s.Deliver(bare(t, x))
	}
	st, _ := store.Open(d)
	blocks, _ := st.Records(api.FileBlocks)
	stumps, _ := st.Records(api.FileUndos)
	state := st.State()
	id := state[1:33]
	held := state[35:]
	// other answers the state with other ids, another room, another count of what is held, and that.
	other := func(ids []byte, room, many int, held ...[]byte) []byte {
		return slices.Concat(ends.Count(uint64(len(ids)/32)), ids, []byte{byte(room)}, ends.Count(uint64(many)), slices.Concat(held...))
	}
	var many []byte
	for i := range byte(65) {
		many = append(many, bytes.Repeat([]byte{i}, 32)...)
	}
	idOfA, begin := idOf(a), head.Id(head.Begin())
	at := func(row uint8, at byte, v []byte) []byte {
		return slices.Concat([]byte{row, at, 0, 0, 0, 0, 0, 0, 0}, v)
	}
	one := at(0, 2, []byte{0})
	spoilt := slices.Clone(held)
	spoilt[9] = 2
	with := func(i int, x []byte) [][]byte {
		l := slices.Clone(stumps)
		l[i] = x
		return l
	}
	upon := func(b api.Block) [][]byte { return [][]byte{text(t, a), text(t, b)} }
	early, easy, after, idle := b, b, b, b
	for head.Works(idle.Head) {
		idle.Head.Nonce++
	}
	early.Head.Time = a.Head.Time
	easy.Head.Bits = 0x207ffffe
	after.Txs = []api.Tx{mint.First(3, mint.Free(30)...)}
	for i, c := range []struct {
		x stands
		e api.Errno
	}{
		{stands{}, api.OK},
		{stands{blocks, stumps, state}, api.OK},
		{stands{blocks, stumps, other(id, 2, 3, held)}, api.ErrForm},
		{stands{blocks, stumps, other(id, 2, 0)}, api.OK},
		{stands{blocks, stumps, other(nil, 128, 0)}, api.OK},
		{stands{blocks, stumps, other(nil, 129, 0)}, api.ErrForm},
		{stands{blocks, stumps, other(nil, 255, 0)}, api.ErrForm},
		{stands{blocks, stumps, other(many[:64*32], 1, 1, one)}, api.OK},
		{stands{blocks, stumps, other(many, 1, 1, one)}, api.ErrForm},
		{stands{blocks, stumps, other(slices.Concat(id, many[:32], id), 0, 0)}, api.ErrForm},
		{stands{blocks, stumps, other(idOfA[:], 0, 0)}, api.ErrForm},
		{stands{blocks, stumps, other(begin[:], 0, 0)}, api.ErrForm},
		{stands{blocks, stumps, other(nil, 0, 1, one)}, api.ErrForm},
		{stands{blocks, stumps, other(nil, 1, 3, one, at(0, 1, []byte{0}), at(0, 0, []byte{0}))}, api.ErrForm},
		{stands{blocks, stumps, other(nil, 2, 3, one, at(0, 1, []byte{0}), at(0, 0, []byte{0}))}, api.OK},
		{stands{blocks, stumps, other(nil, 2, 2, one, one)}, api.ErrForm},
		{stands{blocks, stumps, other(nil, 2, 1, at(0, 3, []byte{0}))}, api.ErrForm},
		{stands{blocks, stumps, other(nil, 2, 1, at(1, 1, []byte{0}))}, api.ErrForm},
		{stands{blocks, stumps, other(nil, 2, 1, at(1, 0, []byte{0}))}, api.OK},
		{stands{blocks, stumps, other(nil, 2, 1, at(2, 0, []byte{0}))}, api.ErrForm},
		{stands{blocks, stumps, other(nil, 2, 1, at(255, 0, []byte{0}))}, api.ErrForm},
		{stands{blocks, stumps, other(nil, 2, 1, at(0, 0, []byte{2}))}, api.ErrForm},
		{stands{blocks, stumps, other(nil, 2, 1, at(0, 0, append([]byte{0}, id...)))}, api.ErrForm},
		{stands{blocks, stumps, slices.Concat(ends.Count(1), id, []byte{2, 253, 1, 0}, one)}, api.ErrForm},
		{stands{blocks, stumps, []byte{255, 255, 255, 255, 255, 255, 255, 255, 255}}, api.ErrForm},
		{stands{blocks, stumps, []byte{0, 0, 255, 255, 255, 255, 255, 255, 255, 255, 255}}, api.ErrForm},
		{stands{blocks, stumps, append(bytes.Clone(state), 0)}, api.ErrForm},
		{stands{blocks, stumps, nil}, api.ErrForm},
		{stands{blocks, stumps, []byte{0}}, api.ErrForm},
		{stands{blocks, stumps, []byte{0, 0}}, api.ErrForm},
		{stands{blocks, stumps, []byte{0, 0, 0}}, api.OK},
		{stands{nil, nil, []byte{0, 0, 0}}, api.OK},
		{stands{nil, nil, other(id, 9, 0)}, api.OK},
		{stands{nil, nil, other(nil, 9, 1, at(0, 0, []byte{0}))}, api.ErrForm},
		{stands{blocks, nil, nil}, api.ErrForm},
		{stands{nil, stumps, nil}, api.ErrForm},
		{stands{blocks, nil, other(nil, 2, 0)}, api.ErrForm},
		{stands{blocks[:1], stumps, other(nil, 2, 0)}, api.ErrForm},
		{stands{blocks, stumps[:1], other(nil, 2, 0)}, api.ErrForm},
		{stands{blocks[:1], stumps[:1], other(nil, 2, 0)}, api.OK},
		{stands{blocks[1:], stumps[1:], other(nil, 2, 0)}, api.ErrForm},
		{stands{[][]byte{blocks[1], blocks[0]}, [][]byte{stumps[1], stumps[0]}, other(nil, 2, 0)}, api.ErrForm},
		{stands{[][]byte{blocks[0], blocks[0]}, [][]byte{stumps[0], stumps[0]}, other(nil, 2, 0)}, api.ErrForm},
		{stands{[][]byte{append(bytes.Clone(blocks[0]), 0), blocks[1]}, stumps, other(nil, 2, 0)}, api.ErrForm},
		{stands{[][]byte{nil, nil}, stumps, other(nil, 2, 0)}, api.ErrForm},
		{stands{upon(mint.Mined(early)), stumps, other(nil, 2, 0)}, api.ErrForm},
		{stands{upon(mint.Mined(easy)), stumps, other(nil, 2, 0)}, api.ErrForm},
		{stands{upon(mint.Mined(after)), stumps, other(nil, 2, 0)}, api.ErrForm},
		{stands{upon(idle), stumps, other(nil, 2, 0)}, api.ErrForm},
		{stands{upon(b), stumps, other(nil, 2, 0)}, api.OK},
		{stands{blocks, with(1, nil), other(nil, 2, 0)}, api.ErrForm},
		{stands{blocks, with(1, stumps[0]), other(nil, 2, 0)}, api.ErrForm},
		{stands{blocks, with(0, stumps[1]), other(nil, 2, 0)}, api.ErrForm},
		{stands{blocks, with(1, []byte{3, 0, 0}), other(nil, 2, 0)}, api.OK},
		{stands{blocks, with(1, []byte{3, 0}), other(nil, 2, 0)}, api.ErrForm},
		{stands{blocks, with(1, []byte{3, 0, 0, 0}), other(nil, 2, 0)}, api.ErrForm},
		{stands{blocks, with(1, []byte{3, 0, 2}), other(nil, 2, 0)}, api.ErrForm},
		{stands{blocks, with(1, []byte{3, 0, 1, 7}), other(nil, 2, 0)}, api.ErrForm},
		{stands{blocks, with(1, []byte{253, 3, 0, 0, 0}), other(nil, 2, 0)}, api.ErrForm},
		{stands{blocks, with(1, []byte{253, 3}), other(nil, 2, 0)}, api.ErrForm},
		{stands{blocks, with(1, append(bytes.Clone(stumps[1]), 0)), other(nil, 2, 0)}, api.ErrForm},
		{stands{blocks, with(1, stumps[1][:9]), other(nil, 2, 0)}, api.ErrForm},
	} {
		if _, e := c.x.opens(t); e != c.e {
			t.Errorf("%d: Open: %d, not %d", i, e, c.e)
		}
	}
	for n := range state {
		if _, e := (stands{blocks, stumps, state[:n]}).opens(t); e != api.ErrForm {
			t.Errorf("the first %d bytes of the state: %d", n, e)
		}
	}
	// A record that cannot be read.
	for _, sector := range []int{3 * 128, 6 * 128} {
		x, _ := d.Read(sector)
		x[20]++
		d.Write(sector, x)
		if s, e := slim.Open(d, 4); s != nil || e != api.ErrForm {
			t.Errorf("Open of a spoilt record: %d", e)
		}
		x[20]--
		d.Write(sector, x)
	}
	open(t, d, 4)
}

// Beyond its room it says SaidFull, and has changed nothing.
func TestFull(t *testing.T) {
	tooMuch := func(t *testing.T, d *dev.Dev, s *slim.Slim, x []byte) {
		t.Helper()
		was, writes, held := d.Image(), d.Writes(), s.Held()
		said(t, s, x, api.SaidFull, api.ErrFull)
		if !bytes.Equal(d.Image(), was) || d.Writes() != writes || !slices.Equal(s.Held(), held) {
			t.Error("something has changed")
		}
	}
	both := func(t *testing.T, s *slim.Slim, m *mint.Model, b api.Block) {
		t.Helper()
		if got, want := s.Deliver(bare(t, b)), m.Deliver(text(t, b)); got != want {
			t.Fatalf("Deliver = %v, not %v", got, want)
		}
	}
	t.Run("blocks", func(t *testing.T) {
		d := device(t, 4096)
		s, m := open(t, d, 4), mint.NewModel()
		for range api.MaxBlocks - 1 {
			c, _ := m.Tree.Ctx(m.Tree.Len() - 1)
			both(t, s, m, mint.Block(c, mint.First(c.Height)))
		}
		c, _ := m.Tree.Ctx(m.Tree.Len() - 1)
		tooMuch(t, d, s, bare(t, first(c)))
		c, _ = m.Tree.Ctx(0)
		tooMuch(t, d, s, bare(t, first(c, 5)))
		both(t, s, m, first(c, api.Subsidy+1))
		both(t, s, m, m.Blocks[7])
		said(t, s, append(bare(t, first(c, 6)), 1), api.SaidProof, api.ErrProof)
	})
	t.Run("ids", func(t *testing.T) {
		d := device(t, 4096)
		s, m := open(t, d, 4), mint.NewModel()
		both(t, s, m, first(mint.Begin(), 5))
		bad := first(mint.Begin(), api.Subsidy+1)
		both(t, s, m, bad)
		for i := range uint64(api.MaxBad - 1) {
			if i%2 == 0 {
				both(t, s, m, first(mint.Begin(), api.Subsidy+2+i))
			} else {
				both(t, s, m, first(mint.Upon(bad, 1), i))
			}
		}
		tooMuch(t, d, s, bare(t, first(mint.Begin(), api.Subsidy+999)))
		tooMuch(t, d, s, bare(t, first(mint.Upon(bad, 1), 999)))
		both(t, s, m, bad)
		both(t, s, m, first(mint.Begin(), 6))
		if len(s.Refused()) != api.MaxBad {
			t.Errorf("%d are refused", len(s.Refused()))
		}
		if s := open(t, d, 4); len(s.Refused()) != api.MaxBad {
			t.Errorf("%d are refused", len(s.Refused()))
		}
	})
	t.Run("state", func(t *testing.T) {
		// What is held takes 42 bytes each: there is room for just so many beside the ids.
		d := device(t, 64)
		s, m := open(t, d, 256), mint.NewModel()
		for i := range uint64(10) {
			both(t, s, m, first(mint.Begin(), api.Subsidy+1+i))
		}
		c, _ := m.Tree.Ctx(0)
		// 10 leaves are 18 values: 3 + 10 * 32 + 18 * 42 is more than 1008; 9 leaves are 16 values: 995, and an id more is too much.
		tooMuch(t, d, s, bare(t, first(c, make([]uint64, 16)...)))
		tooMuch(t, d, s, bare(t, first(c, make([]uint64, 10)...)))
		both(t, s, m, first(c, make([]uint64, 9)...))
		if len(s.Held()) != 16 {
			t.Errorf("%d are held", len(s.Held()))
		}
		tooMuch(t, d, s, bare(t, first(mint.Begin(), api.Subsidy+99)))
		ok(t, "Drop", s.Drop(5), api.OK)
		both(t, s, m, first(mint.Begin(), api.Subsidy+99))
		if s := open(t, d, 0); len(s.Held()) != 15 || len(s.Refused()) != 11 {
			t.Errorf("%d are held, %d refused", len(s.Held()), len(s.Refused()))
		}
	})
	t.Run("blocks' file", func(t *testing.T) {
		d := device(t, 64)
		s, m := open(t, d, 0), mint.NewModel()
		for {
			c, _ := m.Tree.Ctx(m.Tree.Len() - 1)
			b := first(c)
			if st, _ := store.Open(d); st.Room(api.FileBlocks) < len(text(t, b)) {
				tooMuch(t, d, s, bare(t, b))
				break
			}
			both(t, s, m, b)
		}
		if m.Tree.Len() != 3072/91+1 {
			t.Errorf("there are %d blocks", m.Tree.Len())
		}
		hold(t, open(t, d, 0), m, bridgeOf(t, m))
	})
	t.Run("stumps' file", func(t *testing.T) {
		// A stump of 63 leaves has 6 roots: 207 bytes with the record's head.
		d := device(t, 64)
		s, m := open(t, d, 0), mint.NewModel()
		for _, many := range []int{16, 16, 16, 15, 0, 0, 0, 0, 0, 0, 0, 0, 0} {
			c, _ := m.Tree.Ctx(m.Tree.Len() - 1)
			b := first(c, make([]uint64, many)...)
			st, _ := store.Open(d)
			after := api.Stump{N: uint64(len(m.Coins(m.Tree.Len()-1)) + many)}
			if need := 1 + 33*len(place.Trees(after.N)); st.Room(api.FileUndos) < need {
				if st.Room(api.FileBlocks) < len(text(t, b)) {
					t.Fatal("the blocks' file is full, too")
				}
				tooMuch(t, d, s, bare(t, b))
				hold(t, open(t, d, 0), m, bridgeOf(t, m))
				return
			}
			both(t, s, m, b)
		}
		t.Error("the file was not full")
	})
}

// The edges of its room: what just fits is taken, a byte more is not.
func TestJustFull(t *testing.T) {
	put := func(t *testing.T, s *slim.Slim, b api.Block, want int) {
		t.Helper()
		if r := s.Deliver(bare(t, b)); r.Said != want {
			t.Fatalf("Deliver = %v, not %d", r, want)
		}
	}
	full := func(t *testing.T, d *dev.Dev, s *slim.Slim, b api.Block) {
		t.Helper()
		writes := d.Writes()
		put(t, s, b, api.SaidFull)
		if d.Writes() != writes {
			t.Error("something was written")
		}
	}
	length := func(d *dev.Dev, file int) int {
		st, _ := store.Open(d)
		return st.Length(file)
	}
	t.Run("state", func(t *testing.T) {
		// Ids of 32 bytes, values of 42, and 3 more: there is room for 1008.
		for _, c := range []struct{ ids, leaves, size int }{{13, 8, 1007}, {17, 7, 1009}} {
			d := device(t, 64)
			s := open(t, d, 14)
			for i := range uint64(c.ids) {
				put(t, s, first(mint.Begin(), api.Subsidy+1+i), api.SaidRule)
			}
			b := first(mint.Begin(), make([]uint64, c.leaves)...)
			if c.size > 1008 {
				full(t, d, s, b)
				continue
			}
			put(t, s, b, api.SaidNew)
			if st, _ := store.Open(d); len(st.State()) != c.size {
				t.Errorf("the state has %d bytes", len(st.State()))
			}
		}
	})
	t.Run("blocks", func(t *testing.T) {
		// Without coins a block is 83 bytes: 33 of these, with the records' heads, leave 69.
		for _, long := range []int{0, 1} {
			d := device(t, 64)
			s := open(t, d, 0)
			c := mint.Begin()
			for range 32 {
				b := first(c)
				put(t, s, b, api.SaidNew)
				c = upon(s)
			}
			b := mint.Block(c, mint.First(c.Height, api.Out{Lock: make([]byte, 60+long)}))
			if long > 0 {
				full(t, d, s, b)
				continue
			}
			put(t, s, b, api.SaidNew)
			if n := length(d, api.FileBlocks); n != 3*8*128 {
				t.Errorf("the file of blocks has %d bytes", n)
			}
		}
	})
	t.Run("stumps", func(t *testing.T) {
		// 3 stumps without roots, one of 16 leaves, one of 24, 20 of 28: 3 * 9 + 42 + 75 + 20 * 108 bytes.
		for _, more := range []int{0, 1} {
			d := device(t, 72)
			s := open(t, d, 0)
			c := mint.Begin()
			for i, many := range append(make([]int, 3+more), append([]int{16, 8, 4}, make([]int, 19)...)...) {
				b := first(c, make([]uint64, many)...)
				if i == 25 {
					full(t, d, s, b)
					break
				}
				put(t, s, b, api.SaidNew)
				c = upon(s)
			}
			if n := length(d, api.FileUndos); n != 2*9*128-99*more {
				t.Errorf("the file of stumps has %d bytes", n)
			}
		}
	})
}

// bridgeOf answers a bridge that was handed what the model has.
func bridgeOf(t *testing.T, m *mint.Model) *bridge.Bridge {
	t.Helper()
	b, e := bridge.Open(device(t, api.MaxSectors))
	ok(t, "bridge.Open", e, api.OK)
	for _, x := range m.Blocks[1:] {
		b.Deliver(text(t, x))
	}
	return b
}

// A deed is what is done to a node: bytes are delivered, or, if there are none, a value is dropped.
type deed struct {
	x    []byte
	drop int
}

// do answers no, if there was no power for it.
func (x deed) do(t *testing.T, s *slim.Slim) bool {
	t.Helper()
	if x.x != nil {
		return s.Deliver(x.x).Said != api.SaidPower
	}
	e := s.Drop(x.drop)
	if e != api.OK && e != api.ErrPower {
		t.Fatalf("Drop: %d", e)
	}
	return e == api.OK
}

// told is all that a node tells.
type told struct {
	tip     api.Hash
	refused []api.Hash
	held    []api.Held
	blocks  int
}

func tell(s *slim.Slim) told {
	id, _ := s.Tip()
	return told{id, s.Refused(), s.Held(), s.Tree().Len()}
}

func (a told) same(b told) bool {
	return a.tip == b.tip && slices.Equal(a.refused, b.refused) && slices.Equal(a.held, b.held) && a.blocks == b.blocks
}

// walk answers deeds with a fork, a refused block, one that takes over, and drops.
func walk(t *testing.T, room int) []deed {
	w := newSide(t)
	s := open(t, device(t, 512), room)
	var l []deed
	do := func(x deed) {
		if !x.do(t, s) {
			t.Fatal("a deed is not done")
		}
		l = append(l, x)
	}
	put := func(b api.Block) int {
		x := w.proving(b, held(s, b))
		w.deliver(text(t, b))
		do(deed{x: x})
		return w.m.Tree.Len() - 1
	}
	at := 0
	for i := range uint64(6) {
		c, _ := w.m.Tree.Ctx(at)
		at = put(first(c, 100, i))
	}
	c, _ := w.m.Tree.Ctx(at)
	put(first(c, api.Subsidy+1))
	do(deed{drop: 1})
	do(deed{drop: 0})
	side, _ := w.m.Tree.Ctx(at - 2)
	x := put(first(side, 7))
	for range 3 {
		c, _ := w.m.Tree.Ctx(x)
		old := slices.DeleteFunc(w.m.Coins(x), func(one api.Coin) bool { return one.Point.Height+api.Maturity > c.Height })
		x = put(mint.Block(c, mint.First(c.Height, mint.Free(9)...), mint.Spend(old[:1], mint.Free(old[0].Value)...)))
		do(deed{drop: len(s.Held()) / 2})
	}
	if w.m.Tree.Best() != x {
		t.Fatal("the side chain did not take over")
	}
	return l
}

// P0.4: wherever the power is cut, whatever is kept and torn: opened anew a node is as it was ahead, or behind.
func TestPower(t *testing.T) {
	const room = 12
	r := rand.New(rand.NewSource(9))
	deeds := walk(t, room)
	d := device(t, 512)
	s := open(t, d, room)
	writes := []int{d.Writes()}
	behind := []told{tell(s)}
	for _, x := range deeds {
		x.do(t, s)
		writes = append(writes, d.Writes())
		behind = append(behind, tell(s))
	}
	aheads, behinds := 0, 0
	for after := range writes[len(writes)-1] {
		keep, torn := []int{0, 1, 2, 3, 6, 99}[r.Intn(6)], r.Intn(129)
		d := device(t, 512)
		s := open(t, d, room)
		d.Cut(after)
		k := 0
		for k < len(deeds) && deeds[k].do(t, s) {
			k++
		}
		if k == len(deeds) || after < writes[k] || after >= writes[k+1] {
			t.Fatalf("cut behind %d writes: met at %d", after, k)
		}
		withoutPower(t, s, behind[k])
		ok(t, "On", d.On(keep, torn), api.OK)
		withoutPower(t, s, behind[k])
		// Also where it is cut while it is opened.
		d.Cut(r.Intn(4))
		if _, e := slim.Open(d, room); e != api.OK {
			ok(t, "Open", e, api.ErrPower)
			ok(t, "On", d.On(r.Intn(3), torn), api.OK)
		}
		d.On(99, 0)
		s = open(t, d, room)
		switch now := tell(s); {
		case now.same(behind[k]):
			aheads++
		case now.same(behind[k+1]):
			behinds++
			k++
		default:
			t.Fatalf("cut behind %d writes: %v, not %v or %v", after, now, behind[k], behind[k+1])
		}
		// It goes on from there as one that never was cut.
		for i, x := range deeds[k:] {
			if !x.do(t, s) || !tell(s).same(behind[k+i+1]) {
				t.Fatalf("behind a cut: %v, not %v", tell(s), behind[k+i+1])
			}
		}
	}
	if aheads < 20 || behinds < 20 {
		t.Errorf("%d ahead, %d behind", aheads, behinds)
	}
}

// withoutPower holds a node to say so from now on, and to tell what it told.
func withoutPower(t *testing.T, s *slim.Slim, was told) {
	t.Helper()
	for _, x := range [][]byte{nil, {0}, bare(t, first(mint.Begin(), 999))} {
		if r := s.Deliver(x); r != (api.Reply{Said: api.SaidPower, Why: api.ErrPower}) {
			t.Fatalf("Deliver = %v", r)
		}
	}
	for k := range s.Tree().Len() {
		st, e := s.Stump(k)
		if st.N != 0 || len(st.Roots) != 0 || e != api.ErrPower {
			t.Fatalf("Stump(%d) = %v, %d", k, st, e)
		}
	}
	_, e := s.Stump(s.Tree().Len())
	ok(t, "Stump", e, api.ErrArg)
	for _, n := range []int{-1, 0, 999} {
		ok(t, "Drop", s.Drop(n), api.ErrPower)
	}
	if !tell(s).same(was) {
		t.Fatal("without power a node tells something else")
	}
}

// Power that is lost without a delivery that met it.
func TestPowerLostMeanwhile(t *testing.T) {
	d := device(t, 256)
	s := open(t, d, 8)
	a := first(mint.Begin(), 10, 20)
	said(t, s, bare(t, a), api.SaidNew, api.OK)
	was := tell(s)
	d.Cut(0)
	d.Write(0, make([]byte, api.Sector))
	for k := range 2 {
		_, e := s.Stump(k)
		ok(t, "Stump", e, api.ErrPower)
	}
	for _, n := range []int{-1, 0, 9} {
		ok(t, "Drop", s.Drop(n), api.ErrPower)
	}
	if !tell(s).same(was) {
		t.Error("a node tells something else")
	}
	// No delivery has met it: when it is there again, all goes on.
	d.On(0, 0)
	ok(t, "Drop", s.Drop(0), api.OK)
	said(t, s, bare(t, first(mint.Upon(a, 1))), api.SaidNew, api.OK)
}

// A block whose parent's stump cannot be read.
func TestPowerLostAheadOfAProof(t *testing.T) {
	w := newSide(t)
	d := device(t, 512)
	s := open(t, d, 8)
	for i := range uint64(5) {
		b := first(upon(s), i)
		w.deliver(text(t, b))
		said(t, s, bare(t, b), api.SaidNew, api.OK)
	}
	c := upon(s)
	coins, _, _ := w.b.Leaves(5)
	x := w.proving(mint.Block(c, mint.First(c.Height), mint.Spend(coins[:1])), nil)
	d.Cut(0)
	d.Write(0, make([]byte, api.Sector))
	// What is named ahead of it is said without power, too.
	said(t, s, bare(t, w.m.Blocks[2]), api.SaidOld, api.ErrTwice)
	said(t, s, x[:len(x)-1], api.SaidProof, api.ErrProof)
	said(t, s, x, api.SaidPower, api.ErrPower)
	d.On(0, 0)
	said(t, s, x, api.SaidPower, api.ErrPower)
	said(t, open(t, d, 0), x, api.SaidNew, api.OK)
}

// P31.2

func TestArguments(t *testing.T) {
	d := device(t, 512)
	s := open(t, d, 8)
	said(t, s, bare(t, first(mint.Begin(), 10, 20, 30)), api.SaidNew, api.OK)
	for _, k := range []int{-1, 0, 1, 2, math.MinInt, math.MaxInt} {
		want, n := api.ErrArg, uint64(0)
		switch k {
		case 0:
			want = api.OK
		case 1:
			want, n = api.OK, 3
		}
		if st, e := s.Stump(k); e != want || st.N != n || (len(st.Roots) != 0) != (k == 1) {
			t.Errorf("Stump(%d) = %v, %d", k, st, e)
		}
	}
	l := s.Held()
	if len(l) != 4 {
		t.Fatalf("Held = %v", l)
	}
	writes := d.Writes()
	for _, n := range []int{-1, 4, 5, math.MinInt, math.MaxInt} {
		ok(t, "Drop", s.Drop(n), api.ErrNone)
	}
	if !slices.Equal(s.Held(), l) || d.Writes() != writes {
		t.Error("a Drop that is refused has changed something")
	}
	for _, n := range []int{3, 1, 0, 0} {
		ok(t, "Drop", s.Drop(n), api.OK)
		l = slices.Delete(l, n, n+1)
		if !slices.Equal(s.Held(), l) || !slices.Equal(open(t, d, 0).Held(), l) {
			t.Errorf("Held = %v, not %v", s.Held(), l)
		}
	}
	ok(t, "Drop", s.Drop(0), api.ErrNone)
}

// Rule 5: a nil pointer, and a zero object.
func TestNil(t *testing.T) {
	for _, s := range []*slim.Slim{nil, {}} {
		id, height := s.Tip()
		if s.Deliver(nil) != (api.Reply{}) || s.Deliver(bare(t, first(mint.Begin()))) != (api.Reply{}) || id != (api.Hash{}) || height != 0 || len(s.Held()) != 0 || len(s.Refused()) != 0 || s.Tree() != nil {
			t.Error("of nil something is told")
		}
		st, e := s.Stump(0)
		if st.N != 0 || len(st.Roots) != 0 {
			t.Error("of nil something is told")
		}
		ok(t, "Stump", e, api.ErrNil)
		ok(t, "Drop", s.Drop(0), api.ErrNil)
	}
}

// The rules that hold everywhere: what is handed in stays as it is, what is answered is new memory.
func TestMemory(t *testing.T) {
	s := open(t, device(t, 512), 8)
	a := first(mint.Begin(), 10, 20, 30)
	bad := first(mint.Begin(), api.Subsidy+1)
	for _, b := range []api.Block{a, bad} {
		x := bare(t, b)
		room := append(x, 1, 2, 3)
		was := bytes.Clone(room)
		s.Deliver(room[:len(x)])
		if !bytes.Equal(room, was) {
			t.Error("what was delivered has changed")
		}
		for i := range room {
			room[i] ^= 255
		}
	}
	was := tell(s)
	roots, _ := s.Stump(1)
	kept := slices.Clone(roots.Roots)
	held, ids, tree := s.Held(), s.Refused(), s.Tree()
	clear(held[:cap(held)])
	clear(ids[:cap(ids)])
	clear(roots.Roots[:cap(roots.Roots)])
	tree.Add(api.Head{Prev: head.Id(head.Begin()), Bits: 0x01010000})
	if again, _ := s.Stump(1); !slices.Equal(again.Roots, kept) || !tell(s).same(told{was.tip, []api.Hash{idOf(bad)}, s.Held(), 2}) || len(s.Held()) != 4 || s.Held()[0].Place != (api.Place{Row: 1}) {
		t.Error("answers share memory")
	}
}
