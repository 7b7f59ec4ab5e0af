package mint

import (
	"maps"
	"slices"

	"moneyer/api"
	"moneyer/block"
	"moneyer/check"
	"moneyer/coin"
	"moneyer/head"
	"moneyer/rule"
	"moneyer/target"
	"moneyer/tree"
)

// Model is what a node is to be: the blocks that hold, by their numbers in the tree, and the ids that were refused. It undoes nothing: of each block it has the coins.
type Model struct {
	Tree    *tree.Tree
	Blocks  []api.Block
	Refused []api.Hash
	coins   []map[api.Point]api.Coin
}

// NewModel answers one of the beginning alone.
func NewModel() *Model {
	return &Model{Tree: tree.New(), Blocks: []api.Block{{}}, coins: []map[api.Point]api.Coin{{}}}
}

// Coins answers the coins at a block, in order.
func (m *Model) Coins(n int) []api.Coin {
	return slices.SortedFunc(maps.Values(m.coins[n]), func(a, b api.Coin) int {
		if coin.Less(a.Point, b.Point) {
			return -1
		}
		return 1
	})
}

// Tip answers the id and the height of the best block.
func (m *Model) Tip() (api.Hash, uint32) {
	k, _ := m.Tree.Known(m.Tree.Best())
	return k.Id, k.Height
}

// Deliver answers what a node with enough room and power says.
func (m *Model) Deliver(x []byte) api.Reply {
	said, why := m.said(x)
	id, height := m.Tip()
	return api.Reply{Said: said, Why: why, Tip: id, Height: height}
}

func (m *Model) said(x []byte) (int, api.Errno) {
	b, e := block.Read(x)
	if e == api.OK {
		e = rule.Block(b)
	}
	if e != api.OK {
		return api.SaidForm, e
	}
	id := head.Id(b.Head)
	if _, e := m.Tree.Find(id); e == api.OK {
		return api.SaidOld, api.ErrTwice
	}
	if slices.Contains(m.Refused, id) {
		return api.SaidRule, api.ErrTwice
	}
	if slices.Contains(m.Refused, b.Head.Prev) {
		return m.refuse(id, api.ErrRule)
	}
	parent, e := m.Tree.Find(b.Head.Prev)
	if e != api.OK {
		return api.SaidOrphan, api.ErrNone
	}
	c, _ := m.Tree.Ctx(parent)
	points, _ := check.Outside(b, c.Height)
	coins := maps.Clone(m.coins[parent])
	var spent []api.Coin
	for _, p := range points {
		one, ok := coins[p]
		if !ok {
			return m.refuse(id, api.ErrNone)
		}
		delete(coins, p)
		spent = append(spent, one)
	}
	made, e := check.Block(b, c, spent)
	if e != api.OK {
		return m.refuse(id, e)
	}
	for _, one := range made.Coins {
		coins[one.Point] = one
	}
	m.Tree.Add(b.Head)
	m.Blocks = append(m.Blocks, b)
	m.coins = append(m.coins, coins)
	return api.SaidNew, api.OK
}

func (m *Model) refuse(id api.Hash, why api.Errno) (int, api.Errno) {
	m.Refused = append(m.Refused, id)
	return api.SaidRule, why
}

// Some makes a block upon the tip, or another one, by numbers below those that it asks for: mostly one that holds.
func (m *Model) Some(intn func(int) int) api.Block {
	parent := m.Tree.Best()
	if intn(3) == 0 {
		parent = intn(m.Tree.Len())
	}
	c, _ := m.Tree.Ctx(parent)
	coins := m.Coins(parent)
	for i := range coins {
		k := intn(i + 1)
		coins[i], coins[k] = coins[k], coins[i]
	}
	txs := []api.Tx{First(c.Height, Free(uint64(intn(1000)), target.Subsidy(c.Height)/2)[:intn(3)]...)}
	for range intn(3) {
		var from []api.Coin
		from, coins = pick(coins, c.Height, intn)
		if len(from) == 0 {
			continue
		}
		x := spending(from, intn)
		txs = append(txs, x)
		if value := x.Outs[1].Value; intn(2) == 0 && value > 0 {
			// A coin that is made and spent in one block.
			txs = append(txs, Spend([]api.Coin{Coin(x, 1, c.Height)}, Free(value)...))
		}
	}
	return spoilt(Block(c, txs...), c, intn)
}

// pick answers coins to spend, and those that are left; now and then one that is not old enough, or not there.
func pick(coins []api.Coin, height uint32, intn func(int) int) (from, left []api.Coin) {
	for len(coins) > 0 && intn(3) > 0 {
		one := coins[0]
		coins = coins[1:]
		if !one.Base || one.Point.Height+api.Maturity <= height || intn(20) == 0 {
			from = append(from, one)
		}
	}
	if intn(30) == 0 {
		from = append(from, api.Coin{Point: api.Point{Tx: api.Hash{byte(intn(9))}}})
	}
	return from, coins
}

// spending answers a transaction that spends these; now and then one of too much, or one that is not signed.
func spending(from []api.Coin, intn func(int) int) api.Tx {
	worth := uint64(0)
	for _, one := range from {
		worth += one.Value
	}
	if intn(30) == 0 {
		worth++
	}
	half := worth / 2
	x := Spend(from, Free(half, worth-half)...)
	if intn(4) == 0 {
		x.Outs[0] = Locked(half, api.Hash{1})
	}
	for i, one := range from {
		if len(one.Lock) > 2 && intn(9) > 0 {
			x = Signed(x, i, one, api.Hash{1})
		}
	}
	return x
}

// spoilt answers the block, mined; now and then with something of it that may not be.
func spoilt(b api.Block, c api.Ctx, intn func(int) int) api.Block {
	switch intn(25) {
	case 0:
		b.Head.Time = c.Time
	case 1:
		b.Head.Bits = 0x2012ffff
	case 2:
		b.Txs[0].After++
	case 3:
		b.Head.Prev[0]++
	case 4:
		b.Txs = append(b.Txs, b.Txs[0])
	case 5:
		b.Head.Time += uint32(intn(2000))
	}
	b = Mined(b)
	if intn(25) == 0 {
		b.Head.Nonce++
	}
	return b
}
