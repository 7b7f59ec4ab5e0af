package bridge

import (
	"bytes"
	"maps"
	"slices"

	"moneyer/api"
	"moneyer/block"
	"moneyer/check"
	"moneyer/coin"
	"moneyer/sha"
	"moneyer/wood"
)

// A forest is that of a block: the coin of each leaf that there ever was, and where a coin's leaf is.
type forest struct {
	block  int
	wood   *wood.Wood
	coins  []api.Coin
	leaves map[api.Point]uint64
}

// copied answers another forest that is the same; of none that of the beginning.
func (f forest) copied() forest {
	if f.wood == nil {
		return forest{wood: wood.New(), leaves: map[api.Point]uint64{}}
	}
	return forest{block: f.block, wood: f.wood.Copy(), coins: slices.Clone(f.coins), leaves: maps.Clone(f.leaves)}
}

// forth does what a block does: what it spends is gone, what it makes is added.
func (f *forest) forth(spent []api.Point, made []api.Coin) {
	f.wood.Take(f.leavesOf(spent))
	for i, c := range made {
		f.leaves[c.Point] = uint64(len(f.coins) + i)
	}
	f.coins = append(f.coins, made...)
	f.wood.Add(hashes(made))
}

// back undoes that.
func (f *forest) back(u api.Undo) {
	for _, p := range u.Made {
		delete(f.leaves, p)
	}
	n := len(f.coins) - len(u.Made)
	f.coins = f.coins[:n:n]
	var spent []api.Point
	for _, c := range u.Spent {
		spent = append(spent, c.Point)
	}
	leaves := f.leavesOf(spent)
	var coins []api.Coin
	for _, leaf := range leaves {
		coins = append(coins, f.coins[leaf])
	}
	f.wood.Back(uint64(n), leaves, hashes(coins))
}

// leavesOf answers the numbers of the coins' leaves, rising.
func (f *forest) leavesOf(points []api.Point) []uint64 {
	leaves := make([]uint64, len(points))
	for i, p := range points {
		leaves[i] = f.leaves[p]
	}
	slices.Sort(leaves)
	return leaves
}

// deed answers what a block spends from outside, and what it makes.
func deed(text []byte, height uint32) (spent []api.Point, made []api.Coin) {
	// What a node took holds.
	b, _ := block.Read(text)
	spent, _ = check.Outside(b, height)
	made, _ = check.Made(b, height)
	return spent, made
}

func hashes(coins []api.Coin) []api.Hash {
	l := make([]api.Hash, len(coins))
	for i, c := range coins {
		l[i] = sha.Leaf(dataOf(c))
	}
	return l
}

// dataOf answers the bytes of a coin that a node took: it may be.
func dataOf(c api.Coin) []byte {
	b, _ := coin.Put(c)
	return b
}

func copied(c api.Coin) api.Coin {
	c.Lock = bytes.Clone(c.Lock)
	return c
}
