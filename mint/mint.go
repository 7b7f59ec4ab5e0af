// Package mint makes blocks and transactions for the tests of the layers that check them.
package mint

import (
	"slices"

	"moneyer/api"
	"moneyer/block"
	"moneyer/code"
	"moneyer/head"
	"moneyer/lamp"
	"moneyer/tx"
)

// Begin is what stands upon the beginning.
func Begin() api.Ctx {
	begin := head.Begin()
	return api.Ctx{Height: 1, Time: begin.Time, Bits: begin.Bits, Prev: head.Id(begin)}
}

// Free answers outputs of these values, with a lock that is open.
func Free(values ...uint64) []api.Out {
	var outs []api.Out
	for _, value := range values {
		outs = append(outs, api.Out{Value: value, Lock: script(api.Step{Op: api.OpPush, Push: []byte{1}})})
	}
	return outs
}

// Locked answers an output that the seed's signature opens.
func Locked(value uint64, seed api.Hash) api.Out {
	key := lamp.Key(seed)
	return api.Out{Value: value, Lock: script(api.Step{Op: api.OpPush, Push: key[:]}, api.Step{Op: api.OpLamp})}
}

// First answers a first transaction.
func First(height uint32, outs ...api.Out) api.Tx {
	return api.Tx{Outs: outs, After: height}
}

// Spend answers a transaction that spends coins.
func Spend(coins []api.Coin, outs ...api.Out) api.Tx {
	t := api.Tx{Outs: outs}
	for _, c := range coins {
		t.Ins = append(t.Ins, api.In{Point: c.Point})
	}
	return t
}

// Signed answers the transaction with the unlock of its input n, that spends the coin.
func Signed(t api.Tx, n int, c api.Coin, seed api.Hash) api.Tx {
	digest, _ := tx.Digest(t, n, c)
	t.Ins = slices.Clone(t.Ins)
	t.Ins[n].Unlock = script(api.Step{Op: api.OpPush, Push: lamp.Sign(seed, digest)})
	return t
}

// Coin answers the output n of a transaction, as a coin.
func Coin(t api.Tx, n int, height uint32) api.Coin {
	id, _ := tx.Id(t)
	out := t.Outs[n]
	return api.Coin{Point: api.Point{Tx: id, N: uint16(n), Height: height}, Value: out.Value, Base: len(t.Ins) == 0, Lock: slices.Clone(out.Lock)}
}

// Block answers a block that stands there, a Spacing behind its parent.
func Block(c api.Ctx, txs ...api.Tx) api.Block {
	return Mined(api.Block{Head: api.Head{Prev: c.Prev, Time: c.Time + api.Spacing, Bits: c.Bits}, Txs: txs})
}

// Mined answers the block with its root, if it can be sealed, and with a nonce with which it works.
func Mined(b api.Block) api.Block {
	if sealed, e := block.Seal(b); e == api.OK {
		b = sealed
	}
	if h, e := head.Mine(b.Head, 1<<20); e == api.OK {
		b.Head = h
	}
	return b
}

// Upon answers what stands upon a block, if its bits stay the same.
func Upon(b api.Block, height uint32) api.Ctx {
	return api.Ctx{Height: height + 1, Time: b.Head.Time, Bits: b.Head.Bits, Prev: head.Id(b.Head)}
}

func script(l ...api.Step) []byte {
	b, _ := code.Put(l)
	return b
}
