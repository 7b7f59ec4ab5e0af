package mint_test

import (
	"testing"

	"moneyer/api"
	"moneyer/block"
	"moneyer/exec"
	"moneyer/head"
	"moneyer/mint"
	"moneyer/tx"
)

// What the other tests lean on: what is minted stands where it was asked for, and what is signed opens its lock.
func TestMint(t *testing.T) {
	b := mint.Block(mint.Begin(), mint.First(1, mint.Free(5, 6)...))
	if !head.Works(b.Head) || !block.Sealed(b) || b.Head.Prev != head.Id(head.Begin()) || b.Head.Bits != api.Limit || b.Head.Time != api.Spacing {
		t.Errorf("Block = %v", b)
	}
	if c := mint.Upon(b, 1); c.Height != 2 || c.Prev != head.Id(b.Head) || c.Time != api.Spacing || c.Bits != api.Limit {
		t.Errorf("Upon = %v", c)
	}
	seed := api.Hash{5}
	made := mint.First(1, append(mint.Free(7), mint.Locked(9, seed))...)
	free, locked := mint.Coin(made, 0, 1), mint.Coin(made, 1, 1)
	if free.Value != 7 || locked.Value != 9 || !free.Base || locked.Point.N != 1 {
		t.Errorf("Coin = %v, %v", free, locked)
	}
	spends := mint.Spend([]api.Coin{free, locked}, mint.Free(3)...)
	digest, _ := tx.Digest(spends, 1, locked)
	if e := exec.Run(nil, free.Lock, api.Env{}); e != api.OK {
		t.Errorf("a free lock: %d", e)
	}
	if e := exec.Run(nil, locked.Lock, api.Env{Digest: digest}); e != api.ErrScript {
		t.Errorf("a lock without a signature: %d", e)
	}
	signed := mint.Signed(spends, 1, locked, seed)
	if e := exec.Run(signed.Ins[1].Unlock, locked.Lock, api.Env{Digest: digest}); e != api.OK || len(spends.Ins[1].Unlock) != 0 {
		t.Errorf("a lock with its signature: %d", e)
	}
}
