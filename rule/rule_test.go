package rule_test

import (
	"bytes"
	"math"
	"testing"

	"moneyer/api"
	"moneyer/block"
	"moneyer/head"
	"moneyer/mint"
	"moneyer/rule"
	"moneyer/tx"
)

func ok(t *testing.T, what string, got, want api.Errno) {
	t.Helper()
	if got != want {
		t.Errorf("%s: %d, not %d", what, got, want)
	}
}

func point(n int) api.Point { return api.Point{Tx: api.Hash{byte(n), 7}, N: uint16(n)} }

// spending answers a transaction that spends these points.
func spending(values []uint64, points ...int) api.Tx {
	t := api.Tx{Outs: mint.Free(values...)}
	for _, n := range points {
		t.Ins = append(t.Ins, api.In{Point: point(n)})
	}
	return t
}

func some(txs ...api.Tx) api.Block { return mint.Block(mint.Begin(), txs...) }

func first(values ...uint64) api.Tx { return mint.First(1, mint.Free(values...)...) }

// The chapter's examples.
func TestExamples(t *testing.T) {
	ok(t, "Block(empty)", rule.Block(api.Block{}), api.ErrForm)
	ok(t, "Tx(an empty one)", rule.Tx(api.Tx{}), api.OK)
	if n, is := rule.Worth(mint.Free(1<<50, 1)); n != 0 || is {
		t.Errorf("Worth(2^50, 1) = %d, %t", n, is)
	}
	if n, is := rule.Worth(nil); n != 0 || !is {
		t.Errorf("Worth(none) = %d, %t", n, is)
	}
}

// P26.1

func TestWorth(t *testing.T) {
	const most = api.MaxMoney
	for _, c := range []struct {
		values []uint64
		want   uint64
		is     bool
	}{
		{[]uint64{0}, 0, true}, {[]uint64{5}, 5, true}, {[]uint64{5, 6, 7}, 18, true}, {[]uint64{most}, most, true}, {[]uint64{most, 0, 0}, most, true}, {[]uint64{most - 5, 5}, most, true}, {[]uint64{1, most - 1, 0}, most, true},
		{[]uint64{most + 1}, 0, false}, {[]uint64{most - 5, 6}, 0, false}, {[]uint64{1, most}, 0, false}, {[]uint64{most, most}, 0, false}, {[]uint64{math.MaxUint64}, 0, false}, {[]uint64{1, math.MaxUint64}, 0, false}, {[]uint64{1 << 63, 1 << 63}, 0, false}, {[]uint64{most / 2, most / 2, 1}, 0, false}, {[]uint64{most + 1, 1}, 0, false},
	} {
		var l []api.Out
		for _, v := range c.values {
			// The lock is asked for nothing.
			l = append(l, api.Out{Value: v, Lock: make([]byte, 500)})
		}
		if n, is := rule.Worth(l); n != c.want || is != c.is {
			t.Errorf("Worth(%v) = %d, %t", c.values, n, is)
		}
	}
	many := make([]uint64, 5000)
	many[4999] = most
	if n, is := rule.Worth(mint.Free(many...)); n != most || !is {
		t.Errorf("Worth of 5000 = %d, %t", n, is)
	}
}

func TestTx(t *testing.T) {
	const most = api.MaxMoney
	for i, x := range []api.Tx{{}, first(5, most-5), spending(nil, 1), spending([]uint64{1, 2}, 1, 2, 3), spending([]uint64{most}, 5), {Ins: make([]api.In, 1)}, {Ins: []api.In{{Point: api.Point{N: 1}}, {Point: api.Point{Height: 1}}, {Point: api.Point{Tx: api.Hash{1}}}}}} {
		if e := rule.Tx(x); e != api.OK {
			t.Errorf("%d: Tx: %d", i, e)
		}
	}
	for i, x := range []api.Tx{spending([]uint64{most, 1}, 1), first(most, most), spending(nil, 1, 1), spending(nil, 1, 1, 2), spending([]uint64{1}, 1, 2, 1), spending([]uint64{1}, 1, 2, 1, 5, 6), spending([]uint64{1}, 3, 2, 2), {Ins: make([]api.In, 2)}, {Ins: make([]api.In, 16)}} {
		if e := rule.Tx(x); e != api.ErrRule {
			t.Errorf("%d: Tx: %d", i, e)
		}
	}
	// What may not be comes first.
	for i, x := range []api.Tx{{Ins: make([]api.In, 17)}, {Outs: make([]api.Out, 17)}, {Outs: []api.Out{{Value: most + 1}}}, {Ins: []api.In{{Unlock: make([]byte, 3001)}}}, {Ins: []api.In{{}, {}}, Outs: []api.Out{{Lock: make([]byte, 101)}}}} {
		if e := rule.Tx(x); e != api.ErrForm || tx.May(x) {
			t.Errorf("%d: Tx: %d", i, e)
		}
	}
}

// P26.2

func good() []api.Block {
	return []api.Block{
		some(first()), some(first(5)), some(first(api.MaxMoney)), some(api.Tx{}),
		some(first(5), spending([]uint64{1, 2}, 1, 2), spending(nil, 3)),
		some(first(5), spending(nil, 1), spending(nil, 2), spending(nil, 3), spending([]uint64{api.MaxMoney}, 4)),
		// Two outputs that are the same, a coin of its own, whatever stands upon what: not asked for here.
		mint.Mined(api.Block{Head: api.Head{Prev: api.Hash{9}, Time: 0, Bits: 0x2000ffff}, Txs: []api.Tx{{After: 77}, spending([]uint64{3, 3}, 1)}}),
	}
}

func TestGoodBlocks(t *testing.T) {
	for i, b := range good() {
		if e := rule.Block(b); e != api.OK {
			t.Errorf("%d: Block: %d", i, e)
		}
		// P26.3
		for k, x := range b.Txs {
			if e := rule.Tx(x); e != api.OK {
				t.Errorf("%d: Tx(%d): %d", i, k, e)
			}
		}
		for k := range 32 {
			other := b
			other.Head.Root[k]++
			other.Head, _ = head.Mine(other.Head, 1<<20)
			ok(t, "another root", rule.Block(other), api.ErrRule)
		}
	}
}

func TestBadBlocks(t *testing.T) {
	const most = api.MaxMoney
	pays := spending([]uint64{1}, 1)
	var many []api.Tx
	for i := range 16 {
		many = append(many, spending(nil, i))
	}
	many[0] = first()
	if e := rule.Block(some(many...)); e != api.OK {
		t.Errorf("16 transactions: %d", e)
	}
	for i, b := range []api.Block{
		// A first one that is none, or another one that is one.
		some(pays), some(pays, first()), some(first(), first(1)), some(first(), pays, first(2)), some(first(), api.Tx{}),
		// Worth too much.
		some(first(most, 1)), some(first(), spending([]uint64{most, most}, 1)), some(first(), pays, spending([]uint64{1, most}, 2)),
		// A point in two inputs: of one transaction, of two.
		some(first(), spending(nil, 1, 1)), some(first(), spending(nil, 1, 1), spending(nil, 2)), some(first(), spending([]uint64{1}, 1, 2), spending([]uint64{2}, 3, 2)), some(first(), pays, spending([]uint64{2}, 5), spending([]uint64{3}, 1)),
		// The same transaction twice: as neighbours, which no root can be had of, and not.
		some(first(), pays, pays), some(first(), spending(nil, 2), pays, pays), some(first(), pays, spending(nil, 2), pays),
	} {
		if e := rule.Block(b); e != api.ErrRule {
			t.Errorf("%d: Block: %d", i, e)
		}
		if _, e := block.Put(b); e != api.OK {
			t.Errorf("%d: may not be", i)
		}
	}
	// A head that does not work, by its nonce or its bits.
	for i, b := range good() {
		idle := b
		for head.Works(idle.Head) {
			idle.Head.Nonce++
		}
		ok(t, "a head that does not work", rule.Block(idle), api.ErrRule)
		for _, bits := range []uint32{0, 0x03000001, 0x01010000, 0xffffffff} {
			other := b
			other.Head.Bits = bits
			if e := rule.Block(other); e != api.ErrRule {
				t.Errorf("%d: the bits %x: %d", i, bits, e)
			}
		}
		unsealed := b
		unsealed.Txs = append([]api.Tx{{After: 1 << 30, Outs: b.Txs[0].Outs}}, b.Txs[1:]...)
		ok(t, "another transaction", rule.Block(unsealed), api.ErrRule)
	}
	// What may not be comes first.
	for i, txs := range [][]api.Tx{nil, append(many, spending(nil, 99)), {{Outs: []api.Out{{Value: most + 1}}}}, {first(), spending(nil, 1), {Ins: make([]api.In, 17)}}} {
		if e := rule.Block(some(txs...)); e != api.ErrForm {
			t.Errorf("%d: Block: %d", i, e)
		}
	}
	var long []api.Tx
	for i := range 16 {
		long = append(long, api.Tx{Ins: []api.In{{Point: point(i), Unlock: make([]byte, 1300)}}})
	}
	long[0] = first()
	if e := rule.Block(some(long...)); e != api.ErrForm {
		t.Errorf("too many bytes: %d", e)
	}
}

// The rules that hold everywhere: what is handed in stays as it is.
func TestMemory(t *testing.T) {
	b := good()[4]
	was, _ := block.Put(b)
	txs := append(b.Txs, spending(nil, 88))
	b.Txs = txs[:3]
	rule.Block(b)
	rule.Tx(b.Txs[1])
	rule.Worth(b.Txs[1].Outs)
	if text, _ := block.Put(b); !bytes.Equal(text, was) || txs[3].Ins[0].Point != point(88) {
		t.Error("what was handed in has changed")
	}
}
