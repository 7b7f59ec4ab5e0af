package sha_test

import (
	"bytes"
	"crypto/sha256"
	"encoding/hex"
	"math/big"
	"testing"

	"moneyer/api"
	"moneyer/sha"
)

// lengths are all up to four blocks, so each around 55, 56, 63, 64, 65 and the same around 128, and some whose eight times takes two, three and four bytes.
func lengths() []int {
	var ns []int
	for n := range 260 {
		ns = append(ns, n)
	}
	return append(ns, 8191, 8192, 8193, 65535, 65536, 1<<21-1, 1<<21, 1<<21+70)
}

// text answers n bytes of which no block is like its neighbour.
func text(n int) []byte {
	b := make([]byte, n)
	x := uint32(n)
	for i := range b {
		x = x*1664525 + 1013904223
		b[i] = byte(x >> 24)
	}
	return b
}

func firstPrimes(n int) (ps []int64) {
	for p := int64(2); len(ps) < n; p++ {
		prime := true
		for _, q := range ps {
			prime = prime && p%q != 0
		}
		if prime {
			ps = append(ps, p)
		}
	}
	return ps
}

// rootPart answers the first 32 bits behind the point of the root of p: of the power 2 or 3.
func rootPart(p, power int64) uint32 {
	// The root of p times 2^(32 power) is that of p times 2^32.
	n := new(big.Int).Lsh(big.NewInt(p), uint(32*power))
	root := new(big.Int)
	for bit := 40; bit >= 0; bit-- {
		more := new(big.Int).SetBit(root, bit, 1)
		if new(big.Int).Exp(more, big.NewInt(power), nil).Cmp(n) <= 0 {
			root = more
		}
	}
	return uint32(new(big.Int).And(root, big.NewInt(1<<32-1)).Uint64())
}

// wantRound does what the document says of a round, word by word: h to a by names, not by a shift of all of them.
func wantRound(s [8]uint32, b [64]byte) [8]uint32 {
	right := func(x uint32, n int) uint32 { // turned, by way of 64 bits
		return uint32((uint64(x)<<32 | uint64(x)) >> n)
	}
	var w [64]uint32
	for i := range 16 {
		w[i] = uint32(b[4*i])*(1<<24) + uint32(b[4*i+1])*(1<<16) + uint32(b[4*i+2])*(1<<8) + uint32(b[4*i+3])
	}
	for i := 16; i < 64; i++ {
		x, y := w[i-15], w[i-2]
		w[i] = w[i-16] + (right(x, 7) ^ right(x, 18) ^ x/8) + w[i-7] + (right(y, 17) ^ right(y, 19) ^ y/1024)
	}
	v := map[rune]uint32{}
	for i, name := range "abcdefgh" {
		v[name] = s[i]
	}
	for i, p := range firstPrimes(64) {
		a, b, c, e := v['a'], v['b'], v['c'], v['e']
		t := v['h'] + (right(e, 6) ^ right(e, 11) ^ right(e, 25)) + ((e & v['f']) ^ (^e & v['g'])) + rootPart(p, 3) + w[i]
		u := (right(a, 2) ^ right(a, 13) ^ right(a, 22)) + ((a & b) ^ (a & c) ^ (b & c))
		v['h'], v['g'], v['f'], v['e'], v['d'] = v['g'], v['f'], e, v['d']+t, c
		v['c'], v['b'], v['a'] = b, a, t+u
	}
	for i, name := range "abcdefgh" {
		s[i] += v[name]
	}
	return s
}

func fromHex(t *testing.T, s string) (h api.Hash) {
	b, err := hex.DecodeString(s)
	if err != nil || len(b) != len(h) {
		t.Fatalf("%s is no hash", s)
	}
	copy(h[:], b)
	return h
}

// P2.1

func TestBegin(t *testing.T) {
	b := sha.Begin()
	for i, p := range firstPrimes(8) {
		if b[i] != rootPart(p, 2) {
			t.Errorf("Begin()[%d] = %08x, the root of %d has %08x", i, b[i], p, rootPart(p, 2))
		}
	}
	if b[0] != 0x6a09e667 || b[7] != 0x5be0cd19 {
		t.Errorf("Begin() = %08x", b)
	}
}

func TestRound(t *testing.T) {
	states := [][8]uint32{{}, sha.Begin(), {1, 2, 3, 4, 5, 6, 7, 8}, {7: 1 << 31}, {0: 1}}
	var all [8]uint32
	for i := range all {
		all[i] = 1<<32 - 1
	}
	states = append(states, all)
	// And words that rounds lead to, from a block each.
	s := sha.Begin()
	for i := range 40 {
		s = wantRound(s, [64]byte(text(64+i)))
		states = append(states, s)
	}
	for i, s := range states {
		for j, b := range [][64]byte{{}, {0: 128}, {63: 1}, [64]byte(text(64)), [64]byte(text(65 + i)), [64]byte(bytes.Repeat([]byte{255}, 64))} {
			if got, want := sha.Round(s, b), wantRound(s, b); got != want {
				t.Errorf("%d, %d: Round(%08x, %x) = %08x, not %08x", i, j, s, b, got, want)
			}
		}
	}
}

// Each bit of the words and of the block counts.
func TestRoundOfEachBit(t *testing.T) {
	for i := range 8 * 32 {
		var s [8]uint32
		s[i/32] = 1 << (i % 32)
		if got, want := sha.Round(s, [64]byte{}), wantRound(s, [64]byte{}); got != want {
			t.Errorf("Round of the bit %d of the words = %08x, not %08x", i, got, want)
		}
	}
	for i := range 64 * 8 {
		var b [64]byte
		b[i/8] = 1 << (i % 8)
		if got, want := sha.Round(sha.Begin(), b), wantRound(sha.Begin(), b); got != want {
			t.Errorf("Round of the bit %d of the block = %08x, not %08x", i, got, want)
		}
	}
}

func TestPadded(t *testing.T) {
	for n, want := range map[int]int{0: 64, 1: 64, 54: 64, 55: 64, 56: 128, 57: 128, 63: 128, 64: 128, 65: 128, 118: 128, 119: 128, 120: 192, 127: 192, 128: 192, 129: 192} {
		if p := sha.Padded(text(n)); len(p) != want {
			t.Errorf("Padded of %d bytes has %d", n, len(p))
		}
	}
	for _, n := range lengths() {
		b := text(n)
		p := sha.Padded(b)
		if len(p) < n+9 || len(p) >= n+9+64 || len(p)%64 != 0 {
			t.Fatalf("Padded of %d bytes has %d", n, len(p))
		}
		want := append(bytes.Clone(b), 128)
		want = append(want, make([]byte, len(p)-8-len(want))...)
		want = append(want, new(big.Int).Mul(big.NewInt(8), big.NewInt(int64(n))).FillBytes(make([]byte, 8))...)
		if !bytes.Equal(p, want) {
			t.Errorf("Padded of %d bytes ends with %x, not %x", n, p[n:], want[n:])
		}
	}
}

func TestSumOfKnownTexts(t *testing.T) {
	for _, c := range []struct{ text, want string }{
		{"", "e3b0c44298fc1c149afbf4c8996fb92427ae41e4649b934ca495991b7852b855"},
		{"abc", "ba7816bf8f01cfea414140de5dae2223b00361a396177a9cb410ff61f20015ad"},
		{"abcdbcdecdefdefgefghfghighijhijkijkljklmklmnlmnomnopnopq", "248d6a61d20638b8e5c026930c3e6039a33ce45964ff2167f6ecedd419db06c1"},
		{"abcdefghbcdefghicdefghijdefghijkefghijklfghijklmghijklmnhijklmnoijklmnopjklmnopqklmnopqrlmnopqrsmnopqrstnopqrstu", "cf5b16a778af8380036ce59e7b0492370b249b11e8f07a51afac45037afee9d1"},
		{string(bytes.Repeat([]byte{'a'}, 1000000)), "cdc76e5c9914fb9281a1c7e284d73e67f1809a48a497200e046d39ccc7112cd0"},
	} {
		if h := sha.Sum([]byte(c.text)); h != fromHex(t, c.want) {
			t.Errorf("Sum of %d bytes = %x, not %s", len(c.text), h, c.want)
		}
	}
	if h := sha.Sum([]byte{}); h != sha.Sum(nil) {
		t.Errorf("Sum of no bytes = %x, of nil %x", h, sha.Sum(nil))
	}
}

func TestSum(t *testing.T) {
	for _, n := range lengths() {
		for _, b := range [][]byte{text(n), make([]byte, n), bytes.Repeat([]byte{128}, n)} {
			if h := sha.Sum(b); h != api.Hash(sha256.Sum256(b)) {
				t.Errorf("Sum of %d bytes = %x, not %x", n, h, sha256.Sum256(b))
			}
		}
	}
}

// The hash is what the rounds over the padded bytes come to, from the beginning on.
func TestSumIsRounds(t *testing.T) {
	for n := range 260 {
		b := text(n)
		s := sha.Begin()
		for p := sha.Padded(b); len(p) > 0; p = p[64:] {
			s = sha.Round(s, [64]byte(p))
		}
		var want api.Hash
		for i := range want {
			want[i] = byte(s[i/4] >> (24 - i%4*8))
		}
		if h := sha.Sum(b); h != want {
			t.Errorf("Sum of %d bytes = %x, its rounds come to %x", n, h, want)
		}
	}
}

func TestTwice(t *testing.T) {
	if h := sha.Twice([]byte("hello")); h != fromHex(t, "9595c9df90075148eb06860365df33584b75bff782a510c6cd4883a419833d50") {
		t.Errorf("Twice(hello) = %x", h)
	}
	for _, n := range lengths() {
		b := text(n)
		once := sha256.Sum256(b)
		if h := sha.Twice(b); h != api.Hash(sha256.Sum256(once[:])) {
			t.Errorf("Twice of %d bytes = %x", n, h)
		}
	}
}

func TestLeaf(t *testing.T) {
	for _, n := range lengths() {
		b := text(n)
		want := sha256.Sum256(append([]byte{0}, b...))
		if h := sha.Leaf(b); h != api.Hash(want) {
			t.Errorf("Leaf of %d bytes = %x, not %x", n, h, want)
		}
	}
	if h := sha.Leaf(nil); h != api.Hash(sha256.Sum256([]byte{0})) {
		t.Errorf("Leaf(nil) = %x", h)
	}
}

func TestPair(t *testing.T) {
	hashes := []api.Hash{{}, {0: 1}, {31: 1}, api.Hash(text(32)), api.Hash(bytes.Repeat([]byte{255}, 32))}
	for _, a := range hashes {
		for _, b := range hashes {
			all := bytes.Join([][]byte{{1}, a[:], b[:]}, nil)
			if h := sha.Pair(a, b); h != api.Hash(sha256.Sum256(all)) {
				t.Errorf("Pair(%x, %x) = %x, not %x", a, b, h, sha256.Sum256(all))
			}
			if a != b && sha.Pair(a, b) == sha.Pair(b, a) {
				t.Errorf("Pair(%x, %x) is that of the two turned round", a, b)
			}
			if sha.Pair(a, b) == sha.Leaf(all[1:]) {
				t.Errorf("Pair(%x, %x) is the hash of a leaf of these bytes", a, b)
			}
		}
	}
}

// P2.2

func TestNoTwoTextsArePaddedAlike(t *testing.T) {
	// Of the bytes that padding has: texts that end as others go on when they are padded.
	var texts [][]byte
	for n := range 200 {
		for _, end := range [][]byte{nil, {0}, {128}, {128, 0}, {0, 128}, {128, 128}, {0, 0, 0, 0, 0, 0, 1}, {128, 0, 0, 0, 0, 0, 0, 0, 8}} {
			texts = append(texts, append(make([]byte, n), end...), append(bytes.Repeat([]byte{128}, n), end...))
		}
	}
	// And each padded text as a text of its own.
	for n := range 130 {
		texts = append(texts, sha.Padded(make([]byte, n)))
	}
	of := map[string][]byte{}
	for _, b := range texts {
		p := sha.Padded(b)
		if len(p)%64 != 0 {
			t.Errorf("Padded of %d bytes has %d", len(b), len(p))
		}
		if other, there := of[string(p)]; there && !bytes.Equal(other, b) {
			t.Errorf("%x and %x are padded alike", b, other)
		}
		of[string(p)] = b
	}
}

// The rules that hold everywhere: what is handed in stays as it is, what is answered is new memory.

func TestArgumentsStay(t *testing.T) {
	for _, n := range []int{0, 1, 55, 56, 63, 64, 65, 128, 200} {
		// Room enough behind the end for all that is padded.
		whole := text(n + 300)
		was := bytes.Clone(whole)
		in := whole[7 : 7+n]
		for name, call := range map[string]func(){
			"Padded": func() {
				p := sha.Padded(in)
				for i := range p[:cap(p)] {
					p[:cap(p)][i] ^= 255
				}
			},
			"Sum":   func() { sha.Sum(in) },
			"Twice": func() { sha.Twice(in) },
			"Leaf":  func() { sha.Leaf(in) },
		} {
			call()
			if !bytes.Equal(whole, was) {
				t.Fatalf("%s of %d bytes has changed what was handed in", name, n)
			}
		}
	}
}

func TestAnswersAreNew(t *testing.T) {
	for _, n := range []int{0, 1, 55, 56, 64, 128} {
		b := text(n)
		p, q := sha.Padded(b), sha.Padded(b)
		was := bytes.Clone(p)
		for i := range q[:cap(q)] {
			q[:cap(q)][i] ^= 255
		}
		for i := range b {
			b[i] ^= 255
		}
		if !bytes.Equal(p, was) || !bytes.Equal(sha.Padded(text(n)), was) {
			t.Errorf("Padded of %d bytes shares memory", n)
		}
	}
}

// What a call answers hangs on what it was given alone, not on the calls ahead of it.
func TestCallsLeaveNothing(t *testing.T) {
	first := sha.Begin()
	first[0] = 1
	sha.Round(first, [64]byte{1})
	sha.Sum(text(70))
	if sha.Begin()[0] != 0x6a09e667 || sha.Sum(nil) != fromHex(t, "e3b0c44298fc1c149afbf4c8996fb92427ae41e4649b934ca495991b7852b855") {
		t.Error("a call changed what later ones answer")
	}
}
