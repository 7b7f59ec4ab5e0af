package big_test

import (
	"math"
	mathbig "math/big"
	"testing"

	"moneyer/api"
	"moneyer/big"
)

const full = math.MaxUint64

var most = api.U256{full, full, full, full}

// limbs are those at which a carry begins, goes through, or ends.
func limbs() []uint64 {
	ns := []uint64{0, 1, 2, 3, 5, 10, 1<<31 - 1, 1 << 31, 1<<32 - 1, 1 << 32, 1<<32 + 1, 1<<63 - 1, 1 << 63, 1<<63 + 1, full - 1, full, 0xffffffff00000000, 0x00000000ffffffff, 0xfffffffe00000001, 0x0123456789abcdef, 0xfedcba9876543210}
	return append(ns, scattered(6)...)
}

// scattered answers n limbs without a shape.
func scattered(n int) (ns []uint64) {
	x := uint64(88172645463325252)
	for range n {
		x ^= x << 13
		x ^= x >> 7
		x ^= x << 17
		ns = append(ns, x)
	}
	return ns
}

// numbers are the powers of 2 around the ends of limbs and halves with their neighbours, rows of limbs that are full or empty, and some without a shape.
func numbers() (as []api.U256) {
	one := mathbig.NewInt(1)
	for _, k := range []uint{0, 1, 2, 31, 32, 33, 63, 64, 65, 95, 96, 97, 127, 128, 129, 159, 160, 191, 192, 193, 223, 224, 254, 255} {
		p := new(mathbig.Int).Lsh(one, k)
		as = append(as, cut(p), cut(new(mathbig.Int).Sub(p, one)), cut(new(mathbig.Int).Add(p, one)))
	}
	for which := range 16 {
		var a api.U256
		for i := range a {
			if which>>i&1 == 1 {
				a[i] = full
			}
		}
		as = append(as, a)
	}
	as = append(as, api.U256{full - 1, full, full, full}, api.U256{1, 2, 3, 4}, api.U256{4, 3, 2, 1}, api.U256{0, 0, 0, 5}, api.U256{7, 0, 0, 5})
	for x := scattered(64); len(x) > 0; x = x[4:] {
		as = append(as, api.U256(x[:4]), api.U256{x[0], x[1]}, api.U256{x[0], x[1], x[2]})
	}
	return as
}

func wide(a api.U256) *mathbig.Int {
	n := new(mathbig.Int)
	for i := range a {
		limb := new(mathbig.Int).SetUint64(a[i])
		n.Add(n, limb.Lsh(limb, uint(64*i)))
	}
	return n
}

func narrow(n uint64) *mathbig.Int { return new(mathbig.Int).SetUint64(n) }

// cut answers n modulo 2^256.
func cut(n *mathbig.Int) (a api.U256) {
	m := new(mathbig.Int).Mod(n, new(mathbig.Int).Lsh(mathbig.NewInt(1), 256))
	for i := range a {
		a[i] = new(mathbig.Int).And(m, narrow(full)).Uint64()
		m.Rsh(m, 64)
	}
	return a
}

// P3.1

func TestOf(t *testing.T) {
	for _, n := range limbs() {
		if a := big.Of(n); a != (api.U256{n, 0, 0, 0}) {
			t.Errorf("Of(%d) = %x", n, a)
		}
	}
}

func TestHashes(t *testing.T) {
	var h api.Hash
	for i := range h {
		h[i] = byte(i + 1)
	}
	want := api.U256{0x0807060504030201, 0x100f0e0d0c0b0a09, 0x1817161514131211, 0x201f1e1d1c1b1a19}
	if a := big.OfHash(h); a != want {
		t.Errorf("OfHash(%x) = %x", h, a)
	}
	if g := big.ToHash(want); g != h {
		t.Errorf("ToHash(%x) = %x", want, g)
	}
	// Each byte on its own, with its highest and its lowest bit.
	for i := range 32 {
		for _, x := range []byte{1, 128, 255} {
			var h api.Hash
			h[i] = x
			a := cut(new(mathbig.Int).Lsh(narrow(uint64(x)), uint(8*i)))
			if got := big.OfHash(h); got != a {
				t.Errorf("OfHash(%x) = %x", h, got)
			}
			if got := big.ToHash(a); got != h {
				t.Errorf("ToHash(%x) = %x", a, got)
			}
		}
	}
	for _, a := range numbers() {
		if b := big.OfHash(big.ToHash(a)); b != a {
			t.Errorf("OfHash of ToHash of %x = %x", a, b)
		}
	}
}

func TestLess(t *testing.T) {
	for _, a := range numbers() {
		for _, b := range numbers() {
			if less := big.Less(a, b); less != (wide(a).Cmp(wide(b)) < 0) {
				t.Errorf("Less(%x, %x) = %t", a, b, less)
			}
		}
	}
}

func TestLen(t *testing.T) {
	if n := big.Len(api.U256{}); n != 0 {
		t.Errorf("Len(0) = %d", n)
	}
	for k := range 256 {
		var a api.U256
		a[k/64] = 1 << (k % 64)
		if n := big.Len(a); n != k+1 {
			t.Errorf("Len(2^%d) = %d", k, n)
		}
		below, _ := big.Sub(a, big.Of(1))
		if n := big.Len(below); n != k {
			t.Errorf("Len(2^%d - 1) = %d", k, n)
		}
	}
	for _, a := range numbers() {
		if n := big.Len(a); n != wide(a).BitLen() {
			t.Errorf("Len(%x) = %d", a, n)
		}
	}
}

// P3.2

func TestAddAndSubAtTheEnds(t *testing.T) {
	for _, c := range []struct {
		call  string
		f     func(a, b api.U256) (api.U256, bool)
		a, b  api.U256
		want  api.U256
		leave bool
	}{
		{"Add", big.Add, most, big.Of(1), api.U256{}, true},
		{"Add", big.Add, most, most, api.U256{full - 1, full, full, full}, true},
		{"Add", big.Add, most, api.U256{}, most, false},
		{"Add", big.Add, api.U256{full, full, full}, big.Of(1), api.U256{3: 1}, false},
		{"Add", big.Add, api.U256{3: 1 << 63}, api.U256{3: 1 << 63}, api.U256{}, true},
		{"Add", big.Add, api.U256{}, api.U256{}, api.U256{}, false},
		{"Sub", big.Sub, api.U256{}, big.Of(1), most, true},
		{"Sub", big.Sub, api.U256{}, most, big.Of(1), true},
		{"Sub", big.Sub, api.U256{3: 1}, big.Of(1), api.U256{full, full, full}, false},
		{"Sub", big.Sub, most, most, api.U256{}, false},
		{"Sub", big.Sub, api.U256{}, api.U256{}, api.U256{}, false},
		{"Sub", big.Sub, big.Of(5), big.Of(7), api.U256{full - 1, full, full, full}, true},
	} {
		if got, left := c.f(c.a, c.b); got != c.want || left != c.leave {
			t.Errorf("%s(%x, %x) = %x, %t", c.call, c.a, c.b, got, left)
		}
	}
}

func TestAddAndSub(t *testing.T) {
	for _, a := range numbers() {
		for _, b := range numbers() {
			sum := new(mathbig.Int).Add(wide(a), wide(b))
			if got, above := big.Add(a, b); got != cut(sum) || above != (sum.BitLen() > 256) {
				t.Errorf("Add(%x, %x) = %x, %t", a, b, got, above)
			}
			rest := new(mathbig.Int).Sub(wide(a), wide(b))
			if got, below := big.Sub(a, b); got != cut(rest) || below != (rest.Sign() < 0) {
				t.Errorf("Sub(%x, %x) = %x, %t", a, b, got, below)
			}
		}
	}
}

func TestMul(t *testing.T) {
	if a, above := big.Mul(most, full); a != (api.U256{1, full, full, full}) || above != full-1 {
		t.Errorf("Mul(2^256 - 1, 2^64 - 1) = %x, %d", a, above)
	}
	for _, a := range numbers() {
		for _, n := range limbs() {
			product := new(mathbig.Int).Mul(wide(a), narrow(n))
			over := new(mathbig.Int).Rsh(product, 256)
			if got, above := big.Mul(a, n); got != cut(product) || above != over.Uint64() {
				t.Errorf("Mul(%x, %d) = %x, %d, not %x, %d", a, n, got, above, cut(product), over)
			}
		}
	}
}

// P3.3

func TestByNought(t *testing.T) {
	for _, a := range numbers() {
		if q, left, e := big.Div(a, 0); q != (api.U256{}) || left != 0 || e != api.ErrArg {
			t.Errorf("Div(%x, 0) = %x, %d, %d", a, q, left, e)
		}
		if q, left, e := big.Over(a, api.U256{}); q != (api.U256{}) || left != (api.U256{}) || e != api.ErrArg {
			t.Errorf("Over(%x, 0) = %x, %x, %d", a, q, left, e)
		}
	}
}

func TestDiv(t *testing.T) {
	if q, left, e := big.Div(big.Of(10), 3); q != big.Of(3) || left != 1 || e != api.OK {
		t.Errorf("Div(10, 3) = %x, %d, %d", q, left, e)
	}
	for _, a := range numbers() {
		for _, n := range limbs() {
			if n == 0 {
				continue
			}
			times, rest := new(mathbig.Int).DivMod(wide(a), narrow(n), new(mathbig.Int))
			if q, left, e := big.Div(a, n); q != cut(times) || left != rest.Uint64() || e != api.OK {
				t.Errorf("Div(%x, %d) = %x, %d, %d", a, n, q, left, e)
			}
		}
	}
}

func TestOver(t *testing.T) {
	if q, left, e := big.Over(big.Of(7), big.Of(2)); q != big.Of(3) || left != big.Of(1) || e != api.OK {
		t.Errorf("Over(7, 2) = %x, %x, %d", q, left, e)
	}
	if q, left, e := big.Over(big.Of(7), most); q != (api.U256{}) || left != big.Of(7) || e != api.OK {
		t.Errorf("Over(7, 2^256 - 1) = %x, %x, %d", q, left, e)
	}
	if q, left, e := big.Over(most, most); q != big.Of(1) || left != (api.U256{}) || e != api.OK {
		t.Errorf("Over(2^256 - 1, itself) = %x, %x, %d", q, left, e)
	}
	if q, left, e := big.Over(most, big.Of(1)); q != most || left != (api.U256{}) || e != api.OK {
		t.Errorf("Over(2^256 - 1, 1) = %x, %x, %d", q, left, e)
	}
	for _, a := range numbers() {
		for _, b := range numbers() {
			if b == (api.U256{}) {
				continue
			}
			times, rest := new(mathbig.Int).DivMod(wide(a), wide(b), new(mathbig.Int))
			if q, left, e := big.Over(a, b); q != cut(times) || left != cut(rest) || e != api.OK {
				t.Errorf("Over(%x, %x) = %x, %x, %d", a, b, q, left, e)
			}
		}
	}
}

// P3.4

func TestMoves(t *testing.T) {
	for _, a := range numbers() {
		for n := range 300 {
			if got, want := big.Left(a, n), cut(new(mathbig.Int).Lsh(wide(a), uint(n))); got != want {
				t.Errorf("Left(%x, %d) = %x, not %x", a, n, got, want)
			}
			if got, want := big.Right(a, n), cut(new(mathbig.Int).Rsh(wide(a), uint(n))); got != want {
				t.Errorf("Right(%x, %d) = %x, not %x", a, n, got, want)
			}
		}
		for _, n := range []int{256, 257, 319, 320, 321, 511, 512, 1 << 20, 1 << 32, 1<<32 + 1, math.MaxInt - 63, math.MaxInt - 1, math.MaxInt} {
			if l, r := big.Left(a, n), big.Right(a, n); l != (api.U256{}) || r != (api.U256{}) {
				t.Errorf("of %x by %d: Left = %x, Right = %x", a, n, l, r)
			}
		}
		for _, n := range []int{-1, -2, -63, -64, -65, -255, -256, -257, math.MinInt, math.MinInt + 1, math.MinInt + 64} {
			if l, r := big.Left(a, n), big.Right(a, n); l != a || r != a {
				t.Errorf("of %x by %d: Left = %x, Right = %x", a, n, l, r)
			}
		}
	}
	if a := big.Right(big.Left(big.Of(1), 255), 255); a != big.Of(1) {
		t.Errorf("1, moved to the left by 255 and back, is %x", a)
	}
}

// P3.5

func TestWhatIsLeftIsLessAndMakesItWhole(t *testing.T) {
	for _, a := range numbers() {
		for _, n := range limbs() {
			q, left, e := big.Div(a, n)
			if n == 0 {
				continue
			}
			product, above := big.Mul(q, n)
			whole, over := big.Add(product, big.Of(left))
			if e != api.OK || left >= n || above != 0 || over || whole != a {
				t.Errorf("Div(%x, %d) = %x, %d, %d", a, n, q, left, e)
			}
			// A limb's divisor is one number of all.
			p, rest, e := big.Over(a, big.Of(n))
			if e != api.OK || p != q || rest != big.Of(left) {
				t.Errorf("Over(%x, %d) = %x, %x, %d, and Div = %x, %d", a, n, p, rest, e, q, left)
			}
		}
		for _, b := range numbers() {
			q, left, e := big.Over(a, b)
			if b == (api.U256{}) {
				continue
			}
			whole := new(mathbig.Int).Mul(wide(q), wide(b))
			whole.Add(whole, wide(left))
			if e != api.OK || !big.Less(left, b) || whole.Cmp(wide(a)) != 0 {
				t.Errorf("Over(%x, %x) = %x, %x, %d", a, b, q, left, e)
			}
		}
	}
}

func TestAddAndSubUndoEachOther(t *testing.T) {
	for _, a := range numbers() {
		for _, b := range numbers() {
			sum, above := big.Add(a, b)
			if back, below := big.Sub(sum, b); back != a || below != above {
				t.Errorf("Sub of Add of %x and %x = %x, %t", a, b, back, below)
			}
			rest, below := big.Sub(a, b)
			if back, above := big.Add(rest, b); back != a || above != below {
				t.Errorf("Add of Sub of %x and %x = %x, %t", a, b, back, above)
			}
			if big.Less(a, b) != below {
				t.Errorf("Less(%x, %x) = %t", a, b, !below)
			}
		}
	}
}

// What is handed in stays: numbers are values, and the test's own are the same behind all calls.
func TestArgumentsStay(t *testing.T) {
	a, b := api.U256{1, 2, 3, 4}, api.U256{5, 6, 7, 1}
	big.Add(a, b)
	big.Sub(a, b)
	big.Mul(a, 9)
	big.Div(a, 9)
	big.Over(a, b)
	big.Left(a, 70)
	big.Right(a, 70)
	if a != (api.U256{1, 2, 3, 4}) || b != (api.U256{5, 6, 7, 1}) {
		t.Errorf("%x, %x", a, b)
	}
}
