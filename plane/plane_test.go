package plane_test

import (
	"math"
	"testing"

	"moneyer/api"
	"moneyer/plane"
)

const numbers = uint64(1) << 40

// spot is a place in whole numbers.
type spot struct{ a, b int64 }

func (s spot) z() complex128 { return complex(float64(s.a), float64(s.b)) }

// wantPlace adds the powers of -1 + i up in whole numbers.
func wantPlace(n uint64) (at spot) {
	worth := spot{1, 0}
	for k := range 40 {
		if n>>k%2 == 1 {
			at = spot{at.a + worth.a, at.b + worth.b}
		}
		worth = spot{-worth.a - worth.b, worth.a - worth.b}
	}
	return at
}

// wantNumber takes the digits off a whole place, however many it has, and says whether they are at most 40.
func wantNumber(at spot) (n uint64, there bool) {
	k := 0
	for ; at != (spot{}); k++ {
		if (at.a+at.b)%2 != 0 {
			n |= 1 << k
			at.a--
		}
		at = spot{(at.b - at.a) / 2, (-at.a - at.b) / 2}
	}
	return n, k <= 40
}

// some are the powers of 2 with their neighbours, and numbers without a shape, all below 2^40.
func some() (ns []uint64) {
	for n := range uint64(300) {
		ns = append(ns, n)
	}
	for k := range 40 {
		p := uint64(1) << k
		ns = append(ns, p-1, p, p+1)
	}
	x := uint64(88172645463325252)
	for i := range 4000 {
		x ^= x << 13
		x ^= x >> 7
		x ^= x << 17
		ns = append(ns, x%numbers>>(i%40))
	}
	return append(ns, 0x5555555555, 0xaaaaaaaaaa, 0x1111111111, 0x8888888888, numbers-2, numbers-1)
}

func signed(x float64) bool { return x == 0 && math.Signbit(x) }

// P5.1

func TestOf(t *testing.T) {
	for _, c := range []struct {
		n    uint64
		want complex128
	}{{0, 0}, {1, 1}, {2, -1 + 1i}, {3, 1i}, {4, -2i}, {5, 1 - 2i}, {7, -1i}, {8, 2 + 2i}, {16, -4}, {29, -1}, {32, 4 - 4i}, {256, 16}, {1 << 39, -524288 - 524288i}} {
		if z, e := plane.Of(c.n); z != c.want || e != api.OK {
			t.Errorf("Of(%d) = %v, %d", c.n, z, e)
		}
	}
	for _, n := range some() {
		z, e := plane.Of(n)
		if z != wantPlace(n).z() || e != api.OK {
			t.Errorf("Of(%d) = %v, %d, not %v", n, z, e, wantPlace(n).z())
		}
		if signed(real(z)) || signed(imag(z)) {
			t.Errorf("Of(%d) = %v has a nought with a sign", n, z)
		}
	}
}

func TestOfTooGreatANumber(t *testing.T) {
	if _, e := plane.Of(numbers - 1); e != api.OK {
		t.Errorf("Of(2^40 - 1): %d", e)
	}
	for _, n := range []uint64{numbers, numbers + 1, 2 * numbers, 1 << 63, math.MaxUint64} {
		if z, e := plane.Of(n); z != 0 || e != api.ErrLimit {
			t.Errorf("Of(%d) = %v, %d", n, z, e)
		}
	}
}

func TestBack(t *testing.T) {
	for _, c := range []struct {
		z    complex128
		want uint64
	}{{0, 0}, {1, 1}, {-1 + 1i, 2}, {1i, 3}, {-2i, 4}, {-1, 29}, {-1i, 7}, {2, 12}, {16, 256}} {
		if n, e := plane.Back(c.z); n != c.want || e != api.OK {
			t.Errorf("Back(%v) = %d, %d", c.z, n, e)
		}
	}
}

// A square around the beginning: all of its places, and what no number below 2^40 has.
func TestBackOfWholePlaces(t *testing.T) {
	var spots []spot
	for a := int64(-60); a <= 60; a++ {
		for b := int64(-60); b <= 60; b++ {
			spots = append(spots, spot{a, b}, spot{a * 20000, b * 20000}, spot{a * 69905, b*69905 + 1}, spot{1<<20 + a, b}, spot{a, b - 1<<20})
		}
	}
	for k := range 22 {
		for _, p := range []int64{1<<k - 1, 1 << k, 1<<k + 1} {
			spots = append(spots, spot{p, 0}, spot{-p, 0}, spot{0, p}, spot{0, -p}, spot{p, p}, spot{-p, p}, spot{p, -p}, spot{-p, -p})
		}
	}
	found, none := 0, 0
	for _, s := range spots {
		want, there := wantNumber(s)
		n, e := plane.Back(s.z())
		switch {
		case there && (n != want || e != api.OK):
			t.Errorf("Back(%v) = %d, %d, not %d", s.z(), n, e, want)
		case !there && (n != 0 || e != api.ErrNone):
			t.Errorf("Back(%v) = %d, %d, of what no number has", s.z(), n, e)
		case there:
			found++
		default:
			none++
		}
	}
	if found < 10000 || none < 10000 {
		t.Errorf("%d places are numbers', %d are none's", found, none)
	}
}

func TestBackOfWhatNoNumberHas(t *testing.T) {
	// -1 + i to the power of 40 is 2^20.
	for _, z := range []complex128{1 << 20, 1<<20 + 1, 1 << 21, 1<<22 - 1, -(1<<22 - 1), (1<<22 - 1) * 1i, complex(1<<22-1, -(1<<22 - 1)), complex(0, -(1<<22 - 1))} {
		if n, e := plane.Back(z); n != 0 || e != api.ErrNone {
			t.Errorf("Back(%v) = %d, %d", z, n, e)
		}
	}
}

// The ends are not between the ends, whatever the other part is; what is one nearer is.
func TestBackAtTheEnds(t *testing.T) {
	const end = 1 << 22
	minus := math.Copysign(0, -1)
	for _, other := range []float64{0, minus, 1, -1, 7, -512, 1 << 20, end - 1, -(end - 1), end, -end, end + 1, 0.5, math.NaN(), math.Inf(-1)} {
		for _, part := range []float64{end, -end} {
			for _, z := range []complex128{complex(part, other), complex(other, part)} {
				if n, e := plane.Back(z); n != 0 || e != api.ErrForm {
					t.Errorf("Back(%v) = %d, %d", z, n, e)
				}
			}
		}
	}
}

func TestBackJustWithinTheEnds(t *testing.T) {
	const last = 1<<22 - 1
	for _, other := range []float64{0, 1, -1, 7, -512, 1 << 20, last - 1, last, -last} {
		for _, part := range []float64{last, -last, last - 1, -(last - 1)} {
			for _, z := range []complex128{complex(part, other), complex(other, part)} {
				if n, e := plane.Back(z); n != 0 || e != api.ErrNone {
					t.Errorf("Back(%v) = %d, %d", z, n, e)
				}
			}
		}
	}
}

func TestBackOfPartsThatMayNotBe(t *testing.T) {
	nan, up, down := math.NaN(), math.Inf(1), math.Inf(-1)
	for _, x := range []float64{
		0.5, -0.5, 1.5, -1.5, 2.0000000001, 0.9999999999, 1e-300, -1e-300, math.SmallestNonzeroFloat64, 3.75, 1<<22 - 0.5, -(1<<22 - 0.5), 1<<22 + 0.5,
		1<<22 + 1, -(1<<22 + 1), 1 << 23, -(1 << 23), 1 << 31, -(1 << 31), 1 << 32, -(1 << 32), 1 << 53, -(1 << 53), 1 << 63, -(1 << 63), 1 << 64, -(1 << 64), 1e300, -1e300, math.MaxFloat64, -math.MaxFloat64,
		nan, up, down, math.Copysign(nan, -1),
	} {
		for _, y := range []float64{0, 1, -1, 7, 1 << 22, x, nan, up, 0.5} {
			for _, z := range []complex128{complex(x, y), complex(y, x)} {
				if n, e := plane.Back(z); n != 0 || e != api.ErrForm {
					t.Errorf("Back(%v) = %d, %d", z, n, e)
				}
			}
		}
	}
}

func TestBackOfNoughtsWithASign(t *testing.T) {
	minus := math.Copysign(0, -1)
	for _, c := range []struct {
		z    complex128
		want uint64
	}{{complex(minus, 0), 0}, {complex(0, minus), 0}, {complex(minus, minus), 0}, {complex(1, minus), 1}, {complex(minus, 1), 3}, {complex(-1, minus), 29}, {complex(minus, -2), 4}} {
		if n, e := plane.Back(c.z); n != c.want || e != api.OK {
			t.Errorf("Back(%v) = %d, %d", c.z, n, e)
		}
	}
}

// P5.2

func TestTurn(t *testing.T) {
	for _, z := range []complex128{0, 1, -1, 1i, -1i, 3 + 4i, -3 + 4i, 3 - 4i, -3 - 4i, 0.25 - 1e300i, 5, -7i, complex(math.MaxFloat64, math.SmallestNonzeroFloat64)} {
		a, b := real(z), imag(z)
		want := [4]complex128{z, complex(-b, a), complex(-a, -b), complex(b, -a)}
		for _, c := range []struct{ quarters, left int }{
			{0, 0}, {1, 1}, {2, 2}, {3, 3}, {4, 0}, {5, 1}, {6, 2}, {7, 3}, {8, 0}, {401, 1},
			{-1, 3}, {-2, 2}, {-3, 1}, {-4, 0}, {-5, 3}, {-6, 2}, {-7, 1}, {-8, 0}, {-401, 3},
			{math.MaxInt, 3}, {math.MaxInt - 1, 2}, {math.MaxInt - 2, 1}, {math.MaxInt - 3, 0},
			{math.MinInt, 0}, {math.MinInt + 1, 1}, {math.MinInt + 2, 2}, {math.MinInt + 3, 3},
		} {
			got := plane.Turn(z, c.quarters)
			if got != want[c.left] {
				t.Errorf("Turn(%v, %d) = %v, not %v", z, c.quarters, got, want[c.left])
			}
			if signed(real(got)) || signed(imag(got)) {
				t.Errorf("Turn(%v, %d) = %v has a nought with a sign", z, c.quarters, got)
			}
		}
	}
}

func TestTurnTakesSignsOffNoughts(t *testing.T) {
	minus := math.Copysign(0, -1)
	for _, x := range []float64{0, minus, 1, -1} {
		for _, y := range []float64{0, minus, 2, -2} {
			for quarters := -4; quarters <= 4; quarters++ {
				got := plane.Turn(complex(x, y), quarters)
				if signed(real(got)) || signed(imag(got)) {
					t.Errorf("Turn(%v, %d) = %v has a nought with a sign", complex(x, y), quarters, got)
				}
			}
		}
	}
}

// A part that is no number, or infinite, stays one, and leaves the other alone.
func TestTurnOfPartsThatAreNone(t *testing.T) {
	nan, up := math.NaN(), math.Inf(1)
	same := func(x, y float64) bool { return x == y && math.Signbit(x) == math.Signbit(y) || x != x && y != y }
	for _, c := range []struct{ a, b float64 }{{nan, 0}, {0, nan}, {nan, 3}, {-3, nan}, {nan, nan}, {up, 0}, {0, up}, {up, 3}, {-up, 3}, {3, -up}, {up, -up}, {nan, up}, {-up, nan}} {
		for quarters, want := range [4][2]float64{{c.a, c.b}, {-c.b, c.a}, {-c.a, -c.b}, {c.b, -c.a}} {
			for i := range want {
				if want[i] == 0 {
					want[i] = 0 // and no sign
				}
			}
			if got := plane.Turn(complex(c.a, c.b), quarters); !same(real(got), want[0]) || !same(imag(got), want[1]) {
				t.Errorf("Turn(%v, %d) = %v", complex(c.a, c.b), quarters, got)
			}
		}
	}
}

// wantBeside says who is beside n by whole numbers.
func wantBeside(n uint64) (beside []uint64) {
	at := wantPlace(n)
	for _, s := range []spot{{at.a + 1, at.b}, {at.a, at.b + 1}, {at.a - 1, at.b}, {at.a, at.b - 1}} {
		if m, there := wantNumber(s); there {
			beside = append(beside, m)
		}
	}
	return beside
}

func equal(a, b []uint64) bool {
	if len(a) != len(b) {
		return false
	}
	for i := range a {
		if a[i] != b[i] {
			return false
		}
	}
	return true
}

func TestBeside(t *testing.T) {
	if b, e := plane.Beside(0); !equal(b, []uint64{1, 3, 29, 7}) || e != api.OK {
		t.Errorf("Beside(0) = %d, %d", b, e)
	}
	fewer := 0
	for _, n := range some() {
		b, e := plane.Beside(n)
		if !equal(b, wantBeside(n)) || e != api.OK {
			t.Errorf("Beside(%d) = %d, %d, not %d", n, b, e, wantBeside(n))
		}
		if len(b) < 4 {
			fewer++
		}
	}
	if fewer == 0 {
		t.Error("none of the numbers stands at the edge")
	}
}

func TestBesideTooGreatANumber(t *testing.T) {
	for _, n := range []uint64{numbers, numbers + 1, 1 << 63, math.MaxUint64} {
		if b, e := plane.Beside(n); len(b) != 0 || e != api.ErrLimit {
			t.Errorf("Beside(%d) = %d, %d", n, b, e)
		}
	}
	if _, e := plane.Beside(numbers - 1); e != api.OK {
		t.Errorf("Beside(2^40 - 1): %d", e)
	}
}

// P5.3

func TestBackOfOf(t *testing.T) {
	for _, n := range some() {
		z, _ := plane.Of(n)
		if m, e := plane.Back(z); m != n || e != api.OK {
			t.Errorf("Back of Of(%d) = %d, %d", n, m, e)
		}
	}
	places := map[complex128]uint64{}
	for n := range uint64(1 << 16) {
		z, e := plane.Of(n)
		if m, there := places[z]; there || e != api.OK {
			t.Fatalf("Of(%d) = %v, %d, and Of(%d) is it, too", n, z, e, m)
		}
		places[z] = n
	}
}

func TestOfOfBack(t *testing.T) {
	for a := -40.0; a <= 40; a++ {
		for b := -40.0; b <= 40; b++ {
			z := complex(a, b)
			n, e := plane.Back(z)
			if e != api.OK {
				t.Errorf("Back(%v): %d", z, e)
			}
			if back, e := plane.Of(n); back != z || e != api.OK {
				t.Errorf("Of of Back(%v) = %v, %d", z, back, e)
			}
		}
	}
}

func TestFourQuartersAreNone(t *testing.T) {
	for _, n := range some() {
		z, _ := plane.Of(n)
		if got := plane.Turn(z, 4); got != z {
			t.Errorf("Turn(%v, 4) = %v", z, got)
		}
		if got := plane.Turn(plane.Turn(plane.Turn(plane.Turn(z, 1), 1), 1), 1); got != z {
			t.Errorf("%v, turned four times, is %v", z, got)
		}
		if got := plane.Turn(plane.Turn(z, 1), -1); got != z {
			t.Errorf("%v, turned and turned back, is %v", z, got)
		}
	}
}

func TestWhoIsBesideOneHasItBeside(t *testing.T) {
	for _, n := range some() {
		b, _ := plane.Beside(n)
		for _, m := range b {
			back, e := plane.Beside(m)
			if e != api.OK {
				t.Errorf("Beside(%d): %d", m, e)
			}
			there := 0
			for _, x := range back {
				if x == n {
					there++
				}
			}
			if there != 1 {
				t.Errorf("Beside(%d) = %d, Beside(%d) = %d", n, b, m, back)
			}
		}
	}
}

// The rules that hold everywhere: what is answered is new memory.
func TestAnswersAreNew(t *testing.T) {
	first, _ := plane.Beside(0)
	second, _ := plane.Beside(0)
	for i := range first[:cap(first)] {
		first[:cap(first)][i] = 99
	}
	third, _ := plane.Beside(0)
	if want := []uint64{1, 3, 29, 7}; !equal(second, want) || !equal(third, want) {
		t.Errorf("Beside(0) = %d, %d", second, third)
	}
}
