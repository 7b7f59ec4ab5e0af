package target_test

import (
	"math"
	mathbig "math/big"
	"testing"

	"moneyer/api"
	"moneyer/big"
	"moneyer/target"
)

const full = math.MaxUint64

var (
	one   = mathbig.NewInt(1)
	bound = new(mathbig.Int).Lsh(one, 256)
	most  = api.U256{full, full, full, full}
)

func wide(a api.U256) *mathbig.Int {
	n := new(mathbig.Int)
	for i := range a {
		limb := new(mathbig.Int).SetUint64(a[i])
		n.Add(n, limb.Lsh(limb, uint(64*i)))
	}
	return n
}

func narrow(n *mathbig.Int) (a api.U256) {
	low := new(mathbig.Int).SetUint64(full)
	for i := range a {
		limb := new(mathbig.Int).Rsh(n, uint(64*i))
		a[i] = limb.And(limb, low).Uint64()
	}
	return a
}

func power(base, n int) *mathbig.Int {
	return new(mathbig.Int).Exp(mathbig.NewInt(int64(base)), mathbig.NewInt(int64(n)), nil)
}

// wantBits says by the bytes of the target what its bits are.
func wantBits(t *mathbig.Int) uint32 {
	if t.Sign() == 0 {
		return 0
	}
	b := t.Bytes()
	three := append(append([]byte{}, b...), 0, 0)
	mantissa, exponent := uint32(three[0])*65536+uint32(three[1])*256+uint32(three[2]), uint32(len(b))
	if mantissa > 8388607 {
		mantissa, exponent = mantissa/256, exponent+1
	}
	return exponent*(1<<24) + mantissa
}

// wantTarget says what the bits tell, and whether they may be, each condition on its own.
func wantTarget(bits uint32) (*mathbig.Int, bool) {
	t := mathbig.NewInt(int64(bits % (1 << 23)))
	if exponent := int(bits / (1 << 24)); exponent >= 3 {
		t.Mul(t, power(256, exponent-3))
	} else {
		t.Div(t, power(256, 3-exponent))
	}
	may := bits/(1<<23)%2 == 0 && t.Sign() > 0 && t.Cmp(bound) < 0 && wantBits(t) == bits
	return t, may
}

// manyBits are bits that may be and that may not, of each exponent.
func manyBits() (all []uint32) {
	mantissas := []uint32{0, 1, 2, 0x7f, 0x80, 0xff, 0x100, 0x101, 0x7fff, 0x8000, 0x8001, 0xff00, 0xffff, 0x10000, 0x10001, 0x10100, 0x123456, 0x7f0000, 0x7fff00, 0x7fffff, 0x800000, 0x800001, 0x808000, 0x810000, 0xffffff}
	for exponent := range uint32(256) {
		for _, m := range mantissas {
			all = append(all, exponent<<24|m)
		}
	}
	x := uint32(1)
	for range 3000 {
		x = x*1664525 + 1013904223
		all = append(all, x, x>>16&0x1f<<24|x>>8&0x7fffff|1<<16)
	}
	return all
}

// mayBits are those of manyBits that may be.
func mayBits() (may []uint32) {
	for _, bits := range manyBits() {
		if _, ok := wantTarget(bits); ok {
			may = append(may, bits)
		}
	}
	return may
}

// targets are those around the ends of bytes, and around highest bytes of 2^23 - 1.
func targets() (ts []api.U256) {
	for size := range 33 {
		for _, top := range []int64{1, 2, 127, 128, 255, 256, 257, 0x7fff, 0x8000, 0x8001, 0xffff, 0x10000, 0x7ffffe, 0x7fffff, 0x800000, 0x800001, 0xffffff} {
			t := new(mathbig.Int).Mul(mathbig.NewInt(top), power(256, size))
			for _, by := range []int64{-1, 0, 1} {
				if n := new(mathbig.Int).Add(t, mathbig.NewInt(by)); n.Cmp(bound) < 0 {
					ts = append(ts, narrow(n))
				}
			}
		}
	}
	return append(ts, api.U256{}, big.Of(1), most, api.U256{0x0123456789abcdef, 0xfedcba9876543210, 5, 0x00ff00ff00ff00ff})
}

// P4.1

func TestOf(t *testing.T) {
	for _, c := range []struct {
		bits uint32
		want api.U256
	}{
		{0x01010000, big.Of(1)},
		{0x017f0000, big.Of(127)},
		{0x02008000, big.Of(128)},
		{0x02010000, big.Of(256)},
		{0x027fff00, big.Of(0x7fff)},
		{0x03008000, big.Of(0x8000)},
		{0x03010000, big.Of(65536)},
		{0x037fffff, big.Of(0x7fffff)},
		{0x04008000, big.Of(0x800000)},
		{0x05123456, big.Of(0x1234560000)},
		{0x207fffff, api.U256{3: 0x7fffff0000000000}},
		{0x2100ffff, api.U256{3: 0xffff000000000000}},
		{0x21008000, api.U256{3: 0x8000000000000000}},
	} {
		if got, e := target.Of(c.bits); got != c.want || e != api.OK {
			t.Errorf("Of(%08x) = %x, %d", c.bits, got, e)
		}
	}
}

func TestOfBitsThatMayNotBe(t *testing.T) {
	for kind, all := range map[string][]uint32{
		"bit 23 is set":                  {0x00ffffff, 0x01810000, 0x02800000, 0x02808000, 0x03800000, 0x03810000, 0x04808000, 0x05923456, 0x20ffffff, 0x20800001, 0x2180ffff},
		"the target is 0":                {0, 0x00123456, 0x007fffff, 0x01000000, 0x01000001, 0x0100ffff, 0x02000000, 0x020000ff, 0x03000000, 0x20000000, 0xff000000},
		"the target is above":            {0x21010000, 0x2101ffff, 0x217fffff, 0x22008000, 0x220000ff, 0x22010000, 0x23000001, 0x230000ff, 0x24000001, 0x24123456, 0xff7fffff, 0xff000001},
		"they are not those of a target": {0x01010001, 0x0101ffff, 0x01018000, 0x02000100, 0x02007f00, 0x02010001, 0x020100ff, 0x03000001, 0x03007fff, 0x030000ff, 0x04000001, 0x04007fff, 0x20007fff, 0x21007fff, 0x210000ff, 0x22000001},
	} {
		for _, bits := range all {
			if got, e := target.Of(bits); got != (api.U256{}) || e != api.ErrForm {
				t.Errorf("%s: Of(%08x) = %x, %d", kind, bits, got, e)
			}
			if got, e := target.Work(bits); got != (api.U256{}) || e != api.ErrForm {
				t.Errorf("%s: Work(%08x) = %x, %d", kind, bits, got, e)
			}
			if target.Meets(api.Hash{}, bits) {
				t.Errorf("%s: Meets(0, %08x)", kind, bits)
			}
			for _, span := range []uint32{0, 480, math.MaxUint32} {
				if got, e := target.Next(bits, span); got != 0 || e != api.ErrForm {
					t.Errorf("%s: Next(%08x, %d) = %08x, %d", kind, bits, span, got, e)
				}
			}
		}
	}
}

func TestOfMany(t *testing.T) {
	for _, bits := range manyBits() {
		want, may := wantTarget(bits)
		got, e := target.Of(bits)
		if may && (got != narrow(want) || e != api.OK) {
			t.Errorf("Of(%08x) = %x, %d, not %x", bits, got, e, want)
		}
		if !may && (got != (api.U256{}) || e != api.ErrForm) {
			t.Errorf("Of(%08x) = %x, %d, and they may not be", bits, got, e)
		}
	}
}

// All mantissas of the exponents at which a target begins or ends.
func TestOfEachMantissa(t *testing.T) {
	for _, exponent := range []uint32{1, 2, 3, 33, 34} {
		for m := uint32(0); m < 1<<24; m += 61 {
			bits := exponent<<24 | m
			_, may := wantTarget(bits)
			if _, e := target.Of(bits); (e == api.OK) != may {
				t.Fatalf("Of(%08x): %d", bits, e)
			}
		}
	}
}

func TestBits(t *testing.T) {
	for _, c := range []struct {
		t    api.U256
		want uint32
	}{
		{api.U256{}, 0},
		{big.Of(1), 0x01010000},
		{big.Of(0x7f), 0x017f0000},
		{big.Of(0x80), 0x02008000},
		{big.Of(0xff), 0x0200ff00},
		{big.Of(0x100), 0x02010000},
		{big.Of(0x7fff), 0x027fff00},
		{big.Of(0x8000), 0x03008000},
		{big.Of(0x7fffff), 0x037fffff},
		{big.Of(0x800000), 0x04008000},
		{big.Of(0x12345678), 0x04123456},
		{most, 0x2100ffff},
		{api.U256{3: 1 << 63}, 0x21008000},
		{api.U256{full, full, full, full >> 1}, 0x207fffff},
	} {
		if got := target.Bits(c.t); got != c.want {
			t.Errorf("Bits(%x) = %08x, not %08x", c.t, got, c.want)
		}
	}
	for _, n := range targets() {
		if got, want := target.Bits(n), wantBits(wide(n)); got != want {
			t.Errorf("Bits(%x) = %08x, not %08x", n, got, want)
		}
	}
}

func TestWork(t *testing.T) {
	for _, c := range []struct {
		bits uint32
		want api.U256
	}{
		{0x207fffff, big.Of(2)},
		{0x2100ffff, big.Of(1)},
		{0x21008000, big.Of(1)},
		{0x01010000, api.U256{3: 1 << 63}},
		{0x01020000, api.U256{0x5555555555555555, 0x5555555555555555, 0x5555555555555555, 0x5555555555555555}},
		{0x01030000, api.U256{3: 1 << 62}},
		{0x1d00ffff, big.Of(0x100010001)},
	} {
		if got, e := target.Work(c.bits); got != c.want || e != api.OK {
			t.Errorf("Work(%08x) = %x, %d", c.bits, got, e)
		}
	}
	for _, bits := range mayBits() {
		n, _ := wantTarget(bits)
		want := new(mathbig.Int).Div(bound, n.Add(n, one))
		if got, e := target.Work(bits); got != narrow(want) || e != api.OK {
			t.Errorf("Work(%08x) = %x, %d, not %x", bits, got, e, want)
		}
	}
}

// P4.2

func TestMeets(t *testing.T) {
	for _, bits := range mayBits() {
		n, _ := target.Of(bits)
		below, _ := big.Sub(n, big.Of(1))
		above, _ := big.Add(n, big.Of(1))
		for _, c := range []struct {
			n    api.U256
			want bool
		}{{api.U256{}, true}, {big.Of(1), true}, {below, true}, {n, true}, {above, false}, {most, false}} {
			if got := target.Meets(big.ToHash(c.n), bits); got != c.want {
				t.Errorf("Meets(%x, %08x) = %t", big.ToHash(c.n), bits, got)
			}
		}
	}
}

// The hash's lowest byte is its first one.
func TestMeetsByTheLastBytes(t *testing.T) {
	if !target.Meets(api.Hash{0: 255, 1: 255}, 0x03010000) || target.Meets(api.Hash{2: 1, 0: 1}, 0x03010000) {
		t.Error("the first bytes are not the lowest ones")
	}
	if target.Meets(api.Hash{31: 0x80}, 0x207fffff) || !target.Meets(api.Hash{31: 0x7f}, 0x207fffff) {
		t.Error("the last byte is not the highest one")
	}
}

// wantNext does what the document says of the next bits, in numbers of any size.
func wantNext(bits, span uint32) uint32 {
	n, _ := wantTarget(bits)
	s := int64(span)
	if s < 8*60/4 {
		s = 8 * 60 / 4
	}
	if s > 8*60*4 {
		s = 8 * 60 * 4
	}
	n.Mul(n, mathbig.NewInt(s))
	n.Div(n, mathbig.NewInt(8*60))
	if n.Sign() == 0 {
		n.Set(one)
	}
	if limit, _ := wantTarget(0x207fffff); n.Cmp(limit) > 0 {
		n = limit
	}
	return wantBits(n)
}

func TestNext(t *testing.T) {
	for _, c := range []struct{ bits, span, want uint32 }{
		{0x207fffff, 480, 0x207fffff},
		{0x207fffff, 481, 0x207fffff},
		{0x207fffff, 479, 0x207fbbba},
		{0x207fffff, 240, 0x203fffff},
		{0x207fffff, 120, 0x201fffff},
		{0x207fffff, 119, 0x201fffff},
		{0x207fffff, 0, 0x201fffff},
		{0x207fffff, 1920, 0x207fffff},
		{0x207fffff, math.MaxUint32, 0x207fffff},
		// Above the target of Limit to begin with, and below it behind a short turn.
		{0x2100ffff, 480, 0x207fffff},
		{0x2100ffff, 120, 0x203fffc0},
		{0x2100ffff, math.MaxUint32, 0x207fffff},
		{0x201fffff, 1920, 0x207ffffc},
		{0x201fffff, 1921, 0x207ffffc},
		{0x201fffff, math.MaxUint32, 0x207ffffc},
		{0x20200000, 1919, 0x207feeee},
		{0x20200000, 1920, 0x207fffff},
		// At least 1.
		{0x01010000, 0, 0x01010000},
		{0x01010000, 479, 0x01010000},
		{0x01010000, 959, 0x01010000},
		{0x01010000, 960, 0x01020000},
		{0x01010000, 1920, 0x01040000},
		{0x01010000, 2000, 0x01040000},
		{0x01040000, 120, 0x01010000},
		{0x01030000, 120, 0x01010000},
		{0x01070000, 120, 0x01010000},
		{0x01080000, 120, 0x01020000},
		{0x01400000, 960, 0x02008000},
	} {
		if got, e := target.Next(c.bits, c.span); got != c.want || e != api.OK {
			t.Errorf("Next(%08x, %d) = %08x, %d, not %08x", c.bits, c.span, got, e, c.want)
		}
	}
}

func TestNextOfMany(t *testing.T) {
	spans := []uint32{0, 1, 119, 120, 121, 127, 239, 240, 241, 479, 480, 481, 600, 959, 960, 961, 1001, 1439, 1440, 1441, 1919, 1920, 1921, 7680, 1 << 16, 1 << 31, math.MaxUint32 - 1, math.MaxUint32}
	for _, bits := range mayBits() {
		for _, span := range spans {
			if got, e := target.Next(bits, span); got != wantNext(bits, span) || e != api.OK {
				t.Errorf("Next(%08x, %d) = %08x, %d, not %08x", bits, span, got, e, wantNext(bits, span))
			}
		}
	}
}

// Targets at and near that of Limit, and those that with the longest span come near it.
func TestNextNearLimit(t *testing.T) {
	for _, top := range []uint32{0x1ffffe, 0x1fffff, 0x200000, 0x200001, 0x3fffff, 0x400000, 0x7ffffe, 0x7fffff} {
		for span := uint32(100); span < 2000; span += 7 {
			bits := 0x20000000 | top
			if got, e := target.Next(bits, span); got != wantNext(bits, span) || e != api.OK {
				t.Errorf("Next(%08x, %d) = %08x, %d, not %08x", bits, span, got, e, wantNext(bits, span))
			}
		}
	}
	for m := uint32(0x8000); m < 0x10000; m += 97 {
		for _, span := range []uint32{0, 120, 121, 240, 241, 479, 480, 960, 961, 1920} {
			bits := 0x21000000 | m
			if got, e := target.Next(bits, span); got != wantNext(bits, span) || e != api.OK {
				t.Errorf("Next(%08x, %d) = %08x, %d, not %08x", bits, span, got, e, wantNext(bits, span))
			}
		}
	}
}

// P4.3

func TestSubsidy(t *testing.T) {
	for _, c := range []struct {
		height uint32
		want   uint64
	}{
		{0, 0}, {1, 5000000000}, {2, 5000000000}, {15, 5000000000}, {16, 2500000000}, {17, 2500000000}, {31, 2500000000}, {32, 1250000000}, {33, 1250000000},
		// 5000000000 is 2^9 times an odd number: from the tenth halving on something is lost.
		{16*9 + 15, 9765625}, {16 * 10, 4882812}, {16 * 11, 2441406}, {16*32 - 1, 2}, {16 * 32, 1}, {16*33 - 1, 1}, {16 * 33, 0},
		{16*63 + 15, 0}, {16 * 64, 0}, {16*64 + 1, 0}, {16 * 65, 0}, {16 * 128, 0}, {1 << 31, 0}, {math.MaxUint32, 0},
	} {
		if got := target.Subsidy(c.height); got != c.want {
			t.Errorf("Subsidy(%d) = %d, not %d", c.height, got, c.want)
		}
	}
	want := uint64(5000000000)
	for height := uint32(1); height < 16*70; height++ {
		if height%16 == 0 {
			want /= 2
		}
		if got := target.Subsidy(height); got != want {
			t.Errorf("Subsidy(%d) = %d, not %d", height, got, want)
		}
	}
}

// P4.4

func TestOfOfBitsOfOfIsOf(t *testing.T) {
	for _, bits := range mayBits() {
		n, _ := target.Of(bits)
		if target.Bits(n) != bits {
			t.Errorf("Bits of Of(%08x) = %08x", bits, target.Bits(n))
		}
		if again, e := target.Of(target.Bits(n)); again != n || e != api.OK {
			t.Errorf("Of of Bits of Of(%08x) = %x, %d", bits, again, e)
		}
	}
	// The bits of whatever target may be, but for 0; and what they tell is at most it.
	for _, n := range targets() {
		got, e := target.Of(target.Bits(n))
		if n == (api.U256{}) {
			if e != api.ErrForm {
				t.Errorf("Of of Bits(0): %d", e)
			}
			continue
		}
		if e != api.OK || big.Less(n, got) {
			t.Errorf("Of of Bits(%x) = %x, %d", n, got, e)
		}
	}
}

func TestTheLesserTargetHasAtLeastTheWork(t *testing.T) {
	all := mayBits()
	for i, a := range all {
		for _, b := range []uint32{all[(i+1)%len(all)], all[(i*7+3)%len(all)], 0x207fffff, 0x2100ffff, 0x01010000} {
			lesser, _ := target.Of(a)
			greater, _ := target.Of(b)
			more, _ := target.Work(a)
			work, _ := target.Work(b)
			if big.Less(greater, lesser) {
				more, work = work, more
			}
			if big.Less(more, work) {
				t.Errorf("of %08x and %08x the lesser target has less work", a, b)
			}
		}
	}
}

func TestNextOfTheSpanThatIsWanted(t *testing.T) {
	limit, _ := target.Of(api.Limit)
	for _, bits := range mayBits() {
		n, _ := target.Of(bits)
		want := bits
		if big.Less(limit, n) {
			want = api.Limit
		}
		if got, e := target.Next(bits, api.Turn*api.Spacing); got != want || e != api.OK {
			t.Errorf("Next(%08x, as is wanted) = %08x, %d", bits, got, e)
		}
	}
}
