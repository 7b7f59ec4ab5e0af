package cell_test

import (
	"bytes"
	"math"
	"math/big"
	"slices"
	"testing"

	"moneyer/api"
	"moneyer/cell"
)

// numbers are such as stand at the edges of the lengths, and what is beside them.
func numbers() []int64 {
	l := []int64{0, 1, 2, -1, -2, 5, 100, -100, 3037000499, 3037000500, -3037000500, math.MaxInt64, math.MinInt64, math.MaxInt64 - 1, math.MinInt64 + 1}
	for k := range 63 {
		for _, d := range []int64{-2, -1, 0, 1} {
			l = append(l, 1<<k+d, -(1<<k)+d)
		}
	}
	return l
}

// bytesOf says what the bytes of a number are: the fewest from which it comes back.
func bytesOf(n int64) []byte {
	if n == 0 {
		return nil
	}
	size := 1
	for size < 8 && (n < -(1<<(8*size-1)) || n >= 1<<(8*size-1)) {
		size++
	}
	var b []byte
	for i := range size {
		b = append(b, byte(uint64(n)>>(8*i)))
	}
	return b
}

func number(t *testing.T, b []byte) (int64, api.Errno) {
	t.Helper()
	n, e := cell.Number(b)
	if e != api.OK && n != 0 {
		t.Errorf("Number(%x) = %d, %d", b, n, e)
	}
	return n, e
}

func push(t *testing.T, l [][]byte, b []byte) ([][]byte, api.Errno) {
	t.Helper()
	got, e := cell.Push(l, b)
	if e != api.OK && len(got) != 0 {
		t.Errorf("Push = %x, %d", got, e)
	}
	return got, e
}

func pop(t *testing.T, l [][]byte, n int) (rest, popped [][]byte, e api.Errno) {
	t.Helper()
	rest, popped, e = cell.Pop(l, n)
	if e != api.OK && (len(rest) != 0 || len(popped) != 0) {
		t.Errorf("Pop = %x, %x, %d", rest, popped, e)
	}
	return rest, popped, e
}

func same(a, b [][]byte) bool { return slices.EqualFunc(a, b, bytes.Equal) }

func stack(n int) [][]byte {
	var l [][]byte
	for i := range n {
		l = append(l, bytes.Repeat([]byte{byte(i)}, i%5))
	}
	return l
}

// The chapter's examples.
func TestExamples(t *testing.T) {
	for _, c := range []struct {
		n int64
		b []byte
	}{{0, nil}, {127, []byte{0x7f}}, {128, []byte{0x80, 0}}, {-1, []byte{0xff}}, {-128, []byte{0x80}}} {
		if b := cell.Bytes(c.n); !bytes.Equal(b, c.b) {
			t.Errorf("Bytes(%d) = %x", c.n, b)
		}
	}
	if n, e := number(t, []byte{0x80, 0}); n != 128 || e != api.OK {
		t.Errorf("Number(80 00) = %d, %d", n, e)
	}
	for _, b := range [][]byte{{0}, {0x7f, 0}} {
		if _, e := number(t, b); e != api.ErrForm {
			t.Errorf("Number(%x): %d", b, e)
		}
	}
	if n, e := cell.Two(api.OpMul, 1<<62, 2); n != 0 || e != api.ErrLimit {
		t.Errorf("Two(OpMul, 2^62, 2) = %d, %d", n, e)
	}
	if n, e := cell.Two(api.OpLess, 1, 2); n != 1 || e != api.OK {
		t.Errorf("Two(OpLess, 1, 2) = %d, %d", n, e)
	}
}

// P12.1, and P12.4: a number has one text of bytes.

func TestNumbers(t *testing.T) {
	for _, n := range numbers() {
		b := cell.Bytes(n)
		if !bytes.Equal(b, bytesOf(n)) {
			t.Errorf("Bytes(%d) = %x", n, b)
		}
		if got, e := number(t, b); got != n || e != api.OK {
			t.Errorf("Number(%x) = %d, %d", b, got, e)
		}
		// The same number in more bytes.
		fill := byte(0)
		if n < 0 {
			fill = 255
		}
		for more := 1; more < 10; more++ {
			b := append(bytes.Clone(b), bytes.Repeat([]byte{fill}, more)...)
			if _, e := number(t, b); e != api.ErrForm {
				t.Errorf("Number(%x): %d", b, e)
			}
		}
	}
}

func TestAllShortTexts(t *testing.T) {
	for x := range 1 << 16 {
		for _, b := range [][]byte{{byte(x), byte(x >> 8)}, {byte(x)}, {0, 0, 0, 0, 0, 0, byte(x), byte(x >> 8)}, {7, byte(x), byte(x >> 8)}} {
			n := int64(0)
			for i := len(b) - 1; i >= 0; i-- {
				n = n<<8 | int64(b[i])
			}
			if last := b[len(b)-1]; last >= 128 {
				n -= 1 << (8*len(b) - 1) << 1
			}
			got, e := number(t, b)
			if bytes.Equal(bytesOf(n), b) {
				if got != n || e != api.OK {
					t.Fatalf("Number(%x) = %d, %d", b, got, e)
				}
			} else if e != api.ErrForm {
				t.Fatalf("Number(%x): %d", b, e)
			}
		}
	}
	for _, n := range []int{9, 10, 16, 3000, 70000} {
		for _, fill := range []byte{0, 1, 127, 128, 255} {
			if _, e := number(t, bytes.Repeat([]byte{fill}, n)); e != api.ErrForm {
				t.Errorf("Number of %d bytes %d: %d", n, fill, e)
			}
		}
	}
	if n, e := number(t, nil); n != 0 || e != api.OK {
		t.Errorf("Number(none) = %d, %d", n, e)
	}
}

func TestTruth(t *testing.T) {
	for _, n := range []int{0, 1, 2, 3000, 5000} {
		if cell.True(make([]byte, n)) {
			t.Errorf("%d bytes 0 are true", n)
		}
		for _, at := range []int{0, n / 2, n - 1} {
			for _, x := range []byte{1, 128, 255} {
				if n > 0 {
					b := make([]byte, n)
					b[at] = x
					if !cell.True(b) {
						t.Errorf("%d bytes with one %d at %d are not true", n, x, at)
					}
				}
			}
		}
	}
	if b := cell.Bool(true); !bytes.Equal(b, []byte{1}) {
		t.Errorf("Bool(true) = %x", b)
	}
	if b := cell.Bool(false); len(b) != 0 {
		t.Errorf("Bool(false) = %x", b)
	}
}

// P12.2, and P12.4: what is pushed is popped.

func TestPush(t *testing.T) {
	for _, n := range []int{0, 1, 2, 62, 63} {
		for _, size := range []int{0, 1, 2999, 3000} {
			b := bytes.Repeat([]byte{9}, size)
			got, e := push(t, stack(n), b)
			if !same(got, append(stack(n), b)) || e != api.OK {
				t.Errorf("Push of %d bytes upon %d: %d, %d", size, n, len(got), e)
			}
			rest, popped, e := pop(t, got, 1)
			if !same(rest, stack(n)) || !same(popped, [][]byte{b}) || e != api.OK {
				t.Errorf("Pop of %d bytes upon %d: %d, %d, %d", size, n, len(rest), len(popped), e)
			}
		}
		for _, size := range []int{3001, 3002, 70000} {
			if _, e := push(t, stack(n), make([]byte, size)); e != api.ErrLimit {
				t.Errorf("Push of %d bytes upon %d: %d", size, n, e)
			}
		}
	}
	for _, n := range []int{64, 65, 200} {
		for _, size := range []int{0, 1, 3000, 3001} {
			if _, e := push(t, stack(n), make([]byte, size)); e != api.ErrLimit {
				t.Errorf("Push upon %d: %d", n, e)
			}
		}
	}
}

func TestPop(t *testing.T) {
	for _, many := range []int{0, 1, 2, 3, 64, 70} {
		l := stack(many)
		for n := range many + 1 {
			rest, popped, e := pop(t, l, n)
			if !same(rest, l[:many-n]) || !same(popped, l[many-n:]) || e != api.OK {
				t.Errorf("Pop(%d, %d) = %x, %x, %d", many, n, rest, popped, e)
			}
		}
		for _, n := range []int{many + 1, many + 2, math.MaxInt} {
			if _, _, e := pop(t, l, n); e != api.ErrNone {
				t.Errorf("Pop(%d, %d): %d", many, n, e)
			}
		}
		for _, n := range []int{-1, -2, math.MinInt} {
			if _, _, e := pop(t, l, n); e != api.ErrArg {
				t.Errorf("Pop(%d, %d): %d", many, n, e)
			}
		}
	}
	if _, _, e := pop(t, nil, -1); e != api.ErrArg {
		t.Errorf("Pop(none, -1): %d", e)
	}
}

// P12.3

func TestTwo(t *testing.T) {
	l := numbers()
	for _, a := range l {
		for _, b := range l {
			for _, c := range []struct {
				op uint8
				f  func(z, x, y *big.Int) *big.Int
			}{{api.OpAdd, (*big.Int).Add}, {api.OpSub, (*big.Int).Sub}, {api.OpMul, (*big.Int).Mul}} {
				want := c.f(new(big.Int), big.NewInt(a), big.NewInt(b))
				n, e := cell.Two(c.op, a, b)
				if want.IsInt64() {
					if n != want.Int64() || e != api.OK {
						t.Fatalf("Two(%d, %d, %d) = %d, %d", c.op, a, b, n, e)
					}
				} else if n != 0 || e != api.ErrLimit {
					t.Fatalf("Two(%d, %d, %d) = %d, %d", c.op, a, b, n, e)
				}
			}
			want := int64(0)
			if a < b {
				want = 1
			}
			if n, e := cell.Two(api.OpLess, a, b); n != want || e != api.OK {
				t.Fatalf("Two(OpLess, %d, %d) = %d, %d", a, b, n, e)
			}
		}
	}
	for op := range 256 {
		if op == api.OpAdd || op == api.OpSub || op == api.OpMul || op == api.OpLess {
			continue
		}
		for _, n := range []int64{0, 1, math.MaxInt64} {
			if got, e := cell.Two(uint8(op), n, n); got != 0 || e != api.ErrArg {
				t.Errorf("Two(%d, %d, %d) = %d, %d", op, n, n, got, e)
			}
		}
	}
}

// The rules that hold everywhere: what is handed in stays as it is, what is answered is new memory.
func TestMemory(t *testing.T) {
	overwrite := func(l [][]byte) {
		for i, b := range l[:cap(l)] {
			for k := range b[:cap(b)] {
				b[:cap(b)][k] ^= 255
			}
			l[:cap(l)][i] = []byte{99}
		}
	}
	room := make([]byte, 90)
	for i := range room {
		room[i] = byte(i)
	}
	was := bytes.Clone(room)
	whole := [][]byte{room[:3], room[3:5], room[5:5], room[5:20], room[20:30], {1}, {2}}
	wasWhole := slices.Clone(whole)
	for i := range wasWhole {
		wasWhole[i] = bytes.Clone(whole[i])
	}
	l := whole[:4]
	for n := range 5 {
		rest, popped, _ := cell.Pop(l, n)
		restAgain, poppedAgain, _ := cell.Pop(l, n)
		overwrite(rest)
		if !same(popped, wasWhole[4-n:4]) {
			t.Errorf("what is left and what is popped share memory")
		}
		overwrite(popped)
		if !same(restAgain, wasWhole[:4-n]) || !same(poppedAgain, wasWhole[4-n:4]) {
			t.Errorf("two answers of Pop share memory")
		}
	}
	one, _ := cell.Push(l, room[30:33])
	two, _ := cell.Push(l, room[30:33])
	overwrite(one)
	if !same(two, append(slices.Clone(wasWhole[:4]), was[30:33])) {
		t.Error("two answers of Push share memory")
	}
	cell.Number(room[:5])
	cell.True(room)
	for _, b := range [][]byte{cell.Bytes(1 << 40), cell.Bool(true)} {
		for i := range b[:cap(b)] {
			b[:cap(b)][i] ^= 255
		}
	}
	if !bytes.Equal(cell.Bytes(1<<40), []byte{0, 0, 0, 0, 0, 1}) || !bytes.Equal(cell.Bool(true), []byte{1}) {
		t.Error("two answers share memory")
	}
	if !bytes.Equal(room, was) || !same(whole, wasWhole) {
		t.Error("what was handed in has changed")
	}
}
