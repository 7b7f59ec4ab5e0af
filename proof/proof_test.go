package proof_test

import (
	"bytes"
	"math"
	"math/rand"
	"slices"
	"testing"

	"moneyer/api"
	"moneyer/ends"
	"moneyer/place"
	"moneyer/proof"
	"moneyer/wood"
)

func join(parts ...[]byte) []byte { return bytes.Join(parts, nil) }

func steps(first byte, n int) []byte {
	b := make([]byte, n)
	for i := range b {
		b[i] = first + byte(i)
	}
	return b
}

var (
	none   = api.Given{Kind: api.GivenNone}
	held   = api.Given{Kind: api.GivenHeld}
	hashed = api.Given{Kind: api.GivenHash, H: api.Hash(steps(1, 32))}
)

func some() (api.Proof, []byte) {
	return api.Proof{Leaves: []uint64{5, 300, 0, math.MaxUint64}, Values: []api.Given{none, hashed, held, {Kind: api.GivenHash}}},
		join([]byte{4, 5, 253, 44, 1, 0}, bytes.Repeat([]byte{255}, 9), []byte{4, 1, 2}, steps(1, 32), []byte{3, 2}, make([]byte, 32))
}

// bytesOf says what the bytes of a proof are, whether it may be or not.
func bytesOf(p api.Proof) []byte {
	b := ends.Count(uint64(len(p.Leaves)))
	for _, leaf := range p.Leaves {
		b = join(b, ends.Count(leaf))
	}
	b = join(b, ends.Count(uint64(len(p.Values))))
	for _, v := range p.Values {
		b = append(b, v.Kind)
		if v.Kind == api.GivenHash {
			b = append(b, v.H[:]...)
		}
	}
	return b
}

func isNone(p api.Proof) bool { return len(p.Leaves) == 0 && len(p.Values) == 0 }

func alike(a, b api.Proof) bool {
	return slices.Equal(a.Leaves, b.Leaves) && slices.Equal(a.Values, b.Values)
}

// prove, put, get and read call the program and hold an error's other results to be zero.
func prove(t *testing.T, w *wood.Wood, leaves []uint64, held []api.Place) (api.Proof, api.Errno) {
	t.Helper()
	p, e := proof.Prove(w, leaves, held)
	if e != api.OK && !isNone(p) {
		t.Errorf("Prove = %v, %d", p, e)
	}
	return p, e
}

func put(t *testing.T, p api.Proof) ([]byte, api.Errno) {
	t.Helper()
	b, e := proof.Put(p)
	if e != api.OK && len(b) != 0 {
		t.Errorf("Put = %x, %d", b, e)
	}
	return b, e
}

func get(t *testing.T, b []byte, at int) (api.Proof, int, api.Errno) {
	t.Helper()
	p, next, e := proof.Get(b, at)
	if e != api.OK && (!isNone(p) || next != 0) {
		t.Errorf("Get = %v, %d, %d", p, next, e)
	}
	return p, next, e
}

func read(t *testing.T, b []byte) (api.Proof, api.Errno) {
	t.Helper()
	p, e := proof.Read(b)
	if e != api.OK && !isNone(p) {
		t.Errorf("Read = %v, %d", p, e)
	}
	return p, e
}

func forest(t *testing.T, n int, gone ...uint64) *wood.Wood {
	t.Helper()
	w := wood.New()
	for i := range n {
		w.Add([]api.Hash{{byte(i), byte(i >> 8), 7}})
	}
	if e := w.Take(gone); e != api.OK {
		t.Fatal(e)
	}
	return w
}

// The chapter's examples.
func TestExamples(t *testing.T) {
	if b, e := put(t, api.Proof{}); !bytes.Equal(b, []byte{0, 0}) || e != api.OK {
		t.Errorf("Put(none) = %x, %d", b, e)
	}
	if p, e := read(t, []byte{1, 2, 1, 1}); !alike(p, api.Proof{Leaves: []uint64{2}, Values: []api.Given{none}}) || e != api.OK {
		t.Errorf("Read(01 02 01 01) = %v, %d", p, e)
	}
	if _, e := read(t, []byte{1}); e != api.ErrShort {
		t.Errorf("Read(01): %d", e)
	}
	if _, e := read(t, []byte{0, 1, 4}); e != api.ErrForm {
		t.Errorf("Read(00 01 04): %d", e)
	}
	if p, e := prove(t, forest(t, 2), []uint64{0}, nil); len(p.Values) != 1 || e != api.OK {
		t.Errorf("Prove = %v, %d", p, e)
	}
}

// P17.1

func TestProve(t *testing.T) {
	r := rand.New(rand.NewSource(1))
	kinds := map[uint8]int{}
	for range 2000 {
		n := r.Intn(40)
		var gone, there []uint64
		for k := range n {
			if r.Intn(2) == 0 {
				gone = append(gone, uint64(k))
			} else {
				there = append(there, uint64(k))
			}
		}
		w := forest(t, n, gone...)
		var leaves []uint64
		for _, k := range there {
			if r.Intn(4) == 0 {
				leaves = append(leaves, k)
			}
		}
		needs, _ := place.Needs(uint64(n), leaves)
		var have []api.Place
		for _, p := range needs {
			if r.Intn(3) == 0 {
				have = append(have, p)
			}
		}
		// Places that are not needed, and such as do not stand, do not count; nor does the order.
		have = append(have, api.Place{Row: 99, At: 1}, api.Place{Row: 0, At: 1 << 40})
		have = append(have, have...)
		r.Shuffle(len(have), func(i, k int) { have[i], have[k] = have[k], have[i] })
		var values []api.Given
		for _, p := range needs {
			v, _ := w.Value(p)
			switch {
			case slices.Contains(have, p):
				values = append(values, held)
			case v.Is:
				values = append(values, api.Given{Kind: api.GivenHash, H: v.H})
			default:
				values = append(values, none)
			}
			kinds[values[len(values)-1].Kind]++
		}
		p, e := prove(t, w, leaves, have)
		if !alike(p, api.Proof{Leaves: leaves, Values: values}) || e != api.OK {
			t.Fatalf("Prove(%d, %v, %v) = %v, %d", n, leaves, have, p, e)
		}
		if len(gone) > 0 {
			all := slices.Sorted(slices.Values(append(slices.Clone(leaves), gone[r.Intn(len(gone))])))
			if _, e := prove(t, w, all, have); e != api.ErrNone {
				t.Fatalf("Prove(%v): %d", all, e)
			}
		}
	}
	if kinds[api.GivenNone] < 100 || kinds[api.GivenHash] < 100 || kinds[api.GivenHeld] < 100 {
		t.Errorf("kinds: %v", kinds)
	}
}

func rise(n int) []uint64 {
	var l []uint64
	for i := range n {
		l = append(l, uint64(i))
	}
	return l
}

func TestProveOfWhatMayNotBe(t *testing.T) {
	w := forest(t, 300, 2)
	for _, leaves := range [][]uint64{{300}, {0, 301}, {1, 1}, {3, 1}, {2, 2}, {2, 300}, rise(257), {math.MaxUint64}} {
		if _, e := prove(t, w, leaves, nil); e != api.ErrArg {
			t.Errorf("Prove(%v): %d", leaves, e)
		}
	}
	if _, e := prove(t, w, []uint64{2}, nil); e != api.ErrNone {
		t.Errorf("Prove of a leaf that is gone: %d", e)
	}
	if p, e := prove(t, w, rise(259)[3:], nil); len(p.Leaves) != 256 || e != api.OK {
		t.Errorf("Prove of 256: %d", e)
	}
	if p, e := prove(t, wood.New(), nil, nil); !isNone(p) || e != api.OK {
		t.Errorf("Prove of nothing = %v, %d", p, e)
	}
	for _, w := range []*wood.Wood{nil, {}} {
		for _, leaves := range [][]uint64{nil, {0}, {1, 0}, rise(300)} {
			if _, e := prove(t, w, leaves, nil); e != api.ErrNil {
				t.Errorf("Prove of nil: %d", e)
			}
		}
	}
}

// P17.2

func TestPut(t *testing.T) {
	p, want := some()
	if b, e := put(t, p); !bytes.Equal(b, want) || e != api.OK {
		t.Errorf("Put = %x, %d", b, e)
	}
	if got, e := read(t, want); !alike(got, p) || !proof.Same(got, p) || e != api.OK {
		t.Errorf("Read = %v, %d", got, e)
	}
	for i, p := range []api.Proof{
		{Leaves: rise(256)}, {Values: slices.Repeat([]api.Given{none}, 5120)}, {Leaves: slices.Repeat([]uint64{1 << 40}, 256), Values: slices.Repeat([]api.Given{hashed}, 5120)},
		{Values: []api.Given{held}}, {Leaves: []uint64{252, 253, 65535, 65536, 1<<32 - 1, 1 << 32}},
	} {
		want := bytesOf(p)
		b, e := put(t, p)
		if !bytes.Equal(b, want) || e != api.OK {
			t.Errorf("%d: Put = %x, %d", i, b, e)
		}
		for _, behind := range [][]byte{nil, {0}, steps(200, 80)} {
			if got, next, e := get(t, join(steps(9, 3), want, behind), 3); !alike(got, p) || next != 3+len(want) || e != api.OK {
				t.Errorf("%d: Get: %d, %d", i, next, e)
			}
		}
		if _, e := read(t, join(want, []byte{0})); e != api.ErrForm {
			t.Errorf("%d: Read with one more: %d", i, e)
		}
	}
	for i, p := range []api.Proof{
		{Leaves: rise(257)}, {Leaves: rise(5000)}, {Values: slices.Repeat([]api.Given{none}, 5121)},
		{Values: []api.Given{{}}}, {Values: []api.Given{{Kind: 4}}}, {Values: []api.Given{{Kind: 255}}}, {Values: []api.Given{hashed, none, {}}},
		{Values: []api.Given{{Kind: api.GivenNone, H: api.Hash{31: 1}}}}, {Values: []api.Given{none, {Kind: api.GivenHeld, H: api.Hash{1}}}}, {Values: []api.Given{{H: api.Hash{1}}}},
	} {
		if _, e := put(t, p); e != api.ErrArg {
			t.Errorf("%d: Put: %d", i, e)
		}
	}
}

func TestGetOfWhatMayNotBe(t *testing.T) {
	_, text := some()
	for n := range text {
		_, _, e1 := get(t, text[:n:n], 0)
		_, _, e2 := get(t, text[:n], 0)
		_, _, e3 := get(t, join(steps(9, 3), text[:n]), 3)
		_, e4 := read(t, text[:n])
		if e1 != api.ErrShort || e2 != api.ErrShort || e3 != api.ErrShort || e4 != api.ErrShort {
			t.Errorf("%d bytes: %d, %d, %d, %d", n, e1, e2, e3, e4)
		}
	}
	for _, b := range [][]byte{nil, {0, 0}, text} {
		for _, at := range []int{-1, math.MinInt, len(b) + 1, math.MaxInt} {
			if _, _, e := get(t, b, at); e != api.ErrArg {
				t.Errorf("Get at %d of %d bytes: %d", at, len(b), e)
			}
		}
		if _, _, e := get(t, b, len(b)); e != api.ErrShort {
			t.Errorf("Get at the end: %d", e)
		}
	}
	huge := bytes.Repeat([]byte{255}, 9)
	for i, c := range []struct {
		b []byte
		e api.Errno
	}{
		{[]byte{253, 1, 1}, api.ErrLimit},
		{huge, api.ErrLimit},
		{[]byte{253, 252, 0}, api.ErrForm},
		{[]byte{1, 253, 252, 0}, api.ErrForm},
		{[]byte{2, 7, 254, 255, 255, 0, 0}, api.ErrForm},
		{[]byte{0, 253, 1, 20}, api.ErrLimit},
		{join([]byte{0}, huge), api.ErrLimit},
		{[]byte{0, 253, 3, 0}, api.ErrForm},
		{[]byte{0, 1, 0}, api.ErrForm},
		{[]byte{0, 1, 4}, api.ErrForm},
		{[]byte{0, 2, 1, 255}, api.ErrForm},
		{join([]byte{0, 2, 2}, make([]byte, 32), []byte{128}), api.ErrForm},
	} {
		for _, behind := range [][]byte{nil, {0}, make([]byte, 9000)} {
			b := join(c.b, behind)
			if _, _, e := get(t, b, 0); e != c.e {
				t.Errorf("%d: Get with %d more: %d, not %d", i, len(behind), e, c.e)
			}
			if _, e := read(t, b); e != c.e {
				t.Errorf("%d: Read with %d more: %d, not %d", i, len(behind), e, c.e)
			}
		}
	}
	// The most that there may be, that is not there.
	for _, b := range [][]byte{{253, 0, 1}, {0, 253, 0, 20}} {
		if _, e := read(t, b); e != api.ErrShort {
			t.Errorf("Read(%x): %d", b, e)
		}
	}
}

// P17.3: of bytes of which one is changed: what is got of them is put as just these.
func TestWhatIsGotIsPut(t *testing.T) {
	_, text := some()
	got := 0
	for i := range text {
		for x := range 256 {
			b := bytes.Clone(text)
			b[i] = byte(x)
			p, next, e := get(t, b, 0)
			if e != api.OK {
				continue
			}
			got++
			if again, e := put(t, p); e != api.OK || !bytes.Equal(again, b[:next]) {
				t.Errorf("Get(%x, 0) = %v, and that is put as %x, %d", b, p, again, e)
			}
		}
	}
	if got < 10000 {
		t.Errorf("just %d of the changed bytes are a proof's", got)
	}
}

func TestSame(t *testing.T) {
	a, _ := some()
	b, _ := some()
	if !proof.Same(a, b) || !proof.Same(api.Proof{}, api.Proof{Leaves: []uint64{}, Values: []api.Given{}}) {
		t.Error("a proof is not the same as itself")
	}
	for i, change := range []func(*api.Proof){
		func(p *api.Proof) { p.Leaves[3]-- },
		func(p *api.Proof) { p.Leaves = p.Leaves[:3] },
		func(p *api.Proof) { p.Leaves = nil },
		func(p *api.Proof) { p.Leaves[0], p.Leaves[1] = p.Leaves[1], p.Leaves[0] },
		func(p *api.Proof) { p.Values = p.Values[1:] },
		func(p *api.Proof) { p.Values = append(p.Values, none) },
		func(p *api.Proof) { p.Values[0] = held },
		func(p *api.Proof) { p.Values[1].H[31]++ },
	} {
		b, _ := some()
		change(&b)
		if proof.Same(a, b) || proof.Same(b, a) {
			t.Errorf("%d: is the same", i)
		}
	}
}

// The rules that hold everywhere: what is handed in stays as it is, what is answered is new memory.
func TestMemory(t *testing.T) {
	spoil := func(p api.Proof) {
		for i := range p.Leaves[:cap(p.Leaves)] {
			p.Leaves[:cap(p.Leaves)][i] = 77
		}
		for i := range p.Values[:cap(p.Values)] {
			p.Values[:cap(p.Values)][i] = api.Given{Kind: 9}
		}
	}
	w := forest(t, 20, 3)
	leaves := []uint64{1, 4, 5, 99}
	places := []api.Place{{Row: 1, At: 1}, {At: 0}, {Row: 9}}
	stump := w.Stump()
	one, _ := proof.Prove(w, leaves[:3], places[:2])
	two, _ := proof.Prove(w, leaves[:3], places[:2])
	want := bytesOf(two)
	spoil(one)
	if !bytes.Equal(bytesOf(two), want) || !slices.Equal(leaves, []uint64{1, 4, 5, 99}) || !slices.Equal(places, []api.Place{{Row: 1, At: 1}, {At: 0}, {Row: 9}}) || !slices.Equal(w.Stump().Roots, stump.Roots) {
		t.Error("Prove shares memory, or has changed what it was handed")
	}
	p, text := some()
	room := join(text, steps(0, 20))
	was := bytes.Clone(room)
	a, _ := proof.Read(room[:len(text)])
	b, _ := proof.Read(room[:len(text)])
	spoil(a)
	x, _ := proof.Put(p)
	y, _ := proof.Put(p)
	for i := range x[:cap(x)] {
		x[:cap(x)][i] ^= 255
	}
	if !bytes.Equal(room, was) || !alike(b, p) || !bytes.Equal(y, text) || !bytes.Equal(bytesOf(p), text) {
		t.Error("memory is shared")
	}
}
