package dev_test

import (
	"bytes"
	"math"
	"math/rand"
	"slices"
	"testing"

	"moneyer/api"
	"moneyer/dev"
)

const size = api.Sector

// full answers a sector's bytes, that go up from the first one.
func full(first byte) []byte {
	b := make([]byte, size)
	for i := range b {
		b[i] = first + byte(i)
	}
	return b
}

func some(t *testing.T, sectors int) *dev.Dev {
	t.Helper()
	d, e := dev.New(sectors)
	if d == nil || e != api.OK {
		t.Fatalf("New(%d): %d", sectors, e)
	}
	return d
}

func ok(t *testing.T, what string, got, want api.Errno) {
	t.Helper()
	if got != want {
		t.Errorf("%s: %d, not %d", what, got, want)
	}
}

func read(t *testing.T, d *dev.Dev, n int) ([]byte, api.Errno) {
	t.Helper()
	b, e := d.Read(n)
	if e != api.OK && len(b) != 0 {
		t.Errorf("Read = %x, %d", b, e)
	}
	return b, e
}

// The chapter's example.
func TestExamples(t *testing.T) {
	if d, e := dev.New(0); d != nil || e != api.ErrArg {
		t.Errorf("New(0): %d", e)
	}
	d := some(t, 8)
	ok(t, "Write", d.Write(0, bytes.Repeat([]byte{1}, 128)), api.OK)
	ok(t, "On", d.On(0, 3), api.OK)
	if b, e := read(t, d, 0); !bytes.Equal(b, append([]byte{1, 1, 1}, make([]byte, 125)...)) || e != api.OK {
		t.Errorf("Read(0) = %x, %d", b, e)
	}
}

// P21.1

func TestNew(t *testing.T) {
	for _, n := range []int{1, 2, 64, 16383, 16384} {
		d := some(t, n)
		if d.Sectors() != n || d.Writes() != 0 || !bytes.Equal(d.Image(), make([]byte, n*size)) {
			t.Errorf("New(%d): %d sectors, %d writes", n, d.Sectors(), d.Writes())
		}
	}
	for _, n := range []int{0, -1, math.MinInt, 16385, math.MaxInt} {
		if d, e := dev.New(n); d != nil || e != api.ErrArg {
			t.Errorf("New(%d): %d", n, e)
		}
	}
}

func TestArguments(t *testing.T) {
	d := some(t, 4)
	ok(t, "Cut", d.Cut(1), api.OK)
	for range 2 {
		for _, n := range []int{-1, 4, 5, math.MinInt, math.MaxInt} {
			if _, e := read(t, d, n); e != api.ErrArg {
				t.Errorf("Read(%d): %d", n, e)
			}
			ok(t, "Write", d.Write(n, full(1)), api.ErrArg)
		}
		for _, many := range []int{0, 1, 127, 129, 256} {
			ok(t, "Write", d.Write(0, make([]byte, many)), api.ErrArg)
		}
		ok(t, "Cut", d.Cut(-1), api.ErrArg)
		ok(t, "Cut", d.Cut(math.MinInt), api.ErrArg)
		ok(t, "On", d.On(-1, 0), api.ErrArg)
		ok(t, "On", d.On(0, -1), api.ErrArg)
		ok(t, "On", d.On(math.MinInt, math.MinInt), api.ErrArg)
		// What is refused counts for no write: one may still be done, and then again with the power cut.
		if d.Writes() == 0 {
			ok(t, "Write", d.Write(0, full(1)), api.OK)
			ok(t, "Write", d.Write(0, full(2)), api.ErrPower)
		}
	}
}

// P21.2

func TestCut(t *testing.T) {
	for after := range 5 {
		d := some(t, 4)
		ok(t, "Write", d.Write(3, full(9)), api.OK)
		ok(t, "Sync", d.Sync(), api.OK)
		ok(t, "Cut", d.Cut(77), api.OK)
		// A cut ahead of it is let go.
		ok(t, "Cut", d.Cut(after), api.OK)
		for i := range after {
			ok(t, "Write", d.Write(i%3, full(byte(i))), api.OK)
		}
		ok(t, "Write", d.Write(0, full(99)), api.ErrPower)
		if d.Writes() != after+1 || d.Sectors() != 4 {
			t.Errorf("%d writes", d.Writes())
		}
		// From then on nothing is done.
		for range 2 {
			_, e := read(t, d, 3)
			ok(t, "Read", e, api.ErrPower)
			ok(t, "Write", d.Write(3, full(5)), api.ErrPower)
			ok(t, "Sync", d.Sync(), api.ErrPower)
			ok(t, "Cut", d.Cut(3), api.ErrPower)
		}
		sure := append(make([]byte, 3*size), full(9)...)
		if !bytes.Equal(d.Image(), sure) {
			t.Errorf("Image = %x", d.Image())
		}
		ok(t, "On", d.On(0, 0), api.OK)
		if !bytes.Equal(d.Image(), sure) || d.Writes() != after+1 {
			t.Errorf("Image behind On = %x", d.Image())
		}
		// It is there again without a cut.
		for range 90 {
			ok(t, "Write", d.Write(0, full(1)), api.OK)
		}
		ok(t, "Sync", d.Sync(), api.OK)
	}
}

// A Sync between the last write and the cut makes them sure.
func TestSyncAheadOfTheCut(t *testing.T) {
	d := some(t, 2)
	d.Cut(2)
	d.Write(0, full(1))
	d.Write(1, full(2))
	ok(t, "Sync", d.Sync(), api.OK)
	if b, e := read(t, d, 1); !bytes.Equal(b, full(2)) || e != api.OK {
		t.Errorf("Read = %x, %d", b, e)
	}
	ok(t, "Write", d.Write(0, full(3)), api.ErrPower)
	ok(t, "On", d.On(0, 0), api.OK)
	if !bytes.Equal(d.Image(), append(full(1), full(2)...)) {
		t.Errorf("Image = %x", d.Image())
	}
}

// On lets go a cut that was not met.
func TestOnWithoutACut(t *testing.T) {
	d := some(t, 2)
	d.Cut(1)
	d.Write(0, full(1))
	ok(t, "On", d.On(5, 0), api.OK)
	ok(t, "Write", d.Write(0, full(2)), api.OK)
	ok(t, "On", d.On(0, 0), api.OK)
	if !bytes.Equal(d.Image(), append(full(1), make([]byte, size)...)) {
		t.Errorf("Image = %x", d.Image())
	}
}

// A model keeps what is sure, and the writes behind it.
type model struct {
	sure   []byte
	unsure [][]byte
	at     []int
}

func put(image []byte, n int, b []byte) { copy(image[n*size:(n+1)*size], b) }

func (m *model) image() []byte {
	now := bytes.Clone(m.sure)
	for i, b := range m.unsure {
		put(now, m.at[i], b)
	}
	return now
}

func (m *model) settle(keep, torn int) {
	for i, b := range m.unsure {
		switch {
		case i < keep:
			put(m.sure, m.at[i], b)
		case i == keep:
			put(m.sure, m.at[i], b[:min(torn, size)])
		}
	}
	m.unsure, m.at = nil, nil
}

// P21.1 to P21.4, held against the model.
func TestAgainstTheModel(t *testing.T) {
	r := rand.New(rand.NewSource(1))
	for range 300 {
		n := 1 + r.Intn(6)
		d, m := some(t, n), &model{sure: make([]byte, n*size)}
		left, off, writes := -1, false, 0
		for range 60 {
			switch k := r.Intn(10); {
			case k < 5:
				at, b := r.Intn(n), full(byte(r.Intn(256)))
				want := api.OK
				if left == 0 {
					off = true
				}
				if off {
					want = api.ErrPower
				} else {
					m.unsure, m.at = append(m.unsure, b), append(m.at, at)
					writes++
					left = max(left-1, -1)
				}
				ok(t, "Write", d.Write(at, b), want)
				b[0]++
				b[0]--
			case k == 5:
				want := api.ErrPower
				if !off {
					want = api.OK
					m.settle(math.MaxInt, 0)
				}
				ok(t, "Sync", d.Sync(), want)
			case k == 6:
				want := api.ErrPower
				after := r.Intn(8)
				if !off {
					want, left = api.OK, after
				}
				ok(t, "Cut", d.Cut(after), want)
			case k == 7:
				keep, torn := []int{0, 1, 2, 3, math.MaxInt}[r.Intn(5)], []int{0, 1, 77, 127, 128, 129, math.MaxInt}[r.Intn(7)]
				ok(t, "On", d.On(keep, torn), api.OK)
				m.settle(keep, torn)
				left, off = -1, false
			}
			want := m.image()
			if off {
				want = m.sure
			}
			if !bytes.Equal(d.Image(), want) || d.Writes() != writes {
				t.Fatalf("Image = %x, not %x; %d writes, not %d", d.Image(), want, d.Writes(), writes)
			}
			for i := range n {
				b, e := read(t, d, i)
				if off {
					ok(t, "Read", e, api.ErrPower)
				} else if !bytes.Equal(b, want[i*size:(i+1)*size]) || e != api.OK {
					t.Fatalf("Read(%d) = %x, %d", i, b, e)
				}
			}
		}
	}
}

// P21.4: behind On of as many as were not sure nothing is lost; what is sure stays.
func TestNothingIsLost(t *testing.T) {
	for many := range 6 {
		d := some(t, 3)
		d.Write(2, full(50))
		d.Sync()
		for i := range many {
			d.Write(i%2, full(byte(i)))
		}
		want := d.Image()
		ok(t, "On", d.On(many, 0), api.OK)
		if !bytes.Equal(d.Image(), want) {
			t.Errorf("%d writes: Image = %x", many, d.Image())
		}
		ok(t, "On", d.On(0, 0), api.OK)
		if !bytes.Equal(d.Image(), want) {
			t.Errorf("%d writes, On again: Image = %x", many, d.Image())
		}
	}
}

// Rule 5: a nil pointer, and a zero object.
func TestNil(t *testing.T) {
	for _, d := range []*dev.Dev{nil, {}} {
		b, e := d.Read(0)
		if len(b) != 0 || d.Sectors() != 0 || d.Writes() != 0 || len(d.Image()) != 0 {
			t.Error("of nil something is told")
		}
		for _, e := range []api.Errno{e, d.Write(0, full(1)), d.Write(-1, nil), d.Sync(), d.Cut(0), d.Cut(-1), d.On(0, 0), d.On(-1, 0)} {
			ok(t, "of nil", e, api.ErrNil)
		}
	}
}

// The rules that hold everywhere: what is handed in stays as it is, what is answered is new memory.
func TestMemory(t *testing.T) {
	d := some(t, 2)
	b := append(full(1), full(2)...)
	d.Write(0, b[:size])
	b[0] = 99
	one, _ := d.Read(0)
	image := d.Image()
	for _, l := range [][]byte{one, image} {
		for i := range l[:cap(l)] {
			l[:cap(l)][i] = 77
		}
	}
	two, _ := d.Read(0)
	if !bytes.Equal(two, full(1)) || !bytes.Equal(b[1:], append(full(1), full(2)...)[1:]) || !slices.Equal(d.Image()[:size], full(1)) {
		t.Error("memory is shared")
	}
	d.On(1, 0)
	if b, _ := d.Read(0); !bytes.Equal(b, full(1)) {
		t.Error("memory is shared with what was written")
	}
}
