package jour_test

import (
	"bytes"
	"encoding/binary"
	"math"
	"slices"
	"testing"

	"moneyer/api"
	"moneyer/dev"
	"moneyer/jour"
	"moneyer/sha"
)

const size = api.Sector

func full(first byte) []byte {
	b := make([]byte, size)
	for i := range b {
		b[i] = first + byte(i)
	}
	return b
}

func some(t *testing.T, sectors int) *dev.Dev {
	t.Helper()
	d, e := dev.New(sectors)
	if e != api.OK {
		t.Fatal(e)
	}
	return d
}

// filled answers a device each of whose sectors is another one.
func filled(t *testing.T, sectors int) *dev.Dev {
	t.Helper()
	d := some(t, sectors)
	for i := range sectors {
		write(t, d, i, full(byte(100+i)))
	}
	d.Sync()
	return d
}

func write(t *testing.T, d *dev.Dev, n int, b []byte) {
	t.Helper()
	if e := d.Write(n, b); e != api.OK {
		t.Fatal(e)
	}
}

func ok(t *testing.T, what string, got, want api.Errno) {
	t.Helper()
	if got != want {
		t.Errorf("%s: %d, not %d", what, got, want)
	}
}

func recov(t *testing.T, d *dev.Dev, at, n int) (bool, api.Errno) {
	t.Helper()
	was, e := jour.Recover(d, at, n)
	if e != api.OK && was {
		t.Errorf("Recover = %t, %d", was, e)
	}
	return was, e
}

// needOf says how many sectors puts need.
func needOf(puts int) int { return 1 + (4*puts+127)/128 + puts }

// journalOf says what the sectors of a journal are: the head, and the body.
func journalOf(l []api.Put) (head, body []byte) {
	for _, p := range l {
		body = binary.LittleEndian.AppendUint32(body, uint32(p.Sector))
	}
	for len(body)%size != 0 {
		body = append(body, 0)
	}
	for _, p := range l {
		body = append(body, p.B...)
	}
	sum := sha.Sum(body)
	head = binary.LittleEndian.AppendUint32([]byte{0x6d, 0x6a, 0x6e, 0x6c}, uint32(len(l)))
	head = append(head, sum[:]...)
	return append(head, make([]byte, size-len(head))...), body
}

func place(t *testing.T, d *dev.Dev, at int, text []byte) {
	t.Helper()
	for i := range len(text) / size {
		write(t, d, at+i, text[i*size:(i+1)*size])
	}
}

// The chapter's examples.
func TestExamples(t *testing.T) {
	for puts, want := range map[int]int{0: 0, 1: 3, 33: 36} {
		if n := jour.Need(puts); n != want {
			t.Errorf("Need(%d) = %d", puts, n)
		}
	}
	d := some(t, 8)
	if was, e := recov(t, d, 0, 4); was || e != api.OK {
		t.Errorf("Recover = %t, %d", was, e)
	}
	l := []api.Put{{Sector: 5, B: full(1)}}
	ok(t, "Do", jour.Do(d, 0, 4, l), api.OK)
	ok(t, "Do", jour.Do(d, 0, 2, l), api.ErrFull)
}

// P22.1

func TestNeed(t *testing.T) {
	for puts := 1; puts <= 4000; puts++ {
		if n := jour.Need(puts); n != needOf(puts) {
			t.Errorf("Need(%d) = %d", puts, n)
		}
	}
	for _, puts := range []int{0, -1, math.MinInt, 4001, 4002, math.MaxInt} {
		if n := jour.Need(puts); n != 0 {
			t.Errorf("Need(%d) = %d", puts, n)
		}
	}
}

// puts answers so many puts, to sectors from the last one down.
func puts(last, n int) []api.Put {
	var l []api.Put
	for i := range n {
		l = append(l, api.Put{Sector: last - i, B: full(byte(7 * i))})
	}
	return l
}

// P22.2

func TestDo(t *testing.T) {
	for _, n := range []int{1, 2, 31, 32, 33, 64, 65} {
		for _, at := range []int{0, 3} {
			d := filled(t, 200)
			want := d.Image()
			l := puts(199, n)
			before := d.Writes()
			ok(t, "Do", jour.Do(d, at, needOf(n), l), api.OK)
			if many := d.Writes() - before; many != needOf(n)+n+1 {
				t.Errorf("%d puts: %d writes", n, many)
			}
			_, body := journalOf(l)
			copy(want[at*size:], append(make([]byte, size), body...))
			for _, p := range l {
				copy(want[p.Sector*size:], p.B)
			}
			if !bytes.Equal(d.Image(), want) {
				t.Errorf("%d puts at %d: another image", n, at)
			}
			ok(t, "On", d.On(0, 0), api.OK)
			if !bytes.Equal(d.Image(), want) {
				t.Errorf("%d puts at %d: not all is sure", n, at)
			}
			if was, e := recov(t, d, at, needOf(n)); was || e != api.OK {
				t.Errorf("Recover behind it = %t, %d", was, e)
			}
			ok(t, "Do in too few sectors", jour.Do(d, at, needOf(n)-1, l), api.ErrFull)
			ok(t, "Do in more sectors", jour.Do(d, at, needOf(n)+1, l), api.OK)
		}
	}
	// Puts beside the journal, on both sides.
	d := some(t, 10)
	ok(t, "Do", jour.Do(d, 3, 4, []api.Put{{Sector: 2, B: full(1)}, {Sector: 7, B: full(2)}}), api.OK)
	if b, _ := d.Read(7); !bytes.Equal(b, full(2)) {
		t.Errorf("Read(7) = %x", b)
	}
}

func TestMost(t *testing.T) {
	d := some(t, 8200)
	n := needOf(4000)
	ok(t, "Do of the most", jour.Do(d, 0, n, puts(8199, 4000)), api.OK)
	if b, _ := d.Read(8199 - 3999); !bytes.Equal(b, puts(8199, 4000)[3999].B) {
		t.Errorf("the last one is %x", b)
	}
	ok(t, "Do of one more", jour.Do(d, 0, n+1, puts(8199, 4001)), api.ErrFull)
	ok(t, "Do of one more, twice", jour.Do(d, 0, n+1, append(puts(8199, 4001), puts(8199, 1)...)), api.ErrArg)
}

func TestArguments(t *testing.T) {
	good := []api.Put{{Sector: 7, B: full(1)}}
	ok(t, "Do of none", jour.Do(some(t, 8), 7, 1, nil), api.OK)
	ok(t, "Do in one sector", jour.Do(some(t, 8), 0, 1, good), api.ErrFull)
	for _, c := range []struct{ at, n int }{{-1, 4}, {0, 0}, {0, -1}, {math.MinInt, 4}, {0, math.MinInt}, {0, 9}, {5, 4}, {8, 1}, {9, 1}, {0, math.MaxInt}, {math.MaxInt, 1}, {math.MaxInt, math.MaxInt}, {1, math.MaxInt}} {
		d := filled(t, 8)
		image := d.Image()
		for _, l := range [][]api.Put{nil, good} {
			ok(t, "Do", jour.Do(d, c.at, c.n, l), api.ErrArg)
		}
		_, e := recov(t, d, c.at, c.n)
		ok(t, "Recover", e, api.ErrArg)
		if !bytes.Equal(d.Image(), image) {
			t.Error("the device has changed")
		}
	}
	d := filled(t, 12)
	image, before := d.Image(), d.Writes()
	for i, l := range [][]api.Put{
		{{Sector: -1, B: full(1)}}, {{Sector: 12, B: full(1)}}, {{Sector: math.MaxInt, B: full(1)}}, {{Sector: math.MinInt, B: full(1)}},
		{{Sector: 2, B: full(1)}}, {{Sector: 5, B: full(1)}}, {{Sector: 3, B: full(1)}},
		{{Sector: 7, B: nil}}, {{Sector: 7, B: full(1)[1:]}}, {{Sector: 7, B: append(full(1), 0)}},
		{{Sector: 7, B: full(1)}, {Sector: 7, B: full(1)}}, {{Sector: 7, B: full(1)}, {Sector: 8, B: full(1)}, {Sector: 7, B: full(2)}},
		{{Sector: 7, B: full(1)}, {Sector: 8}}, {{Sector: 9, B: full(1)}, {Sector: 2, B: full(1)}},
		// Ahead of ErrFull.
		append(puts(11, 4), api.Put{Sector: 99, B: full(1)}),
	} {
		ok(t, "Do", jour.Do(d, 2, 4, l), api.ErrArg)
		if !bytes.Equal(d.Image(), image) || d.Writes() != before {
			t.Errorf("%d: the device has changed", i)
		}
	}
	ok(t, "Do", jour.Do(d, 2, 4, puts(11, 3)), api.ErrFull)
	if !bytes.Equal(d.Image(), image) || d.Writes() != before {
		t.Error("the device has changed")
	}
	// The journal may end where the device does.
	ok(t, "Do", jour.Do(d, 8, 4, []api.Put{{Sector: 7, B: full(1)}, {Sector: 0, B: full(2)}}), api.OK)
	for _, d := range []*dev.Dev{nil, {}} {
		for _, l := range [][]api.Put{nil, good} {
			ok(t, "Do of nil", jour.Do(d, 0, 4, l), api.ErrNil)
			ok(t, "Do of nil", jour.Do(d, -1, 4, l), api.ErrNil)
		}
		_, e := recov(t, d, 0, 4)
		ok(t, "Recover of nil", e, api.ErrNil)
	}
}

func TestWithoutPower(t *testing.T) {
	d := some(t, 8)
	d.Cut(0)
	d.Write(0, full(1))
	ok(t, "Do", jour.Do(d, 0, 4, puts(7, 1)), api.ErrPower)
	ok(t, "Do of none", jour.Do(d, 0, 4, nil), api.OK)
	ok(t, "Do", jour.Do(d, 0, 4, puts(2, 1)), api.ErrArg)
	ok(t, "Do", jour.Do(d, 0, 4, puts(7, 3)), api.ErrFull)
	_, e := recov(t, d, 0, 4)
	ok(t, "Recover", e, api.ErrPower)
}

// What a head is, and what is none.
func TestRecover(t *testing.T) {
	l := []api.Put{{Sector: 9, B: full(1)}, {Sector: 0, B: full(2)}, {Sector: 11, B: full(3)}}
	run := func(l []api.Put, change func(head, body []byte) []byte) (bool, *dev.Dev, []byte) {
		t.Helper()
		d := filled(t, 12)
		head, body := journalOf(l)
		place(t, d, 1, change(head, body))
		image := d.Image()
		was, e := recov(t, d, 1, 6)
		ok(t, "Recover", e, api.OK)
		return was, d, image
	}
	seal := func(head, body []byte) []byte {
		sum := sha.Sum(body)
		copy(head[8:], sum[:])
		return append(head, body...)
	}
	was, d, image := run(l, seal)
	for _, p := range l {
		copy(image[p.Sector*size:], p.B)
	}
	copy(image[size:], make([]byte, size))
	if !was || !bytes.Equal(d.Image(), image) {
		t.Error("the puts were not done")
	}
	d.On(0, 0)
	if !bytes.Equal(d.Image(), image) {
		t.Error("what was done is not sure")
	}
	if was, e := recov(t, d, 1, 6); was || e != api.OK {
		t.Errorf("Recover again = %t, %d", was, e)
	}
	for i, change := range []func(head, body []byte) []byte{
		func(h, b []byte) []byte { h[0] = 0; return append(h, b...) },
		func(h, b []byte) []byte { h[3]++; return append(h, b...) },
		func(h, b []byte) []byte { h[4] = 0; return append(h, b...) },
		func(h, b []byte) []byte { h[4] = 2; return append(h, b...) },
		func(h, b []byte) []byte { h[4] = 4; return append(h, b...) },
		func(h, b []byte) []byte { h[7] = 255; return append(h, b...) },
		func(h, b []byte) []byte { copy(h[4:], []byte{255, 255, 255, 255}); return append(h, b...) },
		func(h, b []byte) []byte { h[8]++; return append(h, b...) },
		func(h, b []byte) []byte { h[39]++; return append(h, b...) },
		func(h, b []byte) []byte { b[127]++; return append(h, b...) },
		func(h, b []byte) []byte { b[len(b)-1]++; return append(h, b...) },
		// Sectors that are none of the device, or some of the journal, though the sum is right.
		func(h, b []byte) []byte { b[0] = 12; return seal(h, b) },
		func(h, b []byte) []byte { b[4] = 1; return seal(h, b) },
		func(h, b []byte) []byte { b[8] = 6; return seal(h, b) },
		func(h, b []byte) []byte { b[11] = 255; return seal(h, b) },
	} {
		if was, d, image := run(l, change); was || !bytes.Equal(d.Image(), image) {
			t.Errorf("%d: %t", i, was)
		}
	}
	// What stands behind the sum, and between the numbers and the bytes, is asked for nothing; nor is a sector that is put twice.
	if was, _, _ := run(l, func(h, b []byte) []byte { h[40], h[127], b[100] = 1, 1, 1; return seal(h, b) }); !was {
		t.Error("bytes that are none of a head's")
	}
	if was, d, _ := run([]api.Put{l[0], l[1], {Sector: 9, B: full(77)}}, seal); !was {
		t.Error("a sector that is put twice")
	} else if b, _ := d.Read(9); !bytes.Equal(b, full(77)) {
		t.Errorf("a sector that is put twice: %x", b)
	}
	// A body that goes beyond the journal.
	four := append(slices.Clone(l), api.Put{Sector: 10, B: full(4)}, api.Put{Sector: 8, B: full(5)})
	if was, d, image := run(four, seal); was || !bytes.Equal(d.Image(), image) {
		t.Error("a body that goes beyond the journal")
	}
	if was, _, _ := run(four[:4], seal); !was {
		t.Error("a body that goes up to the journal's end")
	}
	// One put, and none.
	if was, d, _ := run(l[:1], seal); !was {
		t.Error("one put")
	} else if b, _ := d.Read(9); !bytes.Equal(b, full(1)) {
		t.Errorf("one put: %x", b)
	}
	if was, d, image := run(nil, seal); was || !bytes.Equal(d.Image(), image) {
		t.Error("no puts")
	}
	// Nothing is written, if the head is none.
	d = filled(t, 12)
	before := d.Writes()
	for _, n := range []int{1, 2, 6} {
		if was, e := recov(t, d, 12-n, n); was || e != api.OK {
			t.Errorf("Recover = %t, %d", was, e)
		}
	}
	if d.Writes() != before {
		t.Error("Recover wrote")
	}
	// Power that is cut meanwhile.
	for after := range 4 {
		d := filled(t, 12)
		head, body := journalOf(l)
		place(t, d, 1, append(head, body...))
		d.Cut(after)
		_, e := recov(t, d, 1, 6)
		ok(t, "Recover", e, api.ErrPower)
	}
}

// A head that recovers more than MaxPuts would: Do makes none, but it is one.
func TestRecoverOfMany(t *testing.T) {
	d := some(t, 9000)
	l := puts(8999, 4001)
	head, body := journalOf(l)
	place(t, d, 0, append(head, body...))
	if was, e := recov(t, d, 0, needOf(4001)); !was || e != api.OK {
		t.Errorf("Recover = %t, %d", was, e)
	}
}

// P22.3: wherever the power is cut, whatever is kept and torn, also while it is recovered.
func TestPower(t *testing.T) {
	const sectors, at, n = 12, 2, 6
	l := []api.Put{{Sector: 9, B: full(1)}, {Sector: 0, B: full(2)}, {Sector: 11, B: full(3)}}
	// What an earlier one has left in the journal.
	earlier := []api.Put{{Sector: 10, B: full(50)}, {Sector: 9, B: full(51)}}
	outside := func(image []byte) []byte { return slices.Concat(image[:at*size], image[(at+n)*size:]) }
	start := func() *dev.Dev {
		d := filled(t, sectors)
		ok(t, "Do", jour.Do(d, at, n, earlier), api.OK)
		return d
	}
	none := outside(start().Image())
	whole := start()
	before := whole.Writes()
	ok(t, "Do", jour.Do(whole, at, n, l), api.OK)
	writes := whole.Writes() - before
	all := outside(whole.Image())
	seen := map[string]int{}
	judge := func(d *dev.Dev) {
		t.Helper()
		switch got := outside(d.Image()); {
		case bytes.Equal(got, none):
			seen["none"]++
		case bytes.Equal(got, all):
			seen["all"]++
		default:
			t.Fatal("some of the puts are done, or something else has changed")
		}
		if was, e := recov(t, d, at, n); was || e != api.OK {
			t.Fatalf("Recover again = %t, %d", was, e)
		}
	}
	for after := range writes + 1 {
		for keep := range 6 {
			for _, torn := range []int{0, 1, 4, 8, 20, 39, 40, 127, 128} {
				run := func() *dev.Dev {
					d := start()
					d.Cut(after)
					want := api.ErrPower
					if after >= writes {
						want = api.OK
					}
					ok(t, "Do", jour.Do(d, at, n, l), want)
					ok(t, "On", d.On(keep, torn), api.OK)
					return d
				}
				d := run()
				_, e := recov(t, d, at, n)
				ok(t, "Recover", e, api.OK)
				judge(d)
				for again := range 5 {
					d := run()
					d.Cut(again)
					if _, e := recov(t, d, at, n); e == api.OK {
						continue
					}
					ok(t, "On", d.On(torn%4, keep*20), api.OK)
					d.Cut(again / 2)
					if _, e := recov(t, d, at, n); e != api.OK {
						ok(t, "On", d.On(keep, torn), api.OK)
						_, e = recov(t, d, at, n)
						ok(t, "Recover", e, api.OK)
					}
					d.On(99, 0)
					judge(d)
				}
			}
		}
	}
	if seen["none"] < 100 || seen["all"] < 100 {
		t.Errorf("%v", seen)
	}
}

// The rules that hold everywhere: what is handed in stays as it is, what is answered is new memory.
func TestMemory(t *testing.T) {
	d := some(t, 12)
	room := append(full(1), full(2)...)
	l := append(make([]api.Put, 0, 4), api.Put{Sector: 9, B: room[:size]}, api.Put{Sector: 8, B: room[size:]})
	ok(t, "Do", jour.Do(d, 0, 5, l), api.OK)
	if !bytes.Equal(room, append(full(1), full(2)...)) || l[0].Sector != 9 || l[1].Sector != 8 || l[:3][2].B != nil {
		t.Error("what was handed in has changed")
	}
	room[0], room[size] = 99, 99
	if b, _ := d.Read(9); !bytes.Equal(b, full(1)) {
		t.Error("memory is shared")
	}
}
