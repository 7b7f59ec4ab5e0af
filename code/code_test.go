package code_test

import (
	"bytes"
	"slices"
	"testing"

	"moneyer/api"
	"moneyer/code"
)

// steps are n bytes that go up from the first one, so that no piece of them is like its neighbour.
func steps(first byte, n int) []byte {
	b := make([]byte, n)
	for i := range b {
		b[i] = first + byte(i)
	}
	return b
}

func join(parts ...[]byte) []byte { return bytes.Join(parts, nil) }

func push(b ...byte) api.Step { return api.Step{Op: api.OpPush, Push: b} }

func op(o uint8) api.Step { return api.Step{Op: o} }

// one answers a script of one step that may be, with its bytes, for each kind and length.
func ones() map[string]api.Step {
	m := map[string]api.Step{}
	for _, n := range []int{0, 1, 2, 126, 127} {
		m[string(join([]byte{byte(n)}, steps(9, n)))] = push(steps(9, n)...)
	}
	for _, n := range []int{128, 129, 255, 256, 257, 2999, 3000} {
		m[string(join([]byte{128, byte(n), byte(n >> 8)}, steps(9, n)))] = push(steps(9, n)...)
	}
	for o := api.OpIf; o <= api.OpHeight; o++ {
		m[string([]byte{byte(127 + o)})] = op(uint8(o))
	}
	return m
}

// some answers a script of all kinds, and its bytes.
func some() ([]api.Step, []byte) {
	return []api.Step{push(7), op(api.OpDup), push(steps(0, 128)...), op(api.OpHeight), push(), op(api.OpIf)},
		join([]byte{1, 7, 134, 128, 128, 0}, steps(0, 128), []byte{147, 0, 129})
}

func alike(a, b []api.Step) bool {
	return slices.EqualFunc(a, b, func(s, t api.Step) bool { return s.Op == t.Op && bytes.Equal(s.Push, t.Push) })
}

// put and read call the program and hold an error's other result to be none.
func put(t *testing.T, l []api.Step) ([]byte, api.Errno) {
	t.Helper()
	b, e := code.Put(l)
	if e != api.OK && len(b) != 0 {
		t.Errorf("Put = %x, %d", b, e)
	}
	return b, e
}

func read(t *testing.T, b []byte) ([]api.Step, api.Errno) {
	t.Helper()
	l, e := code.Read(b)
	if e != api.OK && len(l) != 0 {
		t.Errorf("Read = %v, %d", l, e)
	}
	return l, e
}

// The chapter's examples.
func TestExamples(t *testing.T) {
	if b, e := put(t, []api.Step{push(7)}); !bytes.Equal(b, []byte{1, 7}) || e != api.OK {
		t.Errorf("Put(push 07) = %x, %d", b, e)
	}
	if b, e := put(t, []api.Step{op(api.OpDup)}); !bytes.Equal(b, []byte{0x86}) || e != api.OK {
		t.Errorf("Put(dup) = %x, %d", b, e)
	}
	if b, e := put(t, []api.Step{push(make([]byte, 128)...)}); len(b) != 131 || !bytes.Equal(b[:3], []byte{0x80, 0x80, 0}) || e != api.OK {
		t.Errorf("Put(push of 128 bytes) = %x, %d", b, e)
	}
	for _, c := range []struct {
		b []byte
		e api.Errno
	}{{[]byte{2, 1}, api.ErrShort}, {[]byte{0xff}, api.ErrForm}, {[]byte{0x80, 5, 0}, api.ErrForm}, {[]byte{0x80}, api.ErrShort}, {[]byte{0x80, 0x80}, api.ErrShort}} {
		if _, e := read(t, c.b); e != c.e {
			t.Errorf("Read(%x): %d", c.b, e)
		}
	}
}

// P11.1 and P11.2: what is put, and that it is read.
func TestSteps(t *testing.T) {
	for text, s := range ones() {
		for _, l := range [][]api.Step{{s}, {s, s}, {push(1), s, op(api.OpEnd)}} {
			want := []byte(text)
			switch len(l) {
			case 2:
				want = join(want, want)
			case 3:
				want = join([]byte{1, 1}, want, []byte{131})
			}
			if b, e := put(t, l); !bytes.Equal(b, want) || e != api.OK {
				t.Errorf("Put(%v) = %x, %d", l, b, e)
			}
			if got, e := read(t, want); !alike(got, l) || e != api.OK {
				t.Errorf("Read(%x) = %v, %d", want, got, e)
			}
		}
	}
	l, want := some()
	if b, e := put(t, l); !bytes.Equal(b, want) || e != api.OK {
		t.Errorf("Put = %x, %d", b, e)
	}
	if got, e := read(t, want); !alike(got, l) || e != api.OK {
		t.Errorf("Read = %v, %d", got, e)
	}
	if b, e := put(t, nil); len(b) != 0 || e != api.OK {
		t.Errorf("Put(none) = %x, %d", b, e)
	}
	if got, e := read(t, nil); len(got) != 0 || e != api.OK {
		t.Errorf("Read(none) = %v, %d", got, e)
	}
}

func many(n int, s api.Step) []api.Step { return slices.Repeat([]api.Step{s}, n) }

func TestPutOfWhatMayNotBe(t *testing.T) {
	var bad []api.Step
	for o := range 256 {
		if o < api.OpPush || o > api.OpHeight {
			bad = append(bad, op(uint8(o)))
		}
		if o != api.OpPush {
			bad = append(bad, api.Step{Op: uint8(o), Push: []byte{1}})
		}
	}
	bad = append(bad, push(make([]byte, 3001)...), push(make([]byte, 70000)...))
	for _, s := range bad {
		for i, l := range [][]api.Step{
			{s}, {push(1), s}, {s, push(1)}, {s, s}, append(many(199, push()), s), append(many(200, push()), s), append([]api.Step{s}, many(300, push())...), append(many(300, op(api.OpDup)), s),
		} {
			if _, e := put(t, l); e != api.ErrArg {
				t.Errorf("%d: Put of %d, %d bytes: %d", i, s.Op, len(s.Push), e)
			}
		}
	}
	for _, s := range []api.Step{push(), push(1), op(api.OpDup)} {
		if b, e := put(t, many(200, s)); len(b) < 200 || e != api.OK {
			t.Errorf("Put of 200: %d, %d", len(b), e)
		}
		for _, n := range []int{201, 202, 400, 1000} {
			if _, e := put(t, many(n, s)); e != api.ErrLimit {
				t.Errorf("Put of %d: %d", n, e)
			}
		}
	}
	// No bytes and none are the same.
	if b, e := put(t, []api.Step{{Op: api.OpDup, Push: []byte{}}, {Op: api.OpPush}}); !bytes.Equal(b, []byte{134, 0}) || e != api.OK {
		t.Errorf("Put = %x, %d", b, e)
	}
}

func TestPushes(t *testing.T) {
	for n := range 4 {
		if !code.Pushes(many(n, push(1))) {
			t.Errorf("%d pushes are none", n)
		}
	}
	for o := range 256 {
		if o == api.OpPush {
			continue
		}
		for _, l := range [][]api.Step{{op(uint8(o))}, {push(1), op(uint8(o))}, {op(uint8(o)), push(1)}} {
			if code.Pushes(l) {
				t.Errorf("%v are pushes", l)
			}
		}
	}
}

func TestReadOfWhatMayNotBe(t *testing.T) {
	full := bytes.Repeat([]byte{134}, 200)
	pushes := bytes.Repeat([]byte{1, 9}, 200)
	type row struct {
		b []byte
		e api.Errno
	}
	rows := []row{
		{[]byte{128, 127, 0}, api.ErrForm},
		{[]byte{128, 0, 0}, api.ErrForm},
		{[]byte{128, 1, 0, 7}, api.ErrForm},
		{join([]byte{128, 127, 0}, make([]byte, 127)), api.ErrForm},
		{[]byte{128, 185, 11}, api.ErrForm},
		{join([]byte{128, 185, 11}, make([]byte, 3001)), api.ErrForm},
		{[]byte{128, 255, 255}, api.ErrForm},
		{[]byte{128, 184, 11}, api.ErrShort},
		{join([]byte{128, 184, 11}, make([]byte, 2999)), api.ErrShort},
		{[]byte{128, 128, 0}, api.ErrShort},
		{[]byte{128, 128}, api.ErrShort},
		{[]byte{128, 5}, api.ErrShort},
		{[]byte{1}, api.ErrShort},
		{[]byte{127}, api.ErrShort},
		{join([]byte{127}, make([]byte, 126)), api.ErrShort},
		{[]byte{134, 134, 2, 1}, api.ErrShort},
		{[]byte{134, 148, 2}, api.ErrForm},
		{[]byte{2, 1, 148, 148}, api.ErrForm},
		{join(full, []byte{134}), api.ErrLimit},
		{join(full, []byte{0}), api.ErrLimit},
		{join(full, []byte{255}), api.ErrLimit},
		{join(full, []byte{5}), api.ErrLimit},
		{join(full, []byte{128}), api.ErrLimit},
		{join(pushes, []byte{128, 1, 0}), api.ErrLimit},
		{join(full[:199], []byte{255}), api.ErrForm},
		{join(full[:199], []byte{5}), api.ErrShort},
		{join(full[:199], []byte{255}, full), api.ErrForm},
	}
	for o := 148; o < 256; o++ {
		rows = append(rows, row{[]byte{byte(o)}, api.ErrForm})
	}
	for i, r := range rows {
		if _, e := read(t, r.b); e != r.e {
			t.Errorf("%d: Read(%.20x..): %d, not %d", i, r.b, e, r.e)
		}
	}
	for _, b := range [][]byte{full, pushes} {
		if l, e := read(t, b); len(l) != 200 || e != api.OK {
			t.Errorf("Read of 200 steps: %d, %d", len(l), e)
		}
	}
	// Room behind the end is none of the bytes.
	if _, e := read(t, []byte{2, 1, 1}[:2]); e != api.ErrShort {
		t.Errorf("Read with room behind: %d", e)
	}
}

// P11.3: a script has one text of bytes.
func TestOneText(t *testing.T) {
	_, text := some()
	for i := range 12 {
		for x := range 256 {
			b := bytes.Clone(text)
			b[i] = byte(x)
			if l, e := read(t, b); e == api.OK {
				if again, e := put(t, l); e != api.OK || !bytes.Equal(again, b) {
					t.Errorf("Read(%x), put again: %x, %d", b, again, e)
				}
			}
		}
	}
	for x := range 1 << 16 {
		b := []byte{byte(x), byte(x >> 8)}
		if l, e := read(t, b); e == api.OK {
			if again, e := put(t, l); e != api.OK || !bytes.Equal(again, b) {
				t.Errorf("Read(%x), put again: %x, %d", b, again, e)
			}
		}
	}
}

func TestSame(t *testing.T) {
	a, _ := some()
	b, _ := some()
	if !code.Same(a, b) || !code.Same(nil, []api.Step{}) || !code.Same([]api.Step{{Op: api.OpPush}}, []api.Step{push()}) {
		t.Error("a script is not the same as itself")
	}
	for i, change := range []func([]api.Step) []api.Step{
		func(l []api.Step) []api.Step { return l[1:] },
		func(l []api.Step) []api.Step { return nil },
		func(l []api.Step) []api.Step { return append(l, push()) },
		func(l []api.Step) []api.Step { l[0].Push = nil; return l },
		func(l []api.Step) []api.Step { l[0].Push = []byte{8}; return l },
		func(l []api.Step) []api.Step { l[1].Op = api.OpDrop; return l },
		func(l []api.Step) []api.Step { l[0], l[1] = l[1], l[0]; return l },
	} {
		b, _ := some()
		b = change(b)
		if code.Same(a, b) || code.Same(b, a) {
			t.Errorf("%d: is the same", i)
		}
	}
}

// The rules that hold everywhere: what is handed in stays as it is, what is answered is new memory.
func TestMemory(t *testing.T) {
	l, text := some()
	room := join(steps(9, 5), text, steps(100, 90))
	was := bytes.Clone(room)
	one, _ := code.Read(room[5 : 5+len(text)])
	two, _ := code.Read(room[5 : 5+len(text)])
	for i, s := range one[:cap(one)] {
		for k := range s.Push[:cap(s.Push)] {
			s.Push[:cap(s.Push)][k] ^= 255
		}
		one[:cap(one)][i] = api.Step{}
	}
	if !bytes.Equal(room, was) || !alike(two, l) {
		t.Error("what is read shares memory")
	}
	bytesRoom := steps(0, 60)
	in := append(make([]api.Step, 0, 9), push(bytesRoom[:3]...), api.Step{Op: api.OpPush, Push: bytesRoom[3:9]})
	first, _ := code.Put(in)
	second, _ := code.Put(in)
	code.Pushes(in)
	code.Same(in, in)
	for i := range first[:cap(first)] {
		first[:cap(first)][i] ^= 255
	}
	if !bytes.Equal(bytesRoom, steps(0, 60)) || !bytes.Equal(second, join([]byte{3}, steps(0, 3), []byte{6}, steps(3, 6))) || !alike(in[:3], []api.Step{push(0, 1, 2), push(3, 4, 5, 6, 7, 8), {}}) {
		t.Error("what is put shares memory, or has changed")
	}
}
