package store_test

import (
	"bytes"
	"encoding/binary"
	"math"
	"math/rand"
	"slices"
	"testing"

	"moneyer/api"
	"moneyer/dev"
	"moneyer/sha"
	"moneyer/store"
)

const size = api.Sector

func some(t *testing.T, sectors int) *dev.Dev {
	t.Helper()
	d, e := dev.New(sectors)
	if e != api.OK {
		t.Fatal(e)
	}
	return d
}

func open(t *testing.T, d *dev.Dev) *store.Store {
	t.Helper()
	s, e := store.Open(d)
	if s == nil || e != api.OK {
		t.Fatalf("Open: %d", e)
	}
	return s
}

func ok(t *testing.T, what string, got, want api.Errno) {
	t.Helper()
	if got != want {
		t.Errorf("%s: %d, not %d", what, got, want)
	}
}

func app(t *testing.T, s *store.Store, file int, b []byte) (int, api.Errno) {
	t.Helper()
	at, e := s.Append(file, b)
	if e != api.OK && at != 0 {
		t.Errorf("Append = %d, %d", at, e)
	}
	return at, e
}

func record(t *testing.T, s *store.Store, file, at int) ([]byte, api.Errno) {
	t.Helper()
	b, e := s.Record(file, at)
	if e != api.OK && len(b) != 0 {
		t.Errorf("Record = %x, %d", b, e)
	}
	return b, e
}

func records(t *testing.T, s *store.Store, file int) ([][]byte, api.Errno) {
	t.Helper()
	l, e := s.Records(file)
	if e != api.OK && len(l) != 0 {
		t.Errorf("Records = %x, %d", l, e)
	}
	return l, e
}

// steps are n bytes that go up from the first one.
func steps(first byte, n int) []byte {
	b := make([]byte, n)
	for i := range b {
		b[i] = first + byte(i)
	}
	return b
}

// recordOf says what the bytes of a record are.
func recordOf(b []byte) []byte {
	h := sha.Sum(b)
	return slices.Concat(binary.LittleEndian.AppendUint32(nil, uint32(len(b))), h[:4], b)
}

// stateOf says what the state's bytes are.
func stateOf(b []byte, blocks, undos int) []byte {
	l := binary.LittleEndian.AppendUint32(nil, uint32(len(b)))
	l = binary.LittleEndian.AppendUint32(l, uint32(blocks))
	l = binary.LittleEndian.AppendUint32(l, uint32(undos))
	h := sha.Sum(slices.Concat(l, b))
	return slices.Concat(l, h[:4], b)
}

// fill writes text to sectors from the first one on, 0s behind it.
func fill(t *testing.T, d *dev.Dev, first, sectors int, text []byte) {
	t.Helper()
	text = append(bytes.Clone(text), make([]byte, sectors*size-len(text))...)
	for i := range sectors {
		ok(t, "Write", d.Write(first+i, text[i*size:(i+1)*size]), api.OK)
	}
	ok(t, "Sync", d.Sync(), api.OK)
}

func same(a, b [][]byte) bool { return slices.EqualFunc(a, b, bytes.Equal) }

// The chapter's examples.
func TestExamples(t *testing.T) {
	if s, e := store.Open(some(t, 63)); s != nil || e != api.ErrArg {
		t.Errorf("Open(63): %d", e)
	}
	s := open(t, some(t, 64))
	if b := s.State(); len(b) != 0 {
		t.Errorf("State = %x", b)
	}
	if at, e := app(t, s, 0, []byte("abc")); at != 0 || e != api.OK {
		t.Errorf("Append = %d, %d", at, e)
	}
	if n := s.Length(0); n != 11 {
		t.Errorf("Length = %d", n)
	}
	if b, e := record(t, s, 0, 0); string(b) != "abc" || e != api.OK {
		t.Errorf("Record = %x, %d", b, e)
	}
	ok(t, "Save", s.Save([]byte("x")), api.OK)
	_, e := app(t, s, 2, nil)
	ok(t, "Append", e, api.ErrArg)
	if n := s.Room(1); n != 2040 {
		t.Errorf("Room(1) = %d", n)
	}
}

// P23.1

func TestOpen(t *testing.T) {
	for _, n := range []int{1, 8, 63} {
		d := some(t, n)
		if s, e := store.Open(d); s != nil || e != api.ErrArg || d.Writes() != 0 {
			t.Errorf("Open(%d): %d", n, e)
		}
	}
	for _, d := range []*dev.Dev{nil, {}} {
		if s, e := store.Open(d); s != nil || e != api.ErrNil {
			t.Errorf("Open of nil: %d", e)
		}
	}
	d := some(t, 64)
	d.Cut(0)
	d.Write(0, make([]byte, size))
	if s, e := store.Open(d); s != nil || e != api.ErrPower {
		t.Errorf("Open without power: %d", e)
	}
	for _, n := range []int{64, 65, 71, 72, 1000, 16384} {
		q := n / 8
		s := open(t, some(t, n))
		if s.Length(0) != 0 || s.Length(1) != 0 || s.Room(0) != 3*q*size-8 || s.Room(1) != 2*q*size-8 || len(s.State()) != 0 {
			t.Errorf("Open(%d): %d, %d, %d, %d", n, s.Length(0), s.Length(1), s.Room(0), s.Room(1))
		}
		for file := range 2 {
			if l, e := records(t, s, file); len(l) != 0 || e != api.OK {
				t.Errorf("Records = %x, %d", l, e)
			}
		}
	}
}

// Where everything stands, in a device of 75 sectors: eighths of 9.
func TestWhereItStands(t *testing.T) {
	d := some(t, 75)
	s := open(t, d)
	blocks, undos := [][]byte{steps(1, 300), nil, steps(7, 120)}, [][]byte{steps(2, 5), steps(3, 129)}
	var texts [2][]byte
	for file, l := range [][][]byte{blocks, undos} {
		for _, b := range l {
			at, e := app(t, s, file, b)
			if at != len(texts[file]) || e != api.OK {
				t.Errorf("Append = %d, %d", at, e)
			}
			texts[file] = append(texts[file], recordOf(b)...)
		}
	}
	state := steps(50, 500)
	ok(t, "Save", s.Save(state), api.OK)
	ok(t, "On", d.On(0, 0), api.OK)
	image := d.Image()
	if !bytes.Equal(image[18*size:27*size], append(stateOf(state, len(texts[0]), len(texts[1])), make([]byte, 9*size-516)...)) {
		t.Errorf("the state's area is %x", image[18*size:27*size])
	}
	if !bytes.HasPrefix(image[27*size:], texts[0]) || !bytes.HasPrefix(image[54*size:], texts[1]) {
		t.Error("the files stand otherwise")
	}
	if !bytes.Equal(image[72*size:], make([]byte, 3*size)) {
		t.Error("something stands behind the last eighth")
	}
	s = open(t, d)
	for file, l := range [][][]byte{blocks, undos} {
		if got, e := records(t, s, file); !same(got, l) || e != api.OK || s.Length(file) != len(texts[file]) {
			t.Errorf("Records(%d) = %x, %d", file, got, e)
		}
	}
	if !bytes.Equal(s.State(), state) {
		t.Errorf("State = %x", s.State())
	}
	// A shorter state: 0s stand behind it.
	ok(t, "Save", s.Save([]byte{1}), api.OK)
	if !bytes.Equal(d.Image()[18*size:27*size], append(stateOf([]byte{1}, len(texts[0]), len(texts[1])), make([]byte, 9*size-17)...)) {
		t.Error("the state's area has something behind the state")
	}
}

func TestStatesThatAreNone(t *testing.T) {
	const q = 8
	good := stateOf([]byte("state"), 0, 0)
	for i, c := range []struct {
		text []byte
		e    api.Errno
	}{
		{nil, api.OK},
		{good, api.OK},
		{stateOf(nil, 0, 0), api.OK},
		{stateOf(steps(0, q*size-16), 0, 0), api.OK},
		{stateOf(nil, 3*q*size, 2*q*size), api.OK},
		// Bytes behind the state are asked for nothing.
		{append(bytes.Clone(good), 9), api.OK},
		{stateOf(nil, 3*q*size+1, 0), api.ErrForm},
		{stateOf(nil, 0, 2*q*size+1), api.ErrForm},
		{stateOf(nil, 1<<31, 0), api.ErrForm},
		{stateOf(nil, math.MaxUint32, math.MaxUint32), api.ErrForm},
		{append([]byte{255, 255, 255, 255}, good[4:]...), api.ErrForm},
		{stateOf(steps(0, q*size-15), 0, 0)[:q*size], api.ErrForm},
		{append([]byte{4}, good[1:]...), api.ErrForm},
		{append([]byte{6}, good[1:]...), api.ErrForm},
		{append(good[:4:4], append([]byte{1}, good[5:]...)...), api.ErrForm},
		{append(good[:8:8], append([]byte{1}, good[9:]...)...), api.ErrForm},
		{append(good[:12:12], append([]byte{good[12] + 1}, good[13:]...)...), api.ErrForm},
		{append(good[:15:15], append([]byte{good[15] + 1}, good[16:]...)...), api.ErrForm},
		{append(good[:16:16], 'S', 't', 'a', 't', 'e'), api.ErrForm},
		{[]byte{0, 0, 0, 0, 0, 0, 0, 0, 0, 0, 0, 0, 1}, api.ErrForm},
		{append(make([]byte, q*size-1), 1), api.ErrForm},
	} {
		d := some(t, 64)
		fill(t, d, 2*q, q, c.text)
		s, e := store.Open(d)
		if e != c.e || (s != nil) != (e == api.OK) {
			t.Errorf("%d: Open: %d, not %d", i, e, c.e)
		}
	}
}

// P23.2 and P23.3

func TestArguments(t *testing.T) {
	d := some(t, 64)
	s := open(t, d)
	at, _ := app(t, s, 1, steps(1, 30))
	for _, file := range []int{-1, 2, 3, math.MinInt, math.MaxInt} {
		_, e1 := app(t, s, file, make([]byte, 9))
		_, e2 := app(t, s, file, make([]byte, 90000))
		_, e3 := record(t, s, file, 0)
		_, e4 := records(t, s, file)
		for _, e := range []api.Errno{e1, e2, e3, e4} {
			ok(t, "no such file", e, api.ErrArg)
		}
		if s.Length(file) != 0 || s.Room(file) != 0 {
			t.Errorf("no such file: %d, %d", s.Length(file), s.Room(file))
		}
	}
	app(t, s, 1, steps(2, 3))
	for _, n := range []int{-1, 1, 37, 39, 48, 49, 50, math.MinInt, math.MaxInt} {
		_, e := record(t, s, 1, n)
		ok(t, "no record begins there", e, api.ErrNone)
	}
	_, e := record(t, s, 0, 0)
	ok(t, "an empty file", e, api.ErrNone)
	if b, e := record(t, s, 1, at); !bytes.Equal(b, steps(1, 30)) || e != api.OK {
		t.Errorf("Record = %x, %d", b, e)
	}
	if b, e := record(t, s, 1, 38); !bytes.Equal(b, steps(2, 3)) || e != api.OK {
		t.Errorf("Record = %x, %d", b, e)
	}
}

func TestRoom(t *testing.T) {
	for file, room := range []int{3 * 8 * size, 2 * 8 * size} {
		d := some(t, 64)
		s := open(t, d)
		before := d.Writes()
		for _, n := range []int{room - 7, room, room + 1, 100000} {
			_, e := app(t, s, file, make([]byte, n))
			ok(t, "Append of too much", e, api.ErrFull)
		}
		if d.Writes() != before || s.Length(file) != 0 {
			t.Error("what was refused has changed something")
		}
		if at, e := app(t, s, file, steps(0, room-8-8-5)); at != 0 || e != api.OK {
			t.Errorf("Append = %d, %d", at, e)
		}
		if s.Room(file) != 5 {
			t.Errorf("Room = %d", s.Room(file))
		}
		_, e := app(t, s, file, make([]byte, 6))
		ok(t, "Append of one more", e, api.ErrFull)
		ok(t, "Save", s.Save(nil), api.OK)
		if at, e := app(t, s, file, steps(9, 5)); at != room-13 || e != api.OK {
			t.Errorf("Append = %d, %d", at, e)
		}
		_, e = app(t, s, file, nil)
		ok(t, "Append of none", e, api.ErrFull)
		if s.Room(file) != 0 || s.Length(file) != room {
			t.Errorf("Room = %d, Length = %d", s.Room(file), s.Length(file))
		}
		ok(t, "Save", s.Save(nil), api.OK)
		s = open(t, d)
		if l, e := records(t, s, file); !same(l, [][]byte{steps(0, room-21), steps(9, 5)}) || e != api.OK {
			t.Errorf("Records: %d, %d", len(l), e)
		}
		// Of just as much room as stands ahead of a record one without bytes has it.
		ok(t, "Forget", s.Forget(), api.OK)
		d = some(t, 64)
		s = open(t, d)
		app(t, s, file, make([]byte, room-8-8))
		if s.Room(file) != 0 {
			t.Errorf("Room = %d", s.Room(file))
		}
		if at, e := app(t, s, file, nil); at != room-8 || e != api.OK {
			t.Errorf("Append = %d, %d", at, e)
		}
		d = some(t, 64)
		s = open(t, d)
		app(t, s, file, make([]byte, room-8-7))
		if s.Room(file) != 0 {
			t.Errorf("Room = %d", s.Room(file))
		}
		_, e = app(t, s, file, nil)
		ok(t, "Append of none", e, api.ErrFull)
	}
	d := some(t, 64)
	s := open(t, d)
	ok(t, "Save", s.Save(steps(0, 8*size-16)), api.OK)
	before := d.Writes()
	for _, n := range []int{8*size - 15, 8 * size, 99999} {
		ok(t, "Save of too much", s.Save(make([]byte, n)), api.ErrFull)
	}
	if d.Writes() != before || !bytes.Equal(s.State(), steps(0, 8*size-16)) {
		t.Error("what was refused has changed something")
	}
	// The greatest device: each sector of the state changes.
	d = some(t, api.MaxSectors)
	s = open(t, d)
	ok(t, "Save of the most", s.Save(bytes.Repeat([]byte{1}, 2048*size-16)), api.OK)
	if s = open(t, d); len(s.State()) != 2048*size-16 {
		t.Errorf("State: %d bytes", len(s.State()))
	}
}

// A model is what is saved, and what is appended besides.
type model struct {
	state        []byte
	saved, files [2][][]byte
}

func copyFiles(f [2][][]byte) [2][][]byte { return [2][][]byte{slices.Clone(f[0]), slices.Clone(f[1])} }

func hold(t *testing.T, s *store.Store, m model) {
	t.Helper()
	if !bytes.Equal(s.State(), m.state) {
		t.Fatalf("State = %x, not %x", s.State(), m.state)
	}
	for file, l := range m.files {
		at := 0
		starts := map[int]bool{}
		for _, b := range l {
			if got, e := record(t, s, file, at); !bytes.Equal(got, b) || e != api.OK {
				t.Fatalf("Record(%d, %d) = %x, %d", file, at, got, e)
			}
			starts[at] = true
			at += 8 + len(b)
		}
		if got, e := records(t, s, file); !same(got, l) || e != api.OK || s.Length(file) != at {
			t.Fatalf("Records(%d): %d, %d; Length = %d", file, len(got), e, s.Length(file))
		}
		for n := -1; n < at+2; n++ {
			if _, e := record(t, s, file, n); !starts[n] && e != api.ErrNone {
				t.Fatalf("Record(%d, %d): %d", file, n, e)
			}
		}
	}
}

func TestAgainstTheModel(t *testing.T) {
	r := rand.New(rand.NewSource(1))
	for range 40 {
		d := some(t, 64+r.Intn(30))
		s := open(t, d)
		var m model
		for range 25 {
			switch k := r.Intn(10); {
			case k < 5:
				file, b := r.Intn(2), steps(byte(r.Intn(256)), r.Intn(1+r.Intn(300)))
				if len(b) > s.Room(file) || s.Room(file) == 0 {
					continue
				}
				at := s.Length(file)
				if got, e := app(t, s, file, b); got != at || e != api.OK {
					t.Fatalf("Append = %d, %d", got, e)
				}
				m.files[file] = append(m.files[file], b)
			case k < 7:
				b := steps(byte(r.Intn(256)), r.Intn(900))
				ok(t, "Save", s.Save(b), api.OK)
				m.state, m.saved = b, copyFiles(m.files)
			case k == 7:
				ok(t, "Forget", s.Forget(), api.OK)
				m.files = copyFiles(m.saved)
			case k == 8:
				s = open(t, d)
				m.files = copyFiles(m.saved)
			default:
				// What is saved is sure.
				ok(t, "On", d.On(r.Intn(3), r.Intn(200)), api.OK)
				s = open(t, d)
				m.files = copyFiles(m.saved)
			}
			hold(t, s, m)
		}
	}
}

// A record of which a byte is another one.
func TestSpoiltRecords(t *testing.T) {
	for i := range 8 + 30 {
		for _, again := range []bool{false, true} {
			d := some(t, 64)
			s := open(t, d)
			app(t, s, 0, steps(9, 5))
			app(t, s, 0, steps(1, 30))
			app(t, s, 0, steps(3, 6))
			ok(t, "Save", s.Save(nil), api.OK)
			b, _ := d.Read(24)
			b[13+i]++
			d.Write(24, b)
			if again {
				s = open(t, d)
			}
			if b, e := record(t, s, 0, 0); !bytes.Equal(b, steps(9, 5)) || e != api.OK {
				t.Errorf("%d: Record(0) = %x, %d", i, b, e)
			}
			_, e := record(t, s, 0, 13)
			ok(t, "Record", e, api.ErrForm)
			_, e = records(t, s, 0)
			ok(t, "Records", e, api.ErrForm)
			if b, e := record(t, s, 0, 51); !again && (!bytes.Equal(b, steps(3, 6)) || e != api.OK) {
				t.Errorf("%d: Record(51) = %x, %d", i, b, e)
			}
		}
	}
}

// A file whose length is not that of its records: what is left at its end is none.
func TestSpoiltLengths(t *testing.T) {
	const q, whole = 8, 2 * 8 * size
	for _, more := range []int{1, 7, 8, 11} {
		first := steps(1, whole-8-8-more)
		text := append(recordOf(first), recordOf(nil)...)
		d := some(t, 64)
		fill(t, d, 6*q, 2*q, append(bytes.Clone(text), 200, 1, 1, 1)[:whole-more+min(more, 4)])
		fill(t, d, 2*q, q, stateOf([]byte("state"), 0, whole))
		s := open(t, d)
		if b, e := record(t, s, 1, 0); !bytes.Equal(b, first) || e != api.OK {
			t.Errorf("%d more: Record(0): %d, %d", more, len(b), e)
		}
		if b, e := record(t, s, 1, len(text)-8); len(b) != 0 || e != api.OK {
			t.Errorf("%d more: Record: %d, %d", more, len(b), e)
		}
		_, e := records(t, s, 1)
		ok(t, "Records", e, api.ErrForm)
	}
}

func TestWithoutPower(t *testing.T) {
	d := some(t, 64)
	s := open(t, d)
	at, _ := app(t, s, 0, steps(9, 5))
	ok(t, "Save", s.Save([]byte("state")), api.OK)
	app(t, s, 0, steps(1, 4))
	d.Cut(0)
	_, e := app(t, s, 0, []byte{1})
	ok(t, "Append", e, api.ErrPower)
	for range 2 {
		_, e1 := app(t, s, 0, []byte{1})
		_, e2 := record(t, s, 0, at)
		_, e3 := records(t, s, 0)
		for _, e := range []api.Errno{e1, e2, e3, s.Save(nil), s.Save([]byte("state"))} {
			ok(t, "without power", e, api.ErrPower)
		}
		_, e1 = records(t, s, 1)
		ok(t, "Records of a file without any", e1, api.ErrPower)
		_, e1 = records(t, s, 2)
		ok(t, "Records", e1, api.ErrArg)
		_, e1 = app(t, s, 2, nil)
		ok(t, "Append", e1, api.ErrArg)
		_, e1 = app(t, s, 0, make([]byte, 9999))
		ok(t, "Append", e1, api.ErrFull)
		_, e1 = record(t, s, 0, 1)
		ok(t, "Record", e1, api.ErrNone)
		ok(t, "Save", s.Save(make([]byte, 9999)), api.ErrFull)
		if string(s.State()) != "state" || s.Length(0) != 25 || s.Room(1) != 2040 {
			t.Errorf("%s, %d, %d", s.State(), s.Length(0), s.Room(1))
		}
	}
	ok(t, "Forget", s.Forget(), api.OK)
	if s.Length(0) != 13 {
		t.Errorf("Length = %d", s.Length(0))
	}
}

// To save is to Sync first, also where nothing of the state is otherwise than it stands.
func TestSaveSyncs(t *testing.T) {
	d := some(t, 64)
	s := open(t, d)
	ok(t, "Save", s.Save([]byte("state")), api.OK)
	d.Write(63, bytes.Repeat([]byte{7}, api.Sector))
	writes := d.Writes()
	ok(t, "Save", s.Save([]byte("state")), api.OK)
	if d.Writes() != writes {
		t.Error("what stands already was written")
	}
	d.On(0, 0)
	if b, _ := d.Read(63); !bytes.Equal(b, bytes.Repeat([]byte{7}, api.Sector)) {
		t.Error("what was written ahead of Save is not sure")
	}
}

// P23.4: wherever the power is cut, whatever is kept and torn.
func TestPower(t *testing.T) {
	type step struct {
		file int
		b    []byte
		save bool
	}
	walk := []step{{0, steps(1, 100), false}, {1, steps(2, 20), false}, {0, steps(3, 200), true}, {1, steps(4, 130), false}, {0, nil, false}, {0, steps(6, 700), true}, {1, steps(7, 3), false}}
	start := func() (*dev.Dev, *store.Store) {
		d := some(t, 64)
		s := open(t, d)
		app(t, s, 0, steps(90, 77))
		app(t, s, 1, steps(91, 55))
		ok(t, "Save", s.Save([]byte("first")), api.OK)
		return d, s
	}
	first := model{state: []byte("first"), saved: [2][][]byte{{steps(90, 77)}, {steps(91, 55)}}}
	first.files = copyFiles(first.saved)
	// run walks till the power is cut, and answers what may be there then.
	run := func(s *store.Store) (may []model, e api.Errno) {
		now := first
		now.files = copyFiles(first.files)
		may = []model{first}
		for _, x := range walk {
			if _, e := s.Append(x.file, x.b); e != api.OK {
				return may, e
			}
			now.files[x.file] = append(now.files[x.file], x.b)
			if !x.save {
				continue
			}
			next := model{state: steps(byte(len(x.b)), 9*len(x.b)%1000), saved: copyFiles(now.files), files: copyFiles(now.files)}
			if e := s.Save(next.state); e != api.OK {
				return append(may, next), e
			}
			may = []model{next}
		}
		return may, api.OK
	}
	d, s := start()
	before := d.Writes()
	if _, e := run(s); e != api.OK {
		t.Fatal(e)
	}
	writes := d.Writes() - before
	old, under := 0, 0
	for after := range writes + 1 {
		for _, keep := range []int{0, 1, 2, 5, 99} {
			for _, torn := range []int{0, 1, 13, 40, 127} {
				d, s := start()
				d.Cut(after)
				may, e := run(s)
				if (e == api.ErrPower) != (after < writes) {
					t.Fatalf("cut behind %d: %d", after, e)
				}
				ok(t, "On", d.On(keep, torn), api.OK)
				// Also where it is cut while it is opened.
				for again := range 3 {
					d.Cut(again)
					if _, e := store.Open(d); e == api.OK {
						break
					}
					ok(t, "On", d.On(keep/2, torn), api.OK)
				}
				d.On(99, 0)
				s = open(t, d)
				is := slices.IndexFunc(may, func(m model) bool { return bytes.Equal(m.state, s.State()) })
				if is < 0 {
					t.Fatalf("cut behind %d, %d, %d: State = %x", after, keep, torn, s.State())
				}
				m := may[is]
				hold(t, s, m)
				if is == 0 {
					old++
				} else {
					under++
				}
				// It goes on from there.
				app(t, s, 0, steps(55, 150))
				ok(t, "Save", s.Save([]byte("last")), api.OK)
				m.state, m.files[0] = []byte("last"), append(slices.Clone(m.files[0]), steps(55, 150))
				hold(t, open(t, d), m)
			}
		}
	}
	if old < 100 || under < 100 {
		t.Errorf("%d, %d", old, under)
	}
}

// Rule 5: a nil pointer, and a zero object.
func TestNil(t *testing.T) {
	for _, s := range []*store.Store{nil, {}} {
		_, e1 := app(t, s, 0, nil)
		_, e2 := app(t, s, 9, nil)
		_, e3 := record(t, s, 0, 0)
		_, e4 := records(t, s, 0)
		_, e5 := records(t, s, 7)
		for _, e := range []api.Errno{e1, e2, e3, e4, e5, s.Save(nil), s.Save(make([]byte, 1<<20)), s.Forget()} {
			ok(t, "of nil", e, api.ErrNil)
		}
		if len(s.State()) != 0 || s.Length(0) != 0 || s.Room(0) != 0 {
			t.Error("of nil something is told")
		}
	}
}

// The rules that hold everywhere: what is handed in stays as it is, what is answered is new memory.
func TestMemory(t *testing.T) {
	d := some(t, 64)
	s := open(t, d)
	room := steps(0, 50)
	app(t, s, 0, room[:10])
	app(t, s, 0, room[10:20])
	ok(t, "Save", s.Save(room[20:30]), api.OK)
	if !bytes.Equal(room, steps(0, 50)) {
		t.Error("what was handed in has changed")
	}
	overwrite := func(b []byte) {
		for i := range b[:cap(b)] {
			b[:cap(b)][i] ^= 255
		}
	}
	overwrite(room)
	l, _ := s.Records(0)
	one, _ := s.Record(0, 0)
	state := s.State()
	overwrite(l[0])
	if !bytes.Equal(l[1], steps(10, 10)) {
		t.Error("two records of one answer share memory")
	}
	overwrite(l[1])
	overwrite(one)
	overwrite(state)
	again, _ := s.Records(0)
	if !same(again, [][]byte{steps(0, 10), steps(10, 10)}) || !bytes.Equal(s.State(), steps(20, 10)) {
		t.Error("memory is shared")
	}
}
