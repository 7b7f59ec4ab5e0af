package cache_test

import (
	"math"
	"math/rand"
	"slices"
	"testing"

	"moneyer/api"
	"moneyer/cache"
)

func at(n uint64) api.Place { return api.Place{At: n} }

func is(x byte) api.Node { return api.Node{Is: true, H: api.Hash{x}} }

func held(n uint64, x byte) api.Held { return api.Held{Place: at(n), Node: is(x)} }

func some(t *testing.T, room int) *cache.Cache {
	t.Helper()
	c, e := cache.New(room)
	if c == nil || e != api.OK {
		t.Fatalf("New(%d): %d", room, e)
	}
	return c
}

// The chapter's examples.
func TestExamples(t *testing.T) {
	if c, e := cache.New(-1); c != nil || e != api.ErrArg {
		t.Errorf("New(-1): %d", e)
	}
	c := some(t, 2)
	if e := c.Put([]api.Held{held(0, 'a'), held(1, 'b'), held(2, 'c')}); e != api.OK {
		t.Errorf("Put: %d", e)
	}
	if l := c.All(); !slices.Equal(l, []api.Held{held(2, 'c'), held(1, 'b')}) {
		t.Errorf("All = %v", l)
	}
	if v, e := c.Get(at(0)); v != (api.Node{}) || e != api.ErrNone {
		t.Errorf("Get(0) = %v, %d", v, e)
	}
	if e := c.Drop(0); e != api.OK {
		t.Errorf("Drop(0): %d", e)
	}
	if l := c.All(); !slices.Equal(l, []api.Held{held(1, 'b')}) {
		t.Errorf("All = %v", l)
	}
}

func TestNew(t *testing.T) {
	for _, room := range []int{0, 1, 2, 255, 256} {
		c := some(t, room)
		if c.Room() != room || len(c.All()) != 0 {
			t.Errorf("New(%d): Room = %d, All = %v", room, c.Room(), c.All())
		}
	}
	for _, room := range []int{-1, -256, math.MinInt, 257, 258, math.MaxInt} {
		if c, e := cache.New(room); c != nil || e != api.ErrArg {
			t.Errorf("New(%d): %d", room, e)
		}
	}
}

// A model keeps a list, the newest first.
type model struct {
	room int
	l    []api.Held
}

func (m *model) put(l []api.Held) {
	for _, h := range l {
		m.l = slices.DeleteFunc(m.l, func(x api.Held) bool { return x.Place == h.Place })
		m.l = slices.Insert(m.l, 0, h)
		m.l = m.l[:min(len(m.l), m.room)]
	}
}

func hold(t *testing.T, c *cache.Cache, m *model) {
	t.Helper()
	if l := c.All(); !slices.Equal(l, m.l) || c.Room() != m.room {
		t.Fatalf("All = %v, not %v; Room = %d", l, m.l, c.Room())
	}
	for row := range uint8(3) {
		for n := range uint64(9) {
			p := api.Place{Row: row, At: n}
			i := slices.IndexFunc(m.l, func(x api.Held) bool { return x.Place == p })
			v, e := c.Get(p)
			if i < 0 && (v != api.Node{} || e != api.ErrNone) || i >= 0 && (v != m.l[i].Node || e != api.OK) {
				t.Fatalf("Get(%v) = %v, %d", p, v, e)
			}
		}
	}
}

// P20.1 to P20.3, held against the model.
func TestAgainstTheModel(t *testing.T) {
	r := rand.New(rand.NewSource(1))
	for _, room := range []int{0, 1, 2, 3, 5, 8, 30} {
		c, m := some(t, room), &model{room: room}
		for range 3000 {
			switch k := r.Intn(20); {
			case k < 10:
				var l []api.Held
				for range r.Intn(5) {
					// As they are handed in: one that is none keeps the hash that does not count.
					l = append(l, api.Held{Place: api.Place{Row: uint8(r.Intn(3)), At: uint64(r.Intn(8))}, Node: api.Node{Is: r.Intn(3) > 0, H: api.Hash{byte(r.Intn(99))}}})
				}
				if e := c.Put(l); e != api.OK {
					t.Fatalf("Put: %d", e)
				}
				m.put(l)
			case k < 17:
				n := r.Intn(room + 2)
				e := c.Drop(n)
				if n < len(m.l) {
					m.l = slices.Delete(m.l, n, n+1)
					if e != api.OK {
						t.Fatalf("Drop(%d): %d", n, e)
					}
				} else if e != api.ErrNone {
					t.Fatalf("Drop(%d): %d", n, e)
				}
			case k == 17:
				// From then on the copy is the one that goes on.
				old, was := c, slices.Clone(m.l)
				c = c.Copy()
				c.Put([]api.Held{held(3, 77), held(4, 78)})
				m.put([]api.Held{held(3, 77), held(4, 78)})
				if !slices.Equal(old.All(), was) {
					t.Fatal("a cache shares memory with its copy")
				}
				old.Clear()
			case k == 18 && r.Intn(4) == 0:
				if e := c.Clear(); e != api.OK {
					t.Fatalf("Clear: %d", e)
				}
				m.l = nil
			}
			hold(t, c, m)
		}
	}
}

func TestDrop(t *testing.T) {
	for _, n := range []int{-1, math.MinInt, 3, 4, math.MaxInt} {
		c := some(t, 5)
		c.Put([]api.Held{held(0, 1), held(1, 2), held(2, 3)})
		if e := c.Drop(n); e != api.ErrNone || len(c.All()) != 3 {
			t.Errorf("Drop(%d): %d, %v", n, e, c.All())
		}
	}
	for n := range 3 {
		c := some(t, 3)
		c.Put([]api.Held{held(0, 1), held(1, 2), held(2, 3)})
		c.Drop(n)
		want := slices.Delete([]api.Held{held(2, 3), held(1, 2), held(0, 1)}, n, n+1)
		if !slices.Equal(c.All(), want) {
			t.Errorf("Drop(%d): %v", n, c.All())
		}
		c.Put([]api.Held{held(7, 9), held(8, 9)})
		if want := append([]api.Held{held(8, 9), held(7, 9)}, want[0]); !slices.Equal(c.All(), want) {
			t.Errorf("Drop(%d), Put: %v", n, c.All())
		}
	}
}

func TestMost(t *testing.T) {
	c := some(t, api.MaxHeld)
	var l []api.Held
	for i := range 1000 {
		l = append(l, held(uint64(i), byte(i)))
	}
	c.Put(l)
	slices.Reverse(l)
	if !slices.Equal(c.All(), l[:api.MaxHeld]) {
		t.Errorf("%d are kept", len(c.All()))
	}
}

// Rule 5: a nil pointer, and a zero object.
func TestNil(t *testing.T) {
	for _, c := range []*cache.Cache{nil, {}} {
		v, e := c.Get(at(0))
		if v != (api.Node{}) || e != api.ErrNil || len(c.All()) != 0 || c.Room() != 0 || c.Copy() != nil {
			t.Error("of nil something is told")
		}
		for _, e := range []api.Errno{c.Put(nil), c.Put([]api.Held{held(0, 1)}), c.Drop(0), c.Drop(-1), c.Clear()} {
			if e != api.ErrNil {
				t.Errorf("%d, not ErrNil", e)
			}
		}
	}
	// A cache without room is none of these.
	c := some(t, 0)
	if e := c.Put([]api.Held{held(0, 1)}); e != api.OK || len(c.All()) != 0 || c.Copy() == nil || c.Clear() != api.OK || c.Drop(0) != api.ErrNone {
		t.Errorf("without room: %d", e)
	}
}

// The rules that hold everywhere: what is handed in stays as it is, what is answered is new memory.
func TestMemory(t *testing.T) {
	l := []api.Held{held(0, 1), held(1, 2), held(2, 3)}
	c := some(t, 4)
	c.Put(l[:2])
	want := c.All()
	if !slices.Equal(l, []api.Held{held(0, 1), held(1, 2), held(2, 3)}) {
		t.Error("what was put has changed")
	}
	l[0] = held(9, 9)
	all := c.All()
	for i := range all[:cap(all)] {
		all[:cap(all)][i] = held(5, 5)
	}
	if !slices.Equal(c.All(), want) {
		t.Error("a cache shares memory")
	}
}
