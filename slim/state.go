package slim

import (
	"slices"

	"moneyer/api"
	"moneyer/block"
	"moneyer/cache"
	"moneyer/check"
	"moneyer/ends"
	"moneyer/rule"
	"moneyer/stump"
	"moneyer/tree"
)

const (
	hashSize = 32
	atSize   = 8
	// The room is even: half of it fits in a byte.
	roomUnit = 2
)

// bytes answers the state's bytes.
func (n state) bytes() []byte {
	b := ends.Count(uint64(len(n.refused)))
	for _, id := range n.refused {
		b = append(b, id[:]...)
	}
	all := n.held.All()
	b = append(b, byte(n.held.Room()/roomUnit))
	b = append(b, ends.Count(uint64(len(all)))...)
	for _, h := range all {
		at, _ := ends.Put(h.Place.At, atSize)
		b = slices.Concat(b, []byte{h.Place.Row}, at, nodeBytes(h.Node))
	}
	return b
}

// stumpBytes answers the bytes of a stump.
func stumpBytes(s api.Stump) []byte {
	b := ends.Count(s.N)
	for _, root := range s.Roots {
		b = append(b, nodeBytes(root)...)
	}
	return b
}

func nodeBytes(v api.Node) []byte {
	if !v.Is {
		return []byte{0}
	}
	return append([]byte{1}, v.H[:]...)
}

// A reader goes through bytes; the first error that it meets is the one that it keeps.
type reader struct {
	b  []byte
	at int
	e  api.Errno
}

func (r *reader) number(size int) uint64 {
	if r.e != api.OK {
		return 0
	}
	n, e := ends.Get(r.b, r.at, size)
	r.at, r.e = r.at+size, e
	return n
}

func (r *reader) count() uint64 {
	if r.e != api.OK {
		return 0
	}
	n, next, e := ends.GetCount(r.b, r.at)
	r.at, r.e = next, e
	return n
}

func (r *reader) hash() api.Hash {
	if r.e != api.OK {
		return api.Hash{}
	}
	text, e := ends.Part(r.b, r.at, hashSize)
	if e != api.OK {
		r.e = e
		return api.Hash{}
	}
	r.at += hashSize
	return api.Hash(text)
}

func (r *reader) node() api.Node {
	switch r.number(1) {
	case 0:
		return api.Node{}
	case 1:
		return api.Node{Is: true, H: r.hash()}
	}
	r.e = api.ErrForm
	return api.Node{}
}

// isRead tells whether all bytes were read, and nothing was wrong.
func (r *reader) isRead() bool {
	return r.e == api.OK && r.at == len(r.b)
}

// readStump answers the stump that b is as a whole.
func readStump(b []byte) (api.Stump, error) {
	r := reader{b: b}
	s := api.Stump{N: r.count()}
	for r.e == api.OK && r.at < len(b) {
		s.Roots = append(s.Roots, r.node())
	}
	if !r.isRead() || !stump.May(s) {
		return api.Stump{}, trouble{"read a stump", api.ErrForm}
	}
	return s, nil
}

// readState answers the ids and the cache that the state's bytes have.
func readState(b []byte) ([]api.Hash, *cache.Cache, error) {
	r := reader{b: b}
	var ids []api.Hash
	for many := r.count(); r.e == api.OK && uint64(len(ids)) < many; {
		ids = append(ids, r.hash())
	}
	room := int(r.number(1)) * roomUnit
	var all []api.Held
	for many := r.count(); r.e == api.OK && uint64(len(all)) < many; {
		p := api.Place{Row: uint8(r.number(1)), At: r.number(atSize)}
		all = append(all, api.Held{Place: p, Node: r.node()})
	}
	held, e := cache.New(room)
	if !r.isRead() || e != api.OK || len(ids) > api.MaxBad {
		return nil, nil, trouble{"read the state", api.ErrForm}
	}
	slices.Reverse(all)
	held.Put(all)
	if len(held.All()) < len(all) {
		return nil, nil, trouble{"keep what was held", api.ErrForm}
	}
	return ids, held, nil
}

// load takes over what stands on the device.
func (s *Slim) load() error {
	blocks, e := s.store.Records(api.FileBlocks)
	if e != api.OK {
		return trouble{"read the blocks", e}
	}
	stumps, e := s.store.Records(api.FileUndos)
	if e != api.OK {
		return trouble{"read the stumps", e}
	}
	if len(blocks) == 0 && len(stumps) == 0 && len(s.store.State()) == 0 {
		return nil
	}
	refused, held, err := readState(s.store.State())
	if err != nil || len(blocks) != len(stumps) {
		return trouble{"read the state", api.ErrForm}
	}
	next := state{tree: tree.New(), refused: refused, held: held}
	behind := []api.Stump{{}}
	at := 0
	for i, text := range blocks {
		after, err := next.again(text, stumps[i], behind)
		if err != nil {
			return err
		}
		behind = append(behind, after)
		next.stumps = append(next.stumps, at)
		at += recordHead + len(stumps[i])
	}
	if !next.may(behind[next.tree.Best()]) {
		return trouble{"take the state", api.ErrForm}
	}
	s.now = next
	return nil
}

// again takes a block of which it is known no more how it was proved, and answers the stump behind it.
func (n *state) again(text, stumpText []byte, behind []api.Stump) (api.Stump, error) {
	b, e := block.Read(text)
	if e != api.OK || rule.Block(b) != api.OK {
		return api.Stump{}, trouble{"read a block", api.ErrForm}
	}
	after, err := readStump(stumpText)
	if err != nil {
		return api.Stump{}, err
	}
	parent, e := n.tree.Find(b.Head.Prev)
	if e != api.OK {
		return api.Stump{}, trouble{"find a parent", api.ErrForm}
	}
	c, _ := n.tree.Ctx(parent)
	made, _ := check.Made(b, c.Height)
	if b.Head.Bits != c.Bits || b.Head.Time <= c.Time || b.Txs[0].After != c.Height || after.N != behind[parent].N+uint64(len(made)) {
		return api.Stump{}, trouble{"take a block again", api.ErrForm}
	}
	if _, e := n.tree.Add(b.Head); e != api.OK {
		return api.Stump{}, trouble{"add a block", api.ErrForm}
	}
	return after, nil
}

// may tells whether ids and what is held are such as a node with this tree has, and with this stump at its tip: no id is in the tree, or twice; all places stand.
func (n *state) may(tip api.Stump) bool {
	for i, id := range n.refused {
		if _, e := n.tree.Find(id); e == api.OK || slices.Contains(n.refused[:i], id) {
			return false
		}
	}
	for _, h := range n.held.All() {
		if h.Place.At >= tip.N>>h.Place.Row {
			return false
		}
	}
	return true
}
