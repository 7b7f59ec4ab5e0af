package script

import (
	"strconv"
	"strings"

	"moneyer/api"
	"moneyer/bridge"
	"moneyer/dev"
	"moneyer/plane"
	"moneyer/slim"
)

// A world is two devices, and the nodes on them; all of them are there, or none.
type world struct {
	devs   [sides]*dev.Dev
	bridge *bridge.Bridge
	slim   *slim.Slim
	room   int
}

func (w *world) isThere() bool {
	return w.bridge != nil && w.slim != nil
}

// renew lets what is there go, and makes all anew.
func (w *world) renew(sectors, room int) api.Errno {
	*w = world{}
	made := world{room: room}
	for side := range made.devs {
		d, e := dev.New(sectors)
		if e != api.OK {
			return e
		}
		made.devs[side] = d
		if e := made.open(side); e != api.OK {
			return e
		}
	}
	*w = made
	return api.OK
}

// open opens the node of a side on its device.
func (w *world) open(side int) (e api.Errno) {
	if side == sideBridge {
		w.bridge, e = bridge.Open(w.devs[side])
	} else {
		w.slim, e = slim.Open(w.devs[side], w.room)
	}
	return e
}

// on brings the power of a side back, and opens it anew; where that fails nothing is there any more.
func (w *world) on(side, keep, torn int) api.Errno {
	e := w.devs[side].On(keep, torn)
	if e == api.OK {
		e = w.open(side)
	}
	if e != api.OK {
		*w = world{}
	}
	return e
}

// attach answers what the bridge attaches to a block for the slim node, as it is now.
func (w *world) attach(id []byte) ([]byte, api.Errno) {
	var h api.Hash
	if len(id) != len(h) {
		return nil, api.ErrArg
	}
	copy(h[:], id)
	return w.bridge.Attach(h, w.heldFor(h))
}

// heldFor answers the places of what the slim node holds, if a block stands upon its tip: just then that counts.
func (w *world) heldFor(id api.Hash) []api.Place {
	blocks := w.bridge.Tree()
	n, e := blocks.Find(id)
	if e != api.OK {
		return nil
	}
	known, _ := blocks.Known(n)
	if tip, _ := w.slim.Tip(); tip != known.Head.Prev {
		return nil
	}
	var places []api.Place
	for _, h := range w.slim.Held() {
		places = append(places, h.Place)
	}
	return places
}

func (w *world) tips() (string, api.Errno) {
	id1, height1 := w.bridge.Tip()
	id2, height2 := w.slim.Tip()
	return words(hex(id1[:]), number(height1), hex(id2[:]), number(height2)), api.OK
}

func (w *world) coins() (string, api.Errno) {
	coins := w.bridge.Coins()
	worth := uint64(0)
	for _, c := range coins {
		worth += c.Value
	}
	return words(number(len(coins)), number(worth)), api.OK
}

func (w *world) roots() (string, api.Errno) {
	s, e := w.slim.Stump(w.slim.Tree().Best())
	if e != api.OK {
		return "", e
	}
	told := []string{number(s.N)}
	for _, root := range s.Roots {
		if root.Is {
			told = append(told, hex(root.H[:]))
		} else {
			told = append(told, none)
		}
	}
	return words(told...), api.OK
}

func (w *world) held() (string, api.Errno) {
	var told []string
	for _, h := range w.slim.Held() {
		told = append(told, number(h.Place.Row)+":"+number(h.Place.At))
	}
	if len(told) == 0 {
		return none, api.OK
	}
	return words(told...), api.OK
}

// onPlane answers where a leaf is on the plane.
func onPlane(leaf uint64) (string, api.Errno) {
	z, e := plane.Of(leaf)
	if e != api.OK {
		return "", e
	}
	// Its parts are whole.
	return words(number(int64(real(z))), number(int64(imag(z)))), api.OK
}

func said(r api.Reply) string {
	return words(number(r.Said), number(int(r.Why)), number(r.Height))
}

func words(l ...string) string {
	return strings.Join(l, blank)
}

// number tells a number in tens.
func number[T int | int64 | uint8 | uint32 | uint64](n T) string {
	if n < 0 {
		return strconv.FormatInt(int64(n), 10)
	}
	return strconv.FormatUint(uint64(n), 10)
}

func hex(b []byte) string {
	var told strings.Builder
	for _, x := range b {
		told.WriteByte(digits[x>>4])
		told.WriteByte(digits[x&15])
	}
	return told.String()
}
