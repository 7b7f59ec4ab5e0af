package script

import (
	"strconv"
	"strings"

	"moneyer/api"
)

const (
	remark     = '#'
	blank      = " "
	none       = "-"
	digits     = "0123456789abcdef"
	numberBits = 31
)

// The nodes that a line may name.
const (
	sideBridge = iota
	sideSlim
	sides
)

// A reader goes through the words of a line; it leaves by a panic, where they are none of the script's.
type reader struct {
	words []string
}

// bad is what it leaves with.
type bad struct{}

// rows answers the rows of the document's table: how the words behind the first one are read.
func rows() map[string]func(*reader) deed {
	return map[string]func(*reader) deed{
		"new":    (*reader).renew,
		"bridge": (*reader).bridge,
		"slim":   (*reader).slim,
		"attach": (*reader).attach,
		"pass":   (*reader).pass,
		"tips":   (*reader).tips,
		"coins":  (*reader).coins,
		"roots":  (*reader).roots,
		"held":   (*reader).held,
		"drop":   (*reader).drop,
		"cut":    (*reader).cut,
		"on":     (*reader).on,
		"map":    (*reader).plane,
	}
}

// read answers what a line does, nil of one that is empty or a remark; and whether it may be.
func read(line string, table map[string]func(*reader) deed) (do deed, ok bool) {
	if line == "" || line[0] == remark {
		return nil, true
	}
	defer func() {
		if r := recover(); r != nil {
			if _, is := r.(bad); !is {
				panic(r)
			}
			do, ok = nil, false
		}
	}()
	r := &reader{strings.Split(line, blank)}
	row, ok := table[r.word()]
	if !ok {
		panic(bad{})
	}
	do = row(r)
	if len(r.words) > 0 {
		panic(bad{})
	}
	return do, true
}

func (r *reader) word() string {
	if len(r.words) == 0 {
		panic(bad{})
	}
	w := r.words[0]
	r.words = r.words[1:]
	return w
}

func (r *reader) number() int {
	w := r.word()
	n, err := strconv.ParseUint(w, 10, numberBits)
	// It is written in one way alone: without a sign, or a needless nought.
	if err != nil || strconv.FormatUint(n, 10) != w {
		panic(bad{})
	}
	return int(n)
}

func (r *reader) hex() []byte {
	w := r.word()
	if w == none {
		return nil
	}
	if w == "" || len(w)%2 != 0 {
		panic(bad{})
	}
	b := make([]byte, len(w)/2)
	for i := range b {
		b[i] = digit(w[2*i])<<4 | digit(w[2*i+1])
	}
	return b
}

func digit(c byte) byte {
	n := strings.IndexByte(digits, c)
	if n < 0 {
		panic(bad{})
	}
	return byte(n)
}

func (r *reader) side() int {
	switch r.word() {
	case "bridge":
		return sideBridge
	case "slim":
		return sideSlim
	}
	panic(bad{})
}

func (r *reader) renew() deed {
	sectors, room := r.number(), r.number()
	return func(w *world) (string, api.Errno) { return done(w.renew(sectors, room)) }
}

func (r *reader) bridge() deed {
	b := r.hex()
	return there(func(w *world) (string, api.Errno) { return said(w.bridge.Deliver(b)), api.OK })
}

func (r *reader) slim() deed {
	b := r.hex()
	return there(func(w *world) (string, api.Errno) { return said(w.slim.Deliver(b)), api.OK })
}

func (r *reader) attach() deed {
	id := r.hex()
	return there(func(w *world) (string, api.Errno) {
		b, e := w.attach(id)
		return hex(b), e
	})
}

func (r *reader) pass() deed {
	id := r.hex()
	return there(func(w *world) (string, api.Errno) {
		b, e := w.attach(id)
		if e != api.OK {
			return "", e
		}
		return said(w.slim.Deliver(b)), api.OK
	})
}

func (r *reader) tips() deed {
	return there((*world).tips)
}

func (r *reader) coins() deed {
	return there((*world).coins)
}

func (r *reader) roots() deed {
	return there((*world).roots)
}

func (r *reader) held() deed {
	return there((*world).held)
}

func (r *reader) drop() deed {
	n := r.number()
	return there(func(w *world) (string, api.Errno) { return done(w.slim.Drop(n)) })
}

func (r *reader) cut() deed {
	side, after := r.side(), r.number()
	return there(func(w *world) (string, api.Errno) { return done(w.devs[side].Cut(after)) })
}

func (r *reader) on() deed {
	side, keep, torn := r.side(), r.number(), r.number()
	return there(func(w *world) (string, api.Errno) { return done(w.on(side, keep, torn)) })
}

func (r *reader) plane() deed {
	n := r.number()
	return func(*world) (string, api.Errno) { return onPlane(uint64(n)) }
}

// there answers the deed that is refused where no nodes are.
func there(do deed) deed {
	return func(w *world) (string, api.Errno) {
		if !w.isThere() {
			return "", api.ErrState
		}
		return do(w)
	}
}

// done is the answer of a deed that tells nothing else.
func done(e api.Errno) (string, api.Errno) {
	return "ok", e
}
