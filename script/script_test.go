package script_test

import (
	"encoding/hex"
	"fmt"
	"math/rand"
	"slices"
	"strings"
	"testing"

	"moneyer/api"
	"moneyer/block"
	"moneyer/bridge"
	"moneyer/dev"
	"moneyer/head"
	"moneyer/mint"
	"moneyer/plane"
	"moneyer/script"
	"moneyer/slim"
)

// lines brings lines together, each with a byte 10 behind it.
func lines(l ...string) string {
	var b strings.Builder
	for _, x := range l {
		b.WriteString(x + "\n")
	}
	return b.String()
}

// tells holds what is told of lines to be these answers, one for each.
func tells(t *testing.T, l, answers []string) {
	t.Helper()
	out, line, ok := script.Run(lines(l...))
	if !ok || line != 0 {
		t.Fatalf("Run: %d, %t", line, ok)
	}
	var want strings.Builder
	for i, x := range l {
		want.WriteString("> " + x + "\n" + answers[i] + "\n")
	}
	if out != want.String() {
		t.Errorf("Run:\n%snot\n%s", out, want.String())
	}
}

// told answers the answers to lines, none of which is empty or a remark.
func told(t *testing.T, l ...string) []string {
	t.Helper()
	out, line, ok := script.Run(lines(l...))
	if !ok || line != 0 {
		t.Fatalf("Run of %q: %d, %t", l, line, ok)
	}
	all := strings.Split(out, "\n")
	var answers []string
	for i, x := range l {
		if all[2*i] != "> "+x {
			t.Fatalf("told is %q, not %q", all[2*i], x)
		}
		answers = append(answers, all[2*i+1])
	}
	if len(all) != 2*len(l)+1 {
		t.Fatalf("told is %q", out)
	}
	return answers
}

func text(b api.Block) string {
	x, _ := block.Put(b)
	return hex.EncodeToString(x)
}

// bare is a block with nothing that proves it, for the slim node.
func bare(b api.Block) string {
	x, _ := block.Put(b)
	y, _ := bridge.Pack(x, nil, api.Proof{})
	return hex.EncodeToString(y)
}

func idOf(b api.Block) string {
	id := head.Id(b.Head)
	return hex.EncodeToString(id[:])
}

func first(c api.Ctx, values ...uint64) api.Block {
	return mint.Block(c, mint.First(c.Height, mint.Free(values...)...))
}

// The chapter's examples.
func TestExamples(t *testing.T) {
	tells(t, []string{"map 4"}, []string{"0 -2"})
	begin := head.Id(head.Begin())
	id := hex.EncodeToString(begin[:])
	tells(t, []string{"tips", "new 64 4", "tips", "coins", "held"}, []string{"error 13", "ok", id + " 0 " + id + " 0", "0 0", "-"})
	tells(t, []string{"new 63 0", "bridge -"}, []string{"error 2", "error 13"})
}

// P32.1: what is a script, and which line is none.
func TestLines(t *testing.T) {
	for _, text := range []string{
		"", "\n", "\n\n\n", "#", "# new", "#\xff\x00\r\n", "#new 64 4\n\n", "tips", "tips\n", "\ntips", "coins", "roots", "held",
		"new 0 0", "new 2147483647 2147483647", "drop 0", "drop 10", "map 0", "map 2147483647",
		"cut bridge 0", "cut slim 2147483647", "on bridge 0 0", "on slim 9 9",
		"bridge -", "slim -", "attach -", "pass -", "bridge 00", "slim 0123456789abcdef", "attach 01", "pass ff",
	} {
		if _, line, ok := script.Run(text); !ok || line != 0 {
			t.Errorf("%q is no script: %d", text, line)
		}
	}
	for _, l := range []string{
		" ", "  ", "\t", "\r", "tips ", " tips", "tips\r", "tips\t", "Tips", "tip", "tips tips", "tips -", "tips  ", "coins 0", "roots -", "held 1", "x", "-", "0", "> tips", " #",
		"new", "new 64", "new 64 4 4", "new 64  4", "new  64 4", "new 64 4 ", "new 064 4", "new 64 00", "new -1 0", "new +1 0", "new 64 -", "new 1_0 0", "new 0x1 0", "new 2147483648 0", "new 0 4294967296", "new 99999999999999999999 0", "new \xd9\xa1 0", "new 64. 4",
		"map", "map -1", "map 2147483648", "map 01", "map 1 1", "map x", "map ",
		"drop", "drop -", "drop 1 1", "drop -1",
		"cut", "cut 0", "cut bridge", "cut slim", "cut both 0", "cut Bridge 0", "cut bridge -1", "cut slim 0 0", "cut - 0", "cut  0",
		"on", "on bridge", "on bridge 0", "on slim 0 -", "on bridge 0 0 0", "on full 0 0", "on 0 0 bridge",
		"bridge", "bridge ", "bridge 0", "bridge 000", "bridge FF", "bridge 0g", "bridge 00 00", "bridge --", "bridge -0", "bridge 0x00", "bridge 00 ", "bridge \xff\xff", "slim", "slim zz", "slim - -", "attach", "attach A0", "pass", "pass 1", "pass 00-",
	} {
		for n, text := range []string{l, "tips\n" + l, "\n#\n" + l + "\nbad\nmap 4"} {
			out, line, ok := script.Run(text)
			if ok || line != n && line != 2 || n < 2 && line != n || out != "" {
				t.Errorf("%q: %q, %d, %t", text, out, line, ok)
			}
		}
	}
	// An empty line and a remark are told nothing of, and counted.
	out, line, ok := script.Run("#a\n\nmap 1\n\n# b\nmap 0")
	if out != "> map 1\n1 0\n> map 0\n0 0\n" || line != 0 || !ok {
		t.Errorf("Run = %q, %d, %t", out, line, ok)
	}
}

// At most 1000 lines: of more the line 1000 is none, but for one ahead of it.
func TestManyLines(t *testing.T) {
	most := strings.Repeat("map 1\n", 1000)
	want := strings.Repeat("> map 1\n1 0\n", 1000)
	for _, text := range []string{most, most[:len(most)-1]} {
		if out, line, ok := script.Run(text); out != want || line != 0 || !ok {
			t.Errorf("1000 lines: %d, %t", line, ok)
		}
	}
	for _, more := range []string{"map 1", "map 1\n", "\n", "#", "bad", "map 1\nbad\n", strings.Repeat("\n", 5000)} {
		if out, line, ok := script.Run(most + more); out != "" || line != 1000 || ok {
			t.Errorf("1000 lines and %q: %d, %t", more, line, ok)
		}
	}
	for _, at := range []int{0, 7, 999} {
		l := strings.Split(most+"map 1\nbad", "\n")
		l[at] = "bad"
		if out, line, ok := script.Run(strings.Join(l, "\n")); out != "" || line != at || ok {
			t.Errorf("the line %d: %d, %t", at, line, ok)
		}
	}
	if out, line, ok := script.Run(strings.Repeat("\n", 1000)); out != "" || line != 0 || !ok {
		t.Errorf("1000 empty lines: %d, %t", line, ok)
	}
}

func TestMap(t *testing.T) {
	for n := range uint64(3000) {
		n *= 715827
		if n >= 1<<31 {
			n %= 1 << 20
		}
		z, _ := plane.Of(n)
		want := fmt.Sprintf("%d %d", int64(real(z)), int64(imag(z)))
		if l := told(t, fmt.Sprintf("map %d", n)); l[0] != want {
			t.Fatalf("map %d: %s, not %s", n, l[0], want)
		}
	}
	tells(t, []string{"map 0", "map 2", "map 3", "map 2147483647"}, []string{"0 0", "-1 1", "0 1", told(t, "map 2147483647")[0]})
}

// Ahead of new, and behind one that is refused, nothing is there.
func TestAheadOfNew(t *testing.T) {
	l := []string{"bridge -", "slim -", "attach -", "attach 00", "pass -", "tips", "coins", "roots", "held", "drop 0", "cut bridge 0", "cut slim 0", "on bridge 0 0", "on slim 0 0"}
	want := slices.Repeat([]string{"error 13"}, len(l))
	tells(t, l, want)
	for _, refused := range []string{"new 0 0", "new 63 0", "new 64 1", "new 64 257", "new 64 258", "new 16385 0", "new 2147483647 2147483647"} {
		for _, ahead := range []string{"map 1", "new 64 4"} {
			answers := told(t, append([]string{ahead, refused}, l...)...)
			if answers[1] != "error 2" || !slices.Equal(answers[2:], want) {
				t.Errorf("%s: %q", refused, answers)
			}
		}
	}
	tells(t, []string{"new 63 0", "new 64 256", "coins", "new 16384 0", "coins", "held"}, []string{"error 2", "ok", "0 0", "ok", "0 0", "-"})
}

// The answers one by one.
func TestAnswers(t *testing.T) {
	a := first(mint.Begin(), 10, 20)
	b := first(mint.Upon(a, 1), 30)
	bad := first(mint.Upon(b, 2), api.Subsidy+1)
	begin := head.Id(head.Begin())
	id0 := hex.EncodeToString(begin[:])
	tells(t, []string{
		"new 256 6", "bridge " + text(b), "bridge " + text(a), "bridge " + text(a), "bridge " + text(b), "bridge " + text(bad), "bridge -", "bridge 00",
		"attach -", "attach 00", "attach " + id0, "attach " + idOf(bad), "attach " + idOf(a)[2:], "attach " + idOf(a) + "00",
		"attach " + idOf(a), "attach " + idOf(b),
		"tips", "coins", "roots", "held", "drop 0",
		"pass " + idOf(b), "pass " + idOf(a), "pass " + idOf(a), "pass 00", "pass " + id0, "tips", "held", "pass " + idOf(b), "slim " + bare(bad), "slim " + bare(bad), "slim -", "slim 00", "slim " + bare(a) + "00",
		"drop 9", "drop 1", "held", "drop 3", "drop 2", "held",
		"new 64 0", "tips", "roots",
	}, []string{
		"ok", "3 6 0", "1 0 1", "2 7 1", "1 0 2", "5 9 2", "4 4 2", "4 4 2",
		"error 2", "error 2", "error 6", "error 6", "error 2", "error 2",
		bare(a), bare(b),
		idOf(b) + " 2 " + id0 + " 0", "3 60", "0", "-", "error 6",
		"3 6 0", "1 0 1", "2 7 1", "error 2", "error 6", idOf(b) + " 2 " + idOf(a) + " 1", "1:0 0:1 0:0", "1 0 2", "5 9 2", "5 7 2", "4 4 2", "4 4 2", "2 7 2",
		"error 6", "ok", "0:2 0:1 0:0", "error 6", "ok", "0:2 0:1",
		"ok", id0 + " 0 " + id0 + " 0", "0",
	})
}

// A block that spends: its proof, with what is held and without, and roots that are none.
func TestSpends(t *testing.T) {
	m := mint.NewModel()
	l := []string{"new 512 20"}
	var blocks []api.Block
	put := func(b api.Block) {
		x, _ := block.Put(b)
		m.Deliver(x)
		blocks = append(blocks, b)
		l = append(l, "bridge "+text(b))
	}
	for i := range uint64(6) {
		c, _ := m.Tree.Ctx(m.Tree.Len() - 1)
		put(first(c, slices.Repeat([]uint64{10 + i}, max(0, 3-2*int(i)))...))
	}
	coins := m.Coins(m.Tree.Len() - 1)
	for _, spent := range [][]api.Coin{coins[:1], coins[1:]} {
		c, _ := m.Tree.Ctx(m.Tree.Len() - 1)
		put(mint.Block(c, mint.First(c.Height), mint.Spend(spent)))
	}
	d1, _ := dev.New(512)
	d2, _ := dev.New(512)
	b, _ := bridge.Open(d1)
	s, _ := slim.Open(d2, 20)
	want := []string{"ok"}
	for i, x := range blocks {
		y, _ := block.Put(x)
		b.Deliver(y)
		want = append(want, fmt.Sprintf("1 0 %d", i+1))
	}
	for i, x := range blocks {
		var held []api.Place
		var rows []string
		for _, h := range s.Held() {
			held = append(held, h.Place)
		}
		y, e := b.Attach(head.Id(x.Head), held)
		if e != api.OK || s.Deliver(y).Said != api.SaidNew {
			t.Fatalf("Attach: %d", e)
		}
		if _, _, p, _ := bridge.Unpack(y); slices.Contains(p.Values, api.Given{Kind: api.GivenHeld}) != (i > 5) {
			t.Errorf("the proof of %d is %v", i, p)
		}
		for _, h := range s.Held() {
			rows = append(rows, fmt.Sprintf("%d:%d", h.Place.Row, h.Place.At))
		}
		l = append(l, "attach "+idOf(x), "pass "+idOf(x), "held")
		want = append(want, hex.EncodeToString(y), fmt.Sprintf("1 0 %d", i+1), strings.Join(rows, " "))
		if i < 7 && i > 0 {
			st, _ := s.Stump(i + 1)
			l = append(l, "roots")
			want = append(want, fmt.Sprintf("%d %x", st.N, st.Roots[0].H))
		}
	}
	// What is attached to a block that does not stand upon the slim node's tip counts upon nothing held.
	y, _ := b.Attach(head.Id(blocks[6].Head), nil)
	l = append(l, "roots", "attach "+idOf(blocks[6]), "coins", "tips")
	want = append(want, "4 -", hex.EncodeToString(y), "0 0", idOf(blocks[7])+" 8 "+idOf(blocks[7])+" 8")
	tells(t, l, want)
}

// The power of either side.
func TestPower(t *testing.T) {
	a := first(mint.Begin(), 10, 20)
	b := first(mint.Upon(a, 1), 30)
	begin := head.Id(head.Begin())
	id0 := hex.EncodeToString(begin[:])
	tells(t, []string{
		"new 256 6", "cut bridge 0", "bridge -", "bridge " + text(a), "bridge -", "tips", "coins", "attach " + idOf(a), "cut bridge 0", "on bridge 0 0",
		"bridge " + text(a), "cut bridge 1", "cut bridge 1000", "bridge " + text(b), "on bridge 5 5", "tips", "attach " + idOf(a),
		"cut slim 0", "roots", "drop 0", "pass " + idOf(a), "pass " + idOf(a), "roots", "held", "drop 0", "cut slim 3", "tips", "on slim 0 128", "roots",
		"pass " + idOf(a), "cut slim 0", "drop 0", "held", "drop 0", "slim -", "roots", "on slim 99 0", "held", "drop 0", "held",
		"cut bridge 0", "bridge " + text(first(mint.Upon(b, 2))), "attach " + idOf(b), "pass " + idOf(b), "attach " + id0, "coins",
		"on bridge 0 0", "pass " + idOf(b), "on slim 0 0", "tips",
	}, []string{
		"ok", "ok", "4 4 0", "8 12 0", "8 12 0", id0 + " 0 " + id0 + " 0", "0 0", "error 6", "error 12", "ok",
		"1 0 1", "ok", "ok", "1 0 2", "ok", idOf(b) + " 2 " + id0 + " 0", bare(a),
		"ok", "0", "error 6", "8 12 0", "8 12 0", "error 12", "-", "error 12", "error 12", idOf(b) + " 2 " + id0 + " 0", "ok", "0",
		"1 0 1", "ok", "error 12", "1:0 0:1 0:0", "error 12", "8 12 0", "error 12", "ok", "1:0 0:1 0:0", "ok", "0:1 0:0",
		"ok", "8 12 0", "error 12", "error 12", "error 6", "3 60",
		"ok", "1 0 2", "ok", idOf(b) + " 2 " + idOf(b) + " 2",
	})
	// Opened anew the slim node has the room that it had.
	tells(t, []string{"new 256 2", "on slim 0 0", "bridge " + text(a), "pass " + idOf(a), "held", "on slim 0 0", "held"}, []string{"ok", "ok", "1 0 1", "1 0 1", "1:0 0:1", "ok", "1:0 0:1"})
	// Wherever it is cut: the old tip, or the new one; and it goes on from there.
	for after := range 20 {
		for _, keep := range []int{0, 1, 2, 99} {
			cut, on := fmt.Sprintf("cut bridge %d", after), fmt.Sprintf("on bridge %d %d", keep, after*7%129)
			l := told(t, "new 256 6", "bridge "+text(a), cut, "bridge "+text(b), on, "tips", "bridge "+text(b), "coins")
			tip := strings.Fields(l[5])[0]
			if l[4] != "ok" || tip != idOf(a) && tip != idOf(b) || l[6] != "1 0 2" && tip == idOf(a) || l[6] != "2 7 2" && tip == idOf(b) || l[7] != "3 60" {
				t.Fatalf("%s, %s: %q", cut, on, l)
			}
		}
	}
}

// Whole runs: all that the bridge takes is passed, and the slim node is where the bridge is.
func TestRuns(t *testing.T) {
	for seed := range int64(4) {
		r := rand.New(rand.NewSource(seed))
		m := mint.NewModel()
		l := []string{fmt.Sprintf("new 8192 %d", 2*r.Intn(129))}
		want := []string{"ok"}
		for range 60 {
			b := m.Some(r.Intn)
			x, e := block.Put(b)
			if e != api.OK {
				continue
			}
			reply := m.Deliver(x)
			l = append(l, "bridge "+text(b))
			want = append(want, fmt.Sprintf("%d %d %d", reply.Said, reply.Why, reply.Height))
			if reply.Said != api.SaidNew {
				continue
			}
			if r.Intn(3) == 0 {
				l = append(l, "pass "+idOf(b)[2:])
				want = append(want, "error 2")
			}
			l = append(l, "pass "+idOf(b), "tips", "coins")
			tip, height := m.Tip()
			worth := uint64(0)
			for _, c := range m.Coins(m.Tree.Best()) {
				worth += c.Value
			}
			want = append(want, fmt.Sprintf("1 0 %d", height), fmt.Sprintf("%x %d %x %d", tip, height, tip, height), fmt.Sprintf("%d %d", len(m.Coins(m.Tree.Best())), worth))
			if r.Intn(4) == 0 {
				l = append(l, []string{"on slim 0 0", "on bridge 0 0"}[r.Intn(2)])
				want = append(want, "ok")
			}
		}
		tells(t, l, want)
		// P32.2: what is told of a part is the beginning of what is told of the whole.
		whole, _, _ := script.Run(lines(l...))
		for n := range len(l) {
			if n%7 != 0 {
				continue
			}
			if part, _, ok := script.Run(lines(l[:n]...)); !ok || !strings.HasPrefix(whole, part) {
				t.Fatalf("of %d lines other things are told", n)
			}
		}
	}
}
