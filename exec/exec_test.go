package exec_test

import (
	"bytes"
	"encoding/hex"
	"math"
	"math/rand"
	"slices"
	"strings"
	"testing"

	"moneyer/api"
	"moneyer/cell"
	"moneyer/code"
	"moneyer/exec"
	"moneyer/lamp"
	"moneyer/sha"
)

var ops = map[string]uint8{
	"if": api.OpIf, "else": api.OpElse, "end": api.OpEnd, "verify": api.OpVerify, "fail": api.OpFail, "dup": api.OpDup, "drop": api.OpDrop, "swap": api.OpSwap, "size": api.OpSize, "equal": api.OpEqual,
	"not": api.OpNot, "add": api.OpAdd, "sub": api.OpSub, "mul": api.OpMul, "less": api.OpLess, "sum": api.OpSum, "twice": api.OpTwice, "lamp": api.OpLamp, "height": api.OpHeight,
}

// script takes words: an op's name, or the bytes that are pushed, hexadecimal, - of none.
func script(t *testing.T, text string) []api.Step {
	t.Helper()
	var l []api.Step
	for _, w := range strings.Fields(text) {
		if op, ok := ops[w]; ok {
			l = append(l, api.Step{Op: op})
			continue
		}
		b, err := hex.DecodeString(strings.Trim(w, "-"))
		if err != nil {
			t.Fatal(err)
		}
		l = append(l, api.Step{Op: api.OpPush, Push: b})
	}
	return l
}

func put(t *testing.T, l []api.Step) []byte {
	t.Helper()
	b, e := code.Put(l)
	if e != api.OK {
		t.Fatal(e)
	}
	return b
}

func cells(t *testing.T, text string) [][]byte {
	t.Helper()
	var l [][]byte
	for _, s := range script(t, text) {
		l = append(l, s.Push)
	}
	return l
}

func same(a, b [][]byte) bool { return slices.EqualFunc(a, b, bytes.Equal) }

func steps(t *testing.T, l []api.Step, stack [][]byte, env api.Env) ([][]byte, api.Errno) {
	t.Helper()
	got, e := exec.Steps(l, stack, env)
	if e != api.OK && (len(got) != 0 || e != api.ErrScript) {
		t.Errorf("Steps = %x, %d", got, e)
	}
	return got, e
}

func hexOf(b []byte) string { return hex.EncodeToString(b) }

func hashOf(b ...byte) string { h := sha.Sum(b); return hexOf(h[:]) }

func twiceOf(b ...byte) string { h := sha.Twice(b); return hexOf(h[:]) }

// The chapter's examples.
func TestExamples(t *testing.T) {
	lock := put(t, script(t, "sum "+hashOf(7)+" equal"))
	for i, c := range []struct {
		unlock, lock []byte
		e            api.Errno
	}{
		{put(t, script(t, "07")), lock, api.OK},
		{put(t, script(t, "08")), lock, api.ErrScript},
		{nil, nil, api.ErrScript},
		{nil, put(t, script(t, "01")), api.OK},
		{put(t, script(t, "dup")), put(t, script(t, "01")), api.ErrForm},
	} {
		if e := exec.Run(c.unlock, c.lock, api.Env{}); e != c.e {
			t.Errorf("%d: Run: %d, not %d", i, e, c.e)
		}
	}
	if s, e := steps(t, script(t, "if end"), cells(t, "01"), api.Env{}); len(s) != 0 || e != api.OK {
		t.Errorf("Steps(if end) = %x, %d", s, e)
	}
	if exec.Sound(script(t, "if else else end")) {
		t.Error("Sound(if else else end)")
	}
}

// P14.1

func TestRun(t *testing.T) {
	for _, c := range []struct {
		unlock, lock string
		e            api.Errno
	}{
		{"", "01", 0}, {"01", "", 0}, {"", "00000001", 0}, {"", "80", 0},
		{"", "-", api.ErrScript}, {"", "00", api.ErrScript}, {"-", "", api.ErrScript}, {"00000000", "", api.ErrScript},
		{"01", "01", api.ErrScript}, {"01 01", "", api.ErrScript}, {"- 01", "", api.ErrScript}, {"01 01", "drop", 0}, {"", "", api.ErrScript},
		{"", "fail 01", api.ErrScript}, {"01", "fail", api.ErrScript}, {"", "drop", api.ErrScript}, {"01", "verify", api.ErrScript}, {"01 01", "verify", 0},
		{"05 06", "add 0b equal", 0}, {"05 06", "add 0c equal", api.ErrScript},
		{"01", "if 01 else - end", 0}, {"-", "if 01 else - end", api.ErrScript}, {"-", "if - else 01 end", 0},
		{"01", "end", api.ErrScript}, {"01", "if 01", api.ErrScript}, {"-", "if else 01", api.ErrScript},
		// Parts belong together within the lock.
		{"01 01", "if", api.ErrScript},
		{"dup", "", api.ErrForm}, {"01 dup", "drop", api.ErrForm}, {"if end", "01", api.ErrForm}, {"01 fail", "01", api.ErrForm}, {"height", "fail", api.ErrForm},
	} {
		if e := exec.Run(put(t, script(t, c.unlock)), put(t, script(t, c.lock)), api.Env{}); e != c.e {
			t.Errorf("Run(%s, %s): %d, not %d", c.unlock, c.lock, e, c.e)
		}
	}
	one := put(t, script(t, "01"))
	for _, bad := range [][]byte{{255}, {2, 1}, {128}, {128, 5, 0}, slices.Repeat([]byte{0}, 201)} {
		for _, other := range [][]byte{nil, one, put(t, script(t, "fail")), {133}, {255}} {
			if e := exec.Run(bad, other, api.Env{}); e != api.ErrForm {
				t.Errorf("Run(%x, %x): %d", bad, other, e)
			}
			if e := exec.Run(other, bad, api.Env{}); e != api.ErrForm {
				t.Errorf("Run(%x, %x): %d", other, bad, e)
			}
		}
	}
	// 200 steps of each are a script; the stack is one.
	fill := slices.Repeat([]api.Step{{Op: api.OpPush}}, 64)
	drops := func(n int) []api.Step { return append(slices.Repeat(script(t, "drop"), n), script(t, "not")...) }
	for _, c := range []struct {
		unlock, lock []api.Step
		e            api.Errno
	}{
		{fill, drops(63), api.OK},
		{append(slices.Clone(fill), fill[0]), drops(64), api.ErrScript},
		// What the unlock pushed counts for what the lock may push.
		{fill, append(slices.Clone(fill[:1]), drops(64)...), api.ErrScript},
		{fill[:63], append(slices.Clone(fill[:1]), drops(63)...), api.OK},
		{slices.Repeat(fill[:1], 200), nil, api.ErrScript},
		{slices.Repeat(fill[:1], 65), script(t, "01"), api.ErrScript},
		{fill[:1], append(slices.Repeat(script(t, "dup drop"), 99), script(t, "not dup")...), api.ErrScript},
		{fill[:2], append(slices.Repeat(script(t, "dup drop"), 99), script(t, "drop not")...), api.OK},
	} {
		if e := exec.Run(put(t, c.unlock), put(t, c.lock), api.Env{}); e != c.e {
			t.Errorf("Run of %d and %d steps: %d, not %d", len(c.unlock), len(c.lock), e, c.e)
		}
	}
}

// P14.2: each step.

func TestEachStep(t *testing.T) {
	seed := api.Hash{5}
	digest := api.Hash{0x5a, 0xc3, 0x0f, 0x99}
	key := lamp.Key(seed)
	sig := lamp.Sign(seed, digest)
	env := api.Env{Height: 300, Digest: digest}
	for _, c := range []struct{ steps, stack, want string }{
		{"", "", ""}, {"", "05 -", "05 -"},
		{"07", "01", "01 07"}, {"-", "", "-"},
		{"if 05 end", "01", "05"}, {"if 05 end", "-", ""}, {"if 05 end", "0000", ""}, {"if 05 end", "0080", "05"},
		{"if 05 else 06 end", "09 01", "09 05"}, {"if 05 else 06 end", "09 -", "09 06"}, {"if else 06 end", "01", ""}, {"if 05 else end", "-", ""}, {"if else end", "-", ""},
		{"verify", "07 01", "07"}, {"verify", "07 -", "fails"}, {"verify", "07 00", "fails"},
		{"fail", "01", "fails"}, {"fail", "", "fails"},
		{"dup", "06 05", "06 05 05"}, {"drop", "06 05", "06"}, {"swap", "07 06 05", "07 05 06"},
		{"size", "06 -", "06 - -"}, {"size", "010203", "010203 03"}, {"size", strings.Repeat("00", 128), strings.Repeat("00", 128) + " 8000"}, {"size", strings.Repeat("00", 3000), strings.Repeat("00", 3000) + " b80b"},
		{"equal", "09 05 05", "09 01"}, {"equal", "09 05 06", "09 -"}, {"equal", "- -", "01"}, {"equal", "- 00", "-"}, {"equal", "0500 05", "-"},
		{"not", "09 05", "09 -"}, {"not", "-", "01"}, {"not", "0000", "01"}, {"not", "0001", "-"},
		{"add", "09 05 06", "09 0b"}, {"add", "- -", "-"}, {"add", "7f 01", "8000"}, {"add", "ff 01", "-"}, {"add", "ffffffffffffff7f 01", "fails"}, {"add", "0000000000000080 ff", "fails"},
		{"sub", "09 05 06", "09 ff"}, {"sub", "06 05", "01"}, {"sub", "0000000000000080 01", "fails"}, {"sub", "- 80", "8000"},
		{"mul", "09 05 06", "09 1e"}, {"mul", "ff 05", "fb"}, {"mul", "0000000000000040 02", "fails"}, {"mul", "0000000000000040 fe", "0000000000000080"},
		{"less", "09 05 06", "09 01"}, {"less", "06 05", "-"}, {"less", "05 05", "-"}, {"less", "ff -", "01"}, {"less", "8000 7f", "-"},
		{"sum", "09 07", "09 " + hashOf(7)}, {"sum", "-", hashOf()}, {"twice", "09 07", "09 " + twiceOf(7)}, {"twice", "-", twiceOf()},
		{"lamp", "09 " + hexOf(sig) + " " + hexOf(key[:]), "09 01"}, {"lamp", hexOf(key[:]) + " " + hexOf(sig), "-"},
		{"lamp", hexOf(sig) + " " + hexOf(key[:31]), "-"}, {"lamp", hexOf(sig) + " " + hexOf(key[:]) + "00", "-"}, {"lamp", hexOf(sig) + " -", "-"},
		{"lamp", hexOf(sig[1:]) + " " + hexOf(key[:]), "-"}, {"lamp", "- " + hexOf(key[:]), "-"}, {"lamp", "- -", "-"},
		{"height", "07 2c01", "07"}, {"height", "07 2d01", "fails"}, {"height", "07 -", "07"}, {"height", "80", ""}, {"height", "0000000000000080", ""}, {"height", "ffffffffffffff7f", "fails"},
		// Numbers that are none.
		{"add", "00 01", "fails"}, {"add", "01 00", "fails"}, {"sub", "7f00 01", "fails"}, {"mul", "01 ffff", "fails"}, {"less", "00 01", "fails"}, {"less", "01 000000000000000000", "fails"}, {"height", "00", "fails"}, {"height", "000000000000000001", "fails"},
		// A part that is passed over is looked at just for its parts.
		{"if fail end", "-", ""}, {"if 00 height add drop drop drop verify fail else 05 end", "-", "05"}, {"if 05 else fail drop end", "01", "05"},
		{"if if 05 else 06 end else 07 end", "-", "07"}, {"if if 05 else 06 end else 07 end", "- 01", "06"}, {"if if 05 else 06 end else 07 end", "01 01", "05"},
		{"if if if 05 end else 06 end 08 else 07 if 09 end end 0a", "- -", "- 09 0a"}, {"if 05 else if 06 else 07 end end", "- -", "07"}, {"if 05 else if 06 else 07 end end 01", "- 01", "- 05 01"},
		{"if 05 end if 06 end", "- 01", "- 06"}, {"if 05 end if 06 end 07", "01 -", "06 07"},
		// Parts that do not belong together.
		{"else", "01", "fails"}, {"end", "01", "fails"}, {"if", "01", "fails"}, {"if", "-", "fails"}, {"if else", "-", "fails"}, {"if else else end", "01", "fails"}, {"if else else end", "-", "fails"},
		{"if if else else end end", "-", "fails"}, {"if if end", "-", "fails"}, {"if end end", "01", "fails"}, {"end if", "01", "fails"}, {"if end else", "01", "fails"}, {"01 if else 02 else end", "", "fails"},
	} {
		got, e := steps(t, script(t, c.steps), cells(t, c.stack), env)
		if c.want == "fails" {
			if e != api.ErrScript {
				t.Errorf("Steps(%s, %.80s) = %x, %d", c.steps, c.stack, got, e)
			}
			continue
		}
		if !same(got, cells(t, c.want)) || e != api.OK {
			t.Errorf("Steps(%s, %.80s) = %x, %d", c.steps, c.stack, got, e)
		}
	}
	if got, e := steps(t, script(t, "lamp"), [][]byte{sig, key[:]}, api.Env{Digest: api.Hash{1}}); !same(got, [][]byte{nil}) || e != api.OK {
		t.Errorf("lamp of another digest = %x, %d", got, e)
	}
	for _, h := range []uint32{0, 127, 128, 1 << 31, math.MaxUint32} {
		n := int64(h)
		for d := int64(-1); d <= 1; d++ {
			_, e := steps(t, script(t, "height"), [][]byte{cell.Bytes(n + d)}, api.Env{Height: h})
			if (e == api.OK) != (d <= 0) {
				t.Errorf("height %d at %d: %d", n+d, h, e)
			}
		}
	}
}

// Each step fails, if it finds fewer cells than it pops, and finds them among more.
func TestTooFewCells(t *testing.T) {
	needs := map[string]int{"if end": 1, "verify": 1, "dup": 1, "drop": 1, "swap": 2, "size": 1, "equal": 2, "not": 1, "add": 2, "sub": 2, "mul": 2, "less": 2, "sum": 1, "twice": 1, "lamp": 2, "height": 1, "07": 0}
	for text, n := range needs {
		for many := range 5 {
			stack := slices.Repeat([][]byte{{1}}, many)
			if _, e := steps(t, script(t, text), stack, api.Env{Height: 1}); (e == api.OK) != (many >= n) {
				t.Errorf("%s upon %d cells: %d", text, many, e)
			}
		}
	}
}

func TestLimits(t *testing.T) {
	full := slices.Repeat([][]byte{{1}}, 64)
	for text, ok := range map[string]bool{"": true, "07": false, "dup": false, "size": false, "drop 07": true, "drop dup": true, "drop dup dup": false, "swap": true, "equal 07": true, "equal 07 07": false, "sum": true, "if 07 end": true, "if 07 07 end": false} {
		if _, e := steps(t, script(t, text), full, api.Env{}); (e == api.OK) != ok {
			t.Errorf("%s upon 64 cells: %d", text, e)
		}
	}
	for _, text := range []string{"", "drop", "drop drop drop"} {
		if _, e := steps(t, script(t, text), slices.Repeat([][]byte{{1}}, 65), api.Env{}); e != api.ErrScript {
			t.Errorf("%s upon 65 cells: %d", text, e)
		}
		for _, at := range []int{0, 1, 2} {
			stack := [][]byte{{1}, {1}, {1}}
			stack[at] = make([]byte, 3001)
			if _, e := steps(t, script(t, text), stack, api.Env{}); e != api.ErrScript {
				t.Errorf("%s upon a long cell: %d", text, e)
			}
			stack[at] = make([]byte, 3000)
			if _, e := steps(t, script(t, text), stack, api.Env{}); e != api.OK {
				t.Errorf("%s upon a cell of 3000 bytes: %d", text, e)
			}
		}
	}
	push := api.Step{Op: api.OpPush}
	drop := api.Step{Op: api.OpDrop}
	long := slices.Repeat([]api.Step{push, drop}, 100)
	if _, e := steps(t, long, nil, api.Env{}); e != api.OK {
		t.Errorf("200 steps: %d", e)
	}
	if _, e := steps(t, append(long, push), nil, api.Env{}); e != api.ErrScript {
		t.Errorf("201 steps: %d", e)
	}
	// A step that may not be fails wherever it stands, also where it would be passed over.
	for _, bad := range []api.Step{{}, {Op: 21}, {Op: 255}, {Op: api.OpDup, Push: []byte{1}}, {Op: api.OpPush, Push: make([]byte, 3001)}} {
		skipped := script(t, "- if 01 else 02 end")
		skipped[2] = bad
		for i, l := range [][]api.Step{{bad}, {push, bad}, {bad, push}, skipped} {
			if _, e := steps(t, l, [][]byte{{1}, {1}}, api.Env{}); e != api.ErrScript {
				t.Errorf("%d: a step %d: %d", i, bad.Op, e)
			}
		}
	}
}

// model runs a script another way: it is taken apart into parts first.
type model struct {
	l   []api.Step
	env api.Env
}

// run runs steps from i on up to an else or an end of its own, if live, and answers where that stands.
func (m model) run(i int, stack [][]byte, live bool) (int, [][]byte, bool) {
	for ; i < len(m.l); i++ {
		s := m.l[i]
		switch s.Op {
		case api.OpElse, api.OpEnd:
			return i, stack, true
		case api.OpIf:
			is := false
			if live {
				if len(stack) == 0 {
					return 0, nil, false
				}
				is = cell.True(stack[len(stack)-1])
				stack = stack[:len(stack)-1]
			}
			ok := true
			if i, stack, ok = m.run(i+1, stack, live && is); !ok || i >= len(m.l) {
				return 0, nil, false
			}
			if m.l[i].Op == api.OpElse {
				if i, stack, ok = m.run(i+1, stack, live && !is); !ok || i >= len(m.l) || m.l[i].Op == api.OpElse {
					return 0, nil, false
				}
			}
		default:
			if !live {
				continue
			}
			var e api.Errno
			if stack, e = exec.Steps(m.l[i:i+1], stack, m.env); e != api.OK {
				return 0, nil, false
			}
		}
	}
	return i, stack, true
}

func soundOf(text string) bool {
	was := ""
	for was != text {
		was = text
		text = strings.ReplaceAll(strings.ReplaceAll(text, "ien", ""), "in", "")
	}
	return text == ""
}

// Parts within parts, at random, held against the model; and P14.3: what does not fail is sound, and the parts are the whole.
func TestParts(t *testing.T) {
	r := rand.New(rand.NewSource(1))
	words := strings.Fields("if else end if else end if else end 01 - 01 - dup drop not")
	fine, sound := 0, 0
	for range 60000 {
		var l []api.Step
		short := ""
		for range r.Intn(12) {
			w := words[r.Intn(len(words))]
			l = append(l, script(t, w)...)
			switch w {
			case "if":
				short += "i"
			case "else":
				short += "e"
			case "end":
				short += "n"
			}
		}
		stack := cells(t, strings.Join([]string{"01 - 01", "- - - -", "01 01", "-", ""}[r.Intn(5):][:1], " "))
		at, want, ok := model{l: l}.run(0, stack, true)
		ok = ok && at == len(l)
		got, e := steps(t, l, stack, api.Env{})
		if (e == api.OK) != ok || ok && !same(got, want) {
			t.Fatalf("Steps(%v, %x) = %x, %d, not %x, %t", l, stack, got, e, want, ok)
		}
		is := exec.Sound(l)
		if is != soundOf(short) {
			t.Fatalf("Sound(%v) = %t", l, is)
		}
		if ok && !is {
			t.Fatalf("Steps(%v) does not fail, and is not sound", l)
		}
		if ok {
			fine++
		}
		if is && ok {
			for cut := range len(l) + 1 {
				if !exec.Sound(l[:cut]) || !exec.Sound(l[cut:]) {
					continue
				}
				sound++
				mid, e1 := steps(t, l[:cut], stack, api.Env{})
				end, e2 := steps(t, l[cut:], mid, api.Env{})
				if e1 != api.OK || e2 != api.OK || !same(end, got) {
					t.Fatalf("Steps(%v), cut at %d: %d, %d, %x", l, cut, e1, e2, end)
				}
			}
		}
	}
	if fine < 1000 || sound < 1000 {
		t.Errorf("just %d do not fail, %d are cut", fine, sound)
	}
}

func TestSound(t *testing.T) {
	for _, text := range []string{"", "01 dup fail", "if end", "if else end", "if if end else if else end end if end", "01 if drop else fail end"} {
		if !exec.Sound(script(t, text)) {
			t.Errorf("%s is not sound", text)
		}
	}
	for _, text := range []string{"if", "else", "end", "end if", "else end", "if else", "if end end", "if end else", "if else end else", "if if end", "if if else else end end", "if else if end else end"} {
		if exec.Sound(script(t, text)) {
			t.Errorf("%s is sound", text)
		}
	}
	// How many there are, and whether they may be, is not asked.
	if !exec.Sound(slices.Repeat(script(t, "if end"), 5000)) || !exec.Sound([]api.Step{{Op: 0}, {Op: 99}}) || !exec.Sound(append(slices.Repeat(script(t, "if"), 5000), slices.Repeat(script(t, "end"), 5000)...)) {
		t.Error("a long one is not sound")
	}
}

// The rules that hold everywhere: what is handed in stays as it is, what is answered is new memory.
func TestMemory(t *testing.T) {
	overwrite := func(l [][]byte) {
		for i, b := range l[:cap(l)] {
			for k := range b[:cap(b)] {
				b[:cap(b)][k] ^= 255
			}
			l[:cap(l)][i] = []byte{99}
		}
	}
	room := bytes.Repeat([]byte{1, 2, 3, 4, 5}, 20)
	was := bytes.Clone(room)
	whole := [][]byte{room[:3], room[3:5], room[5:9], room[9:10], {1}, {2}}
	copyOf := func(l [][]byte) [][]byte {
		var c [][]byte
		for _, b := range l {
			c = append(c, bytes.Clone(b))
		}
		return c
	}
	wasWhole := copyOf(whole)
	pushed := append(make([]api.Step, 0, 9), api.Step{Op: api.OpPush, Push: room[20:25]})
	for _, text := range []string{"", "swap", "dup", "dup dup swap", "size", "07", "drop", "01 if drop end"} {
		l := slices.Concat(pushed, script(t, text))[1:]
		if text == "07" {
			l = pushed
		}
		one, _ := exec.Steps(l, whole[:4], api.Env{})
		two, _ := exec.Steps(l, whole[:4], api.Env{})
		want := copyOf(two)
		// No two cells of one answer share memory either.
		for i := range one {
			keep := copyOf(one)
			for k := range one[i][:cap(one[i])] {
				one[i][:cap(one[i])][k] ^= 255
			}
			for k := range one {
				if k != i && !bytes.Equal(one[k], keep[k]) {
					t.Errorf("%s: cells %d and %d share memory", text, i, k)
				}
			}
		}
		overwrite(one)
		if !same(two, want) || !bytes.Equal(room, was) || !same(whole, wasWhole) {
			t.Errorf("%s: memory is shared", text)
		}
	}
	unlock, lock := put(t, script(t, "01 02 03")), put(t, script(t, "drop drop dup swap drop"))
	a, b := append(bytes.Clone(unlock), 9, 9), append(bytes.Clone(lock), 9, 9)
	if e := exec.Run(a[:len(unlock)], b[:len(lock)], api.Env{}); e != api.OK {
		t.Errorf("Run: %d", e)
	}
	if !bytes.Equal(a[:len(unlock)], unlock) || !bytes.Equal(b[:len(lock)], lock) || a[len(unlock)] != 9 || b[len(lock)] != 9 {
		t.Error("what was run has changed")
	}
}
