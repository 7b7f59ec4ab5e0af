package lamp_test

import (
	"bytes"
	"slices"
	"testing"

	"moneyer/api"
	"moneyer/lamp"
	"moneyer/sha"
)

func join(parts ...[]byte) []byte { return bytes.Join(parts, nil) }

func hash(h api.Hash) []byte { return bytes.Clone(h[:]) }

func seeds() []api.Hash {
	return []api.Hash{{}, {1}, {31: 1}, sha.Sum([]byte("seed")), api.Hash(bytes.Repeat([]byte{255}, 32))}
}

func digests() []api.Hash {
	l := []api.Hash{{}, {0xff, 0xff, 0xff, 0xff}, {0xa5, 0x0f, 0x3c, 0x81}, api.Hash(bytes.Repeat([]byte{255}, 32)), sha.Sum([]byte("digest"))}
	for k := range 40 {
		var h api.Hash
		h[k/8] = 1 << (k % 8)
		l = append(l, h)
	}
	return l
}

// secretOf and hashOf say what the secrets of a seed are, and their hashes.
func secretOf(seed api.Hash, k, v int) []byte {
	return hash(sha.Sum(join(hash(seed), []byte{byte(k), byte(v)})))
}

func hashOf(seed api.Hash, k, v int) []byte { return hash(sha.Sum(secretOf(seed, k, v))) }

func bitOf(digest api.Hash, k int) int { return int(digest[k/8]>>(k%8)) & 1 }

func keyOf(seed api.Hash) api.Hash {
	var b []byte
	for k := range 32 {
		b = join(b, hashOf(seed, k, 0), hashOf(seed, k, 1))
	}
	return sha.Sum(b)
}

func sigOf(seed, digest api.Hash) []byte {
	var b []byte
	for k := range 32 {
		v := bitOf(digest, k)
		b = join(b, secretOf(seed, k, v), hashOf(seed, k, 1-v))
	}
	return b
}

func open(t *testing.T, sig []byte) ([]api.Hash, api.Errno) {
	t.Helper()
	l, e := lamp.Open(sig)
	if e != api.OK && len(l) != 0 {
		t.Errorf("Open = %x, %d", l, e)
	}
	return l, e
}

// The chapter's examples.
func TestExamples(t *testing.T) {
	var zero api.Hash
	sig := lamp.Sign(zero, zero)
	if len(sig) != 2048 {
		t.Errorf("Sign(zero, zero): %d bytes", len(sig))
	}
	if e := lamp.Check(lamp.Key(zero), zero, sig); e != api.OK {
		t.Errorf("Check of that: %d", e)
	}
	if e := lamp.Check(lamp.Key(zero), zero, nil); e != api.ErrForm {
		t.Errorf("Check of none: %d", e)
	}
	if v := lamp.Bit(api.Hash{2}, 1); v != 1 {
		t.Errorf("Bit = %d", v)
	}
}

// P13.1

func TestSecret(t *testing.T) {
	for _, seed := range seeds() {
		for k := range 256 {
			for _, v := range []int{0, 1, 2, 128, 255, (k * 7) % 256} {
				if s := lamp.Secret(seed, uint8(k), uint8(v)); !bytes.Equal(s[:], secretOf(seed, k, v)) {
					t.Errorf("Secret(%x, %d, %d) = %x", seed, k, v, s)
				}
			}
		}
		if key := lamp.Key(seed); key != keyOf(seed) {
			t.Errorf("Key(%x) = %x", seed, key)
		}
	}
}

func TestBit(t *testing.T) {
	for _, digest := range digests() {
		for k := range 256 {
			if v := lamp.Bit(digest, uint8(k)); int(v) != bitOf(digest, k%32) {
				t.Errorf("Bit(%x, %d) = %d", digest, k, v)
			}
		}
	}
}

func TestSign(t *testing.T) {
	for _, seed := range seeds() {
		for _, digest := range digests() {
			if sig := lamp.Sign(seed, digest); !bytes.Equal(sig, sigOf(seed, digest)) {
				t.Errorf("Sign(%x, %x) = %x", seed, digest, sig)
			}
		}
	}
}

// P13.2, and P13.3: what is signed holds of its key and digest.

func TestCheck(t *testing.T) {
	for _, seed := range seeds() {
		key := keyOf(seed)
		for _, digest := range digests() {
			sig := sigOf(seed, digest)
			if e := lamp.Check(key, digest, sig); e != api.OK {
				t.Errorf("Check of what is signed by %x: %d", seed, e)
			}
			for _, other := range digests() {
				// Just the first 32 bits of a digest count.
				same := bytes.Equal(digest[:4], other[:4])
				if e := lamp.Check(key, other, sig); (e == api.OK) != same || e != api.OK && e != api.ErrForm {
					t.Errorf("Check of %x by the signature of %x: %d", other, digest, e)
				}
			}
		}
	}
	seed, digest := seeds()[3], digests()[2]
	key, sig := keyOf(seed), sigOf(seed, digest)
	for i := range 32 {
		other := key
		other[i] ^= 1
		if e := lamp.Check(other, digest, sig); e != api.ErrForm {
			t.Errorf("Check of another key at %d: %d", i, e)
		}
	}
	for i := 0; i < len(sig); i += 5 {
		other := bytes.Clone(sig)
		other[i] ^= 128
		if e := lamp.Check(key, digest, other); e != api.ErrForm {
			t.Errorf("Check of another byte at %d: %d", i, e)
		}
	}
	for _, n := range []int{0, 1, 32, 2016, 2047} {
		if e := lamp.Check(key, digest, sig[:n]); e != api.ErrForm {
			t.Errorf("Check of %d bytes: %d", n, e)
		}
	}
	for _, more := range []int{1, 32, 64, 2048} {
		if e := lamp.Check(key, digest, join(sig, make([]byte, more))); e != api.ErrForm {
			t.Errorf("Check of %d bytes more: %d", more, e)
		}
	}
	if e := lamp.Check(sha.Sum(nil), digest, nil); e != api.ErrForm {
		t.Errorf("Check of none: %d", e)
	}
}

func TestOpen(t *testing.T) {
	for _, digest := range digests() {
		sig := sigOf(seeds()[3], digest)
		l, e := open(t, sig)
		var want []api.Hash
		for k := range 32 {
			want = append(want, api.Hash(secretOf(seeds()[3], k, bitOf(digest, k))))
		}
		if !slices.Equal(l, want) || e != api.OK {
			t.Errorf("Open = %x, %d", l, e)
		}
	}
	// Whether it holds is not asked.
	if l, e := open(t, make([]byte, 2048)); !slices.Equal(l, make([]api.Hash, 32)) || e != api.OK {
		t.Errorf("Open of noughts = %x, %d", l, e)
	}
	for _, n := range []int{0, 1, 64, 1024, 2047, 2049, 4096} {
		if _, e := open(t, make([]byte, n)); e != api.ErrForm {
			t.Errorf("Open of %d bytes: %d", n, e)
		}
	}
}

// P13.3: of a digest with another bit another secret is opened there.
func TestAnotherBitOpensAnother(t *testing.T) {
	seed := seeds()[3]
	for k := range 32 {
		a := digests()[2]
		b := a
		b[k/8] ^= 1 << (k % 8)
		one, _ := open(t, lamp.Sign(seed, a))
		other, _ := open(t, lamp.Sign(seed, b))
		for i := range 32 {
			if (one[i] != other[i]) != (i == k) {
				t.Errorf("bit %d, secret %d", k, i)
			}
		}
	}
}

// The rules that hold everywhere: what is handed in stays as it is, what is answered is new memory.
func TestMemory(t *testing.T) {
	seed, digest := seeds()[3], digests()[2]
	want := sigOf(seed, digest)
	room := join(want, []byte{1, 2, 3})
	was := bytes.Clone(room)
	lamp.Check(keyOf(seed), digest, room[:2048])
	one, _ := lamp.Open(room[:2048])
	two, _ := lamp.Open(room[:2048])
	for i := range one[:cap(one)] {
		one[:cap(one)][i] = api.Hash{}
	}
	a, b := lamp.Sign(seed, digest), lamp.Sign(seed, digest)
	for i := range a[:cap(a)] {
		a[:cap(a)][i] ^= 255
	}
	if !bytes.Equal(room, was) || !bytes.Equal(b, want) || !bytes.Equal(two[0][:], want[:32]) {
		t.Error("memory is shared")
	}
}
