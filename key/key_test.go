package key_test

import (
	"bytes"
	"crypto/sha256"
	"math"
	"slices"
	"strconv"
	"testing"

	"ostler/api"
	"ostler/key"
	"ostler/merkle"
	"ostler/ots"
)

var seed = api.Hash(sha256.Sum256([]byte("seed")))

func leaves() []api.Hash {
	l := make([]api.Hash, api.Leaves)
	for i := range l {
		l[i] = ots.Public(seed, i)
	}
	return l
}

func sign(t *testing.T, k *key.Key, m string) api.Sig {
	t.Helper()
	s, err := k.Sign([]byte(m))
	if err != api.OK {
		t.Fatal(err)
	}
	return s
}

// P5.1: how many are used is held within 0 and Leaves.
func TestNewHoldsUsed(t *testing.T) {
	for used, want := range map[int]int{0: 0, 1: 1, 15: 15, 16: 16, 17: 16, math.MaxInt: 16, -1: 0, math.MinInt: 0} {
		if got := key.New(seed, used).Used(); got != want {
			t.Error(used, got)
		}
	}
}

// P5.1: Public is told from all leaves, whatever is used.
func TestPublic(t *testing.T) {
	root := merkle.Root(leaves())
	want := api.Hash(sha256.Sum256(append([]byte{4}, root[:]...)))
	for _, used := range []int{0, 3, 16} {
		if key.New(seed, used).Public() != want {
			t.Error(used)
		}
	}
	k := key.New(seed, 14)
	sign(t, k, "a")
	if k.Public() != want || key.New(api.Hash{}, 0).Public() == want {
		t.Error("another one")
	}
}

// P5.1, P5.3: one leaf behind the other, each once, each Verified; then ErrUsed.
func TestSignUsesLeaves(t *testing.T) {
	for from := range api.Leaves + 1 {
		k := key.New(seed, from)
		for i := from; i < api.Leaves; i++ {
			m := strconv.Itoa(i)
			s := sign(t, k, m)
			if s.Leaf != i || k.Used() != i+1 {
				t.Fatal(from, i, s.Leaf, k.Used())
			}
			if !slices.Equal(s.Chains, ots.Sign(seed, i, []byte(m))) || !slices.Equal(s.Path, merkle.Path(leaves(), i)) {
				t.Fatal(from, i)
			}
			if !key.Verify(k.Public(), []byte(m), s) {
				t.Fatal(from, i)
			}
		}
		for range 2 {
			if s, err := k.Sign(nil); err != api.ErrUsed || !key.Same(s, api.Sig{}) || k.Used() != api.Leaves {
				t.Error(from, err, k.Used())
			}
		}
	}
}

// The chapter's example.
func TestExample(t *testing.T) {
	if _, err := key.New(seed, 16).Sign([]byte("m")); err != api.ErrUsed {
		t.Error(err)
	}
}

// spoilt is signatures that may not be.
func spoilt(s api.Sig) []api.Sig {
	with := func(leaf int, chains, path []api.Hash) api.Sig {
		return api.Sig{Leaf: leaf, Chains: chains, Path: path}
	}
	more := func(l []api.Hash) []api.Hash { return append(slices.Clone(l), api.Hash{}) }
	return []api.Sig{
		{},
		with(-1, s.Chains, s.Path),
		with(16, s.Chains, s.Path),
		with(math.MaxInt, s.Chains, s.Path),
		with(math.MinInt, s.Chains, s.Path),
		with(0, nil, s.Path),
		with(0, s.Chains, nil),
		with(0, s.Chains[1:], s.Path),
		with(0, more(s.Chains), s.Path),
		with(0, s.Chains, s.Path[1:]),
		with(0, s.Chains, more(s.Path)),
	}
}

// P5.2: what may not be is not Verified, has no bytes.
func TestIs(t *testing.T) {
	k := key.New(seed, 0)
	s := sign(t, k, "m")
	for i, x := range spoilt(s) {
		if key.Is(x) || key.Verify(k.Public(), []byte("m"), x) {
			t.Error(i)
		}
		if b, err := key.Encode(x); err != api.ErrArg || len(b) != 0 {
			t.Error(i, err)
		}
	}
	for leaf := range api.Leaves {
		s.Leaf = leaf
		if !key.Is(s) {
			t.Error(leaf)
		}
		if key.Verify(k.Public(), []byte("m"), s) != (leaf == 0) {
			t.Error("Verify by another leaf", leaf)
		}
	}
}

// P5.2: Verify of other bytes, other keys, other digests.
func TestVerify(t *testing.T) {
	k := key.New(seed, 5)
	s := sign(t, k, "message")
	p := k.Public()
	if !key.Verify(p, []byte("message"), s) || key.Verify(p, []byte("massage"), s) || key.Verify(p, nil, s) || key.Verify(api.Hash{}, []byte("message"), s) {
		t.Error("Verify")
	}
	for _, l := range [][]api.Hash{s.Chains, s.Path} {
		for i := range l {
			l[i][i%32] ^= 128
			if key.Verify(p, []byte("message"), s) {
				t.Error(i)
			}
			l[i][i%32] ^= 128
		}
	}
	s2 := sign(t, key.New(seed, 0), "")
	if !key.Verify(p, nil, s2) || !key.Verify(p, []byte{}, s2) {
		t.Error("nothing is signed, too")
	}
}

// P5.2: Encode by chapter 1, and back.
func TestEncode(t *testing.T) {
	for leaf := range api.Leaves {
		s := sign(t, key.New(seed, leaf), "m")
		b, err := key.Encode(s)
		want := []byte{byte(leaf)}
		for _, h := range append(slices.Clone(s.Chains), s.Path...) {
			want = append(want, h[:]...)
		}
		if err != api.OK || !bytes.Equal(b, want) {
			t.Fatal(leaf, err)
		}
		d, err := key.Decode(b)
		if err != api.OK || !key.Same(d, s) || !key.Verify(key.New(seed, 0).Public(), []byte("m"), d) {
			t.Fatal(leaf, err)
		}
	}
}

// P5.2: what is not just Encode of one.
func TestDecodeOfOthers(t *testing.T) {
	b, _ := key.Encode(sign(t, key.New(seed, 1), "m"))
	for i, x := range [][]byte{
		nil, {}, {1}, b[1:], b[:len(b)-1], b[:len(b)-32], append(slices.Clone(b), 0),
		append(slices.Clone(b), make([]byte, 32)...),
		append([]byte{16}, b[1:]...),
		append([]byte{255}, b[1:]...),
		append([]byte{0x81, 0}, b[1:]...),
		append([]byte{0x81, 1}, b[1:]...),
	} {
		if s, err := key.Decode(x); err != api.ErrForm || !key.Same(s, api.Sig{}) || s.Chains != nil || s.Path != nil {
			t.Error(i, err)
		}
	}
}

// P5.2: Same holds all fields against each other.
func TestSame(t *testing.T) {
	s := sign(t, key.New(seed, 2), "m")
	o := api.Sig{Leaf: s.Leaf, Chains: slices.Clone(s.Chains), Path: slices.Clone(s.Path)}
	if !key.Same(s, o) || !key.Same(api.Sig{}, api.Sig{Chains: []api.Hash{}, Path: []api.Hash{}}) {
		t.Error("alike")
	}
	o.Leaf++
	if key.Same(s, o) {
		t.Error("Leaf")
	}
	o.Leaf--
	o.Chains[35][31]++
	if key.Same(s, o) {
		t.Error("Chains")
	}
	o.Chains[35][31]--
	o.Path[0][0]++
	if key.Same(s, o) {
		t.Error("Path")
	}
	o.Path = s.Path[:3]
	if key.Same(s, o) || key.Same(api.Sig{}, s) {
		t.Error("fewer")
	}
}

// P5.3, W8: a nil key.
func TestNilKey(t *testing.T) {
	var k *key.Key
	if s, err := k.Sign([]byte("m")); err != api.ErrArg || !key.Same(s, api.Sig{}) {
		t.Error(err)
	}
	if k.Public() != (api.Hash{}) || k.Used() != 0 {
		t.Error("a nil Key has something")
	}
}

// W6, W7: what is answered is new, and stays; what is handed in is left alone.
func TestNothingIsShared(t *testing.T) {
	k := key.New(seed, 3)
	public := k.Public()
	room := []byte("message and room")
	s, _ := k.Sign(room[:7])
	b, _ := key.Encode(s)
	d, _ := key.Decode(b)
	clear(b)
	if !key.Same(s, d) || string(room) != "message and room" {
		t.Error("changed")
	}
	_ = append(d.Chains, api.Hash{9})
	if !key.Same(s, d) {
		t.Error("lists of one answer share")
	}
	clear(s.Chains)
	clear(s.Path)
	if !key.Verify(public, room[:7], d) || k.Public() != public {
		t.Error("kept")
	}
	if s := sign(t, k, "next"); !key.Verify(public, []byte("next"), s) {
		t.Error("kept")
	}
}

// Ways: Sign as a method value signs by the key that it was taken of.
func TestSignAsValue(t *testing.T) {
	k := key.New(seed, 0)
	by := k.Sign
	a, _ := by([]byte("a"))
	b, _ := by([]byte("b"))
	if a.Leaf != 0 || b.Leaf != 1 || k.Used() != 2 {
		t.Error(a.Leaf, b.Leaf)
	}
}
