package merkle_test

import (
	"bytes"
	"crypto/sha256"
	"math"
	"slices"
	"testing"

	"ostler/api"
	"ostler/merkle"
)

func node(a, b api.Hash) api.Hash {
	return sha256.Sum256(bytes.Join([][]byte{{3}, a[:], b[:]}, nil))
}

func leaves(n int) []api.Hash {
	l := make([]api.Hash, n)
	for i := range l {
		l[i] = sha256.Sum256([]byte{byte(i), byte(i >> 8)})
	}
	return l
}

// half is told by trying: the greatest power of two below n.
func half(n int) int {
	k := 1
	for 2*k < n {
		k *= 2
	}
	return k
}

func root(l []api.Hash) api.Hash {
	if len(l) == 1 {
		return l[0]
	}
	k := half(len(l))
	return node(root(l[:k]), root(l[k:]))
}

func path(l []api.Hash, i int) []api.Hash {
	if len(l) == 1 {
		return nil
	}
	if k := half(len(l)); i < k {
		return append(path(l[:k], i), root(l[k:]))
	} else {
		return append(path(l[k:], i-k), root(l[:k]))
	}
}

// P4.1: Node, in its order.
func TestNode(t *testing.T) {
	l := leaves(2)
	if merkle.Node(l[0], l[1]) != node(l[0], l[1]) || merkle.Node(l[1], l[0]) != node(l[1], l[0]) || merkle.Node(l[0], l[1]) == merkle.Node(l[1], l[0]) {
		t.Error("Node")
	}
}

// P4.1: none, one, the chapter's example, and many.
func TestRoot(t *testing.T) {
	l := leaves(300)
	if merkle.Root(nil) != (api.Hash{}) || merkle.Root([]api.Hash{}) != (api.Hash{}) || merkle.Root(l[:1]) != l[0] {
		t.Error("none, or one")
	}
	if merkle.Root(l[:3]) != node(node(l[0], l[1]), l[2]) {
		t.Error("a b c")
	}
	if merkle.Root(l[:6]) != node(node(node(l[0], l[1]), node(l[2], l[3])), node(l[4], l[5])) {
		t.Error("six")
	}
	for n := 1; n <= len(l); n++ {
		if merkle.Root(l[:n]) != root(l[:n]) {
			t.Fatal(n)
		}
	}
}

// P4.1: the other halves, from the leaf up; nothing of no place.
func TestPath(t *testing.T) {
	l := leaves(70)
	if got := merkle.Path(l[:3], 0); !slices.Equal(got, []api.Hash{l[1], l[2]}) {
		t.Error("a of a b c")
	}
	if got := merkle.Path(l[:3], 2); !slices.Equal(got, []api.Hash{node(l[0], l[1])}) {
		t.Error("c of a b c")
	}
	for n := range 70 {
		for i := range n {
			if !slices.Equal(merkle.Path(l[:n], i), path(l[:n], i)) {
				t.Fatal(n, i)
			}
		}
		for _, i := range []int{-1, n, n + 1, math.MinInt, math.MaxInt} {
			if len(merkle.Path(l[:n], i)) != 0 {
				t.Fatal(n, i)
			}
		}
	}
}

// P4.1: Up takes the bits of the place, the lowest first.
func TestUp(t *testing.T) {
	l := leaves(4)
	if merkle.Up(l[0], 0, nil) != l[0] {
		t.Error("no path")
	}
	for i := range 8 {
		want := l[0]
		for j, o := range l[1:] {
			if i>>j&1 == 0 {
				want = node(want, o)
			} else {
				want = node(o, want)
			}
		}
		if merkle.Up(l[0], i, l[1:]) != want {
			t.Error(i)
		}
	}
	// Outside of what is promised it still ends.
	merkle.Up(l[0], -1, leaves(100))
	merkle.Up(l[0], math.MaxInt, leaves(100))
}

// P4.2: powers of two.
func TestUpOfPathIsRoot(t *testing.T) {
	for _, n := range []int{1, 2, 4, 8, 16, 32, 64} {
		l := leaves(n)
		for i := range l {
			if merkle.Up(l[i], i, merkle.Path(l, i)) != merkle.Root(l) {
				t.Fatal(n, i)
			}
		}
	}
}

// W6: what is handed in is left alone; what is answered is new.
func TestNothingIsShared(t *testing.T) {
	l := leaves(9)
	merkle.Root(l[:7])
	p := merkle.Path(l[:2], 0)
	p[0] = api.Hash{}
	_ = append(p[:0:1], api.Hash{1}, api.Hash{2})
	merkle.Up(l[0], 3, l[1:3])
	if !slices.Equal(l, leaves(9)) {
		t.Error("changed")
	}
}
