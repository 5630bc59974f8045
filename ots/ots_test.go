package ots_test

import (
	"bytes"
	"crypto/sha256"
	"math"
	"strconv"
	"testing"

	"ostler/api"
	"ostler/ots"
)

func sum(p ...[]byte) api.Hash { return sha256.Sum256(bytes.Join(p, nil)) }

// digits is told from the words of the chapter, by another way than the package's.
func digits(m []byte) (d [api.Chains]int) {
	h := sum(m)
	left := 0
	for i := range 8 {
		for j := range 4 {
			v := int(h[i]) / []int{64, 16, 4, 1}[j] % 4
			d[4*i+j] = v
			left += 3 - v
		}
	}
	for j := range 4 {
		d[32+j] = left / []int{1, 4, 16, 64}[j] % 4
	}
	return d
}

func walk(h api.Hash, chain, from, to int) api.Hash {
	for i := from; i < to; i++ {
		h = sum([]byte{1, byte(chain), byte(i)}, h[:])
	}
	return h
}

var seed = sum([]byte("seed"))

// P3.1: 36 numbers from 0 to 3.
func TestDigits(t *testing.T) {
	far := 0
	for i := range 500 {
		m := []byte(strconv.Itoa(i))
		d := ots.Digits(m)
		if d != digits(m) {
			t.Fatal(i, d, digits(m))
		}
		for _, v := range d {
			if v < 0 || v > 3 {
				t.Fatal(i, d)
			}
		}
		if d[35] > 0 {
			far++
		}
	}
	if far == 0 {
		t.Error("no sum of 64 or more was tried")
	}
	if ots.Digits(nil) != digits(nil) {
		t.Error("nothing")
	}
}

// P3.1: all ways along a chain, and numbers outside of it.
func TestWalk(t *testing.T) {
	for chain := range 40 {
		for from := range 5 {
			for to := range 5 {
				if ots.Walk(seed, chain, from, to) != walk(seed, chain, from, min(to, 3)) {
					t.Fatal(chain, from, to)
				}
			}
		}
	}
	for _, c := range []struct{ chain, from, to, asChain, asFrom, asTo int }{
		{2, -1, 2, 2, 0, 2},
		{2, math.MinInt, 3, 2, 0, 3},
		{2, 0, math.MaxInt, 2, 0, 3},
		{2, 1, -5, 2, 0, 0},
		{2, math.MaxInt, math.MaxInt, 2, 0, 0},
		{258, 0, 3, 2, 0, 3},
		{-1, 0, 3, 255, 0, 3},
		{-254, 1, 3, 2, 1, 3},
	} {
		if ots.Walk(seed, c.chain, c.from, c.to) != walk(seed, c.asChain, c.asFrom, c.asTo) {
			t.Error(c)
		}
	}
}

// P3.2: secrets, modulo 256.
func TestSecret(t *testing.T) {
	for _, n := range []int{0, 1, 15, 35, 255, 256, 300, -1, -256, math.MaxInt, math.MinInt} {
		if ots.Secret(seed, n, 7) != sum([]byte{0}, seed[:], []byte{byte(n), 7}) || ots.Secret(seed, 7, n) != sum([]byte{0}, seed[:], []byte{7, byte(n)}) {
			t.Error(n)
		}
	}
}

// P3.2: Public is the Sum of all ends.
func TestPublic(t *testing.T) {
	for _, leaf := range []int{0, 1, 15, 255, 256, -1} {
		all := []byte{2}
		for c := range api.Chains {
			h := walk(ots.Secret(seed, leaf, c), c, 0, 3)
			all = append(all, h[:]...)
		}
		if ots.Public(seed, leaf) != sum(all) {
			t.Error(leaf)
		}
	}
	if ots.Public(seed, 256) != ots.Public(seed, 0) || ots.Public(seed, 1) == ots.Public(seed, 0) {
		t.Error("leaves")
	}
}

// P3.2, P3.3: Sign walks as far as the digits say; Recover of it is Public.
func TestSignAndRecover(t *testing.T) {
	for i := range 40 {
		m := []byte(strconv.Itoa(i))
		s := ots.Sign(seed, i, m)
		if len(s) != api.Chains {
			t.Fatal(len(s))
		}
		for c, d := range digits(m) {
			if s[c] != walk(ots.Secret(seed, i, c), c, 0, d) {
				t.Fatal(i, c)
			}
		}
		if h, ok := ots.Recover(m, s); !ok || h != ots.Public(seed, i) {
			t.Fatal(i, ok)
		}
	}
	if h, ok := ots.Recover(nil, ots.Sign(seed, 0, nil)); !ok || h != ots.Public(seed, 0) {
		t.Error("nothing")
	}
}

// P3.2: Recover of other chains, other bytes, and not Chains of them.
func TestRecoverOfOthers(t *testing.T) {
	m := []byte("message")
	s := ots.Sign(seed, 3, m)
	for _, l := range [][]api.Hash{nil, {}, s[:35], append(s[:36:36], seed)} {
		if h, ok := ots.Recover(m, l); ok || h != (api.Hash{}) {
			t.Error(len(l), ok)
		}
	}
	for c := range s {
		s[c][c%32] ^= 1
		if h, ok := ots.Recover(m, s); !ok || h == ots.Public(seed, 3) {
			t.Error(c, ok)
		}
		s[c][c%32] ^= 1
	}
	if h, ok := ots.Recover([]byte("massage"), s); !ok || h == ots.Public(seed, 3) {
		t.Error("another message")
	}
}

// P3.3: of two messages some chain of either would have to be walked back.
func TestOneDigitIsLower(t *testing.T) {
	all := make([][api.Chains]int, 60)
	for i := range all {
		all[i] = ots.Digits([]byte{byte(i)})
	}
	for i, a := range all {
		for j, b := range all {
			lower := a == b
			for c := range a {
				lower = lower || b[c] < a[c]
			}
			if !lower && i != j {
				t.Error(i, j)
			}
		}
	}
}

// W6: what is handed in is left alone; what is answered is new.
func TestNothingIsShared(t *testing.T) {
	m := []byte("message and room")
	s := ots.Sign(seed, 0, m[:7])
	was := append([]api.Hash(nil), s...)
	ots.Recover(m[:7], s)
	if string(m) != "message and room" {
		t.Error(m)
	}
	for i := range s {
		if s[i] != was[i] {
			t.Fatal(i)
		}
		s[i] = api.Hash{}
	}
	if h, _ := ots.Recover(m[:7], ots.Sign(seed, 0, m[:7])); h != ots.Public(seed, 0) {
		t.Error("kept")
	}
}
