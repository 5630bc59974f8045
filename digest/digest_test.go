package digest_test

import (
	"bytes"
	"crypto/hmac"
	"crypto/sha256"
	"encoding/hex"
	"testing"

	"ostler/api"
	"ostler/digest"
)

func row(n int) []byte {
	p := make([]byte, n)
	for i := range p {
		p[i] = byte(i*i + 3*i + n)
	}
	return p
}

// P2.1, P2.2: the chapter's examples.
func TestExamples(t *testing.T) {
	if got := digest.Hex(digest.Sum([]byte("abc"))); got != "ba7816bf8f01cfea414140de5dae2223b00361a396177a9cb410ff61f20015ad" {
		t.Error(got)
	}
	m := digest.Mac([]byte("key"), []byte("The quick brown fox jumps over the lazy dog"))
	if got := digest.Hex(m); got != "f7bc83f430538424b13298e6aa6fb143ef4d59a14946175997479dbc2d1a3cd8" {
		t.Error(got)
	}
	if got := digest.Hex(digest.Sum(nil)); got != "e3b0c44298fc1c149afbf4c8996fb92427ae41e4649b934ca495991b7852b855" {
		t.Error(got)
	}
}

// P2.1: all lengths around the blocks, and some long ones.
func TestSumIsSha256(t *testing.T) {
	for n := range 400 {
		if p := row(n); digest.Sum(p) != api.Hash(sha256.Sum256(p)) {
			t.Fatal(n)
		}
	}
	for _, n := range []int{1 << 12, 100003, 1<<20 + 55, 1<<20 + 56, 1<<21 + 63, 1 << 21} {
		if p := row(n); digest.Sum(p) != api.Hash(sha256.Sum256(p)) {
			t.Fatal(n)
		}
	}
}

// P2.2: Link is the Sum of both.
func TestLink(t *testing.T) {
	h := digest.Sum([]byte("h"))
	for n := range 200 {
		p := row(n)
		if digest.Link(h, p) != api.Hash(sha256.Sum256(append(h[:len(h):len(h)], p...))) {
			t.Fatal(n)
		}
	}
	if digest.Link(h, nil) != digest.Sum(h[:]) {
		t.Error("nothing behind it")
	}
}

// P2.2: keys up to 64 bytes stay, longer ones are summed.
func TestMacIsHmac(t *testing.T) {
	for _, k := range []int{0, 1, 31, 32, 33, 63, 64, 65, 66, 128, 200} {
		for _, n := range []int{0, 1, 20, 63, 64, 65, 300} {
			m := hmac.New(sha256.New, row(k))
			m.Write(row(n))
			if got := digest.Mac(row(k), row(n)); !bytes.Equal(got[:], m.Sum(nil)) {
				t.Error(k, n)
			}
		}
	}
}

// P2.2: 64 digits, small letters.
func TestHex(t *testing.T) {
	var h api.Hash
	for i := range h {
		h[i] = byte(i * 9)
	}
	if got := digest.Hex(h); got != hex.EncodeToString(h[:]) || len(got) != 64 {
		t.Error(got)
	}
	h = api.Hash{0: 0xab, 31: 0xf0}
	if got := digest.Hex(h); got != hex.EncodeToString(h[:]) {
		t.Error(got)
	}
}

// P2.3: what is handed in is left alone, the room behind it too.
func TestHandedInIsLeftAlone(t *testing.T) {
	room := row(200)
	for n := range 130 {
		digest.Sum(room[:n])
		digest.Link(api.Hash{1}, room[:n])
		digest.Mac(room[:n], room[:n/2])
	}
	if !bytes.Equal(room, row(200)) {
		t.Error("changed")
	}
}

func BenchmarkSum(b *testing.B) {
	p := row(35)
	for range b.N {
		digest.Sum(p)
	}
}
