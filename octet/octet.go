// Package octet is numbers as bytes: see DOC.md, chapter 1.
package octet

import "bytes"

const (
	greatest = 1 << 62
	more     = 0x80 // stands beside each byte of a number but its last
	digits   = 7    // binary digits a byte
	longest  = 9    // bytes of the greatest number: ten of them are always too many
)

// Writer is bytes that are laid one behind the other.
type Writer struct {
	laid []byte
}

// Nums lays numbers from 0 on.
func (w *Writer) Nums(v ...int) {
	if w == nil {
		return
	}
	for _, n := range v {
		w.num(min(max(n, 0), greatest))
	}
}

func (w *Writer) num(n int) {
	for ; n >= more; n >>= digits {
		w.laid = append(w.laid, byte(n)|more)
	}
	w.laid = append(w.laid, byte(n))
}

// Bytes lays rows of bytes, each with its length.
func (w *Writer) Bytes(p ...[]byte) {
	for _, row := range p {
		w.Nums(len(row))
		w.Raw(row...)
	}
}

// Raw lays bytes as they are.
func (w *Writer) Raw(p ...byte) {
	if w != nil {
		w.laid = append(w.laid, p...)
	}
}

// Out is what was laid.
func (w *Writer) Out() []byte {
	if w == nil {
		return nil
	}
	return bytes.Clone(w.laid)
}

// Reader is bytes that are taken one by one; the first error stays.
type Reader struct {
	rest []byte
	bad  bool
}

// NewReader takes from bytes.
func NewReader(p []byte) *Reader { return &Reader{rest: bytes.Clone(p)} }

// Num takes a number.
func (r *Reader) Num() int {
	if !r.Good() {
		return 0
	}
	n := 0
	for i, b := range r.rest[:min(len(r.rest), longest)] {
		n |= int(b&^more) << (digits * i)
		if b&more != 0 {
			continue
		}
		if n > greatest || b == 0 && i > 0 {
			break
		}
		r.rest = r.rest[i+1:]
		return n
	}
	r.Bad()
	return 0
}

// Nums takes numbers into places.
func (r *Reader) Nums(to ...*int) {
	for _, place := range to {
		n := r.Num()
		if place != nil {
			*place = n
		}
	}
}

// Bytes takes a row of bytes.
func (r *Reader) Bytes() []byte { return r.Raw(r.Num()) }

// Raw takes so many bytes.
func (r *Reader) Raw(n int) []byte {
	if n < 0 || n > r.Left() {
		r.Bad()
	}
	if !r.Good() {
		return nil
	}
	row := bytes.Clone(r.rest[:n])
	r.rest = r.rest[n:]
	return row
}

// Left is how many bytes are left.
func (r *Reader) Left() int {
	if r == nil {
		return 0
	}
	return len(r.rest)
}

// Bad makes it err, if it does not yet.
func (r *Reader) Bad() {
	if r != nil {
		r.bad, r.rest = true, nil
	}
}

// Good tells whether nothing erred.
func (r *Reader) Good() bool { return r != nil && !r.bad }

// Whole tells whether nothing erred, and nothing is left.
func (r *Reader) Whole() bool { return r.Good() && len(r.rest) == 0 }

// Join is rows of bytes, one behind the other.
func Join(p ...[]byte) []byte { return bytes.Join(p, nil) }

// halves is the check sum of each half of a byte: two looks a byte are quick
// enough, and the table of whole bytes would be sixteen times as long.
var halves = [16]uint32{
	0x00000000, 0x1db71064, 0x3b6e20c8, 0x26d930ac,
	0x76dc4190, 0x6b6b51f4, 0x4db26158, 0x5005713c,
	0xedb88320, 0xf00f9344, 0xd6d6a3e8, 0xcb61b38c,
	0x9b64c2b0, 0x86d3d2d4, 0xa00ae278, 0xbdbdf21c,
}

// Sum is the check sum of rows of bytes, one behind the other.
func Sum(p ...[]byte) uint32 {
	s := ^uint32(0)
	for _, row := range p {
		for _, b := range row {
			s ^= uint32(b)
			s = s>>4 ^ halves[s&15]
			s = s>>4 ^ halves[s&15]
		}
	}
	return ^s
}
