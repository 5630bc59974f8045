package octet_test

import (
	"bytes"
	"hash/crc32"
	"math"
	"testing"

	"ostler/octet"
)

func laid(v ...int) []byte {
	var w octet.Writer
	w.Nums(v...)
	return w.Out()
}

// P1.1: the numbers, their edges, and what lies outside of them.
func TestNumsAreLaidByDigits(t *testing.T) {
	for _, c := range []struct {
		n    int
		want []byte
	}{
		{0, []byte{0}},
		{1, []byte{1}},
		{127, []byte{0x7f}},
		{128, []byte{0x80, 1}},
		{300, []byte{0xac, 2}},
		{1<<14 - 1, []byte{0xff, 0x7f}},
		{1 << 14, []byte{0x80, 0x80, 1}},
		{1 << 62, []byte{0x80, 0x80, 0x80, 0x80, 0x80, 0x80, 0x80, 0x80, 0x40}},
		{1<<62 - 1, []byte{0xff, 0xff, 0xff, 0xff, 0xff, 0xff, 0xff, 0xff, 0x3f}},
		{1<<62 + 1, []byte{0x80, 0x80, 0x80, 0x80, 0x80, 0x80, 0x80, 0x80, 0x40}},
		{math.MaxInt, []byte{0x80, 0x80, 0x80, 0x80, 0x80, 0x80, 0x80, 0x80, 0x40}},
		{-1, []byte{0}},
		{math.MinInt, []byte{0}},
	} {
		if got := laid(c.n); !bytes.Equal(got, c.want) {
			t.Errorf("Nums(%d): % x, not % x", c.n, got, c.want)
		}
	}
}

// P1.1: the chapter's example, and rows behind one another.
func TestRowsAreLaidBehindOneAnother(t *testing.T) {
	var w octet.Writer
	w.Nums(1, 300)
	w.Bytes([]byte("a"))
	if got := w.Out(); !bytes.Equal(got, []byte{1, 0xac, 2, 1, 0x61}) {
		t.Errorf("% x", got)
	}
	w.Raw(9, 0, 255)
	w.Raw()
	w.Nums()
	w.Bytes()
	w.Bytes(nil, []byte{}, bytes.Repeat([]byte{7}, 130))
	want := append([]byte{1, 0xac, 2, 1, 0x61, 9, 0, 255, 0, 0, 0x82, 1}, bytes.Repeat([]byte{7}, 130)...)
	if got := w.Out(); !bytes.Equal(got, want) {
		t.Errorf("% x", got)
	}
}

// Ways: several at once are what each alone would lay.
func TestVariadicIsOneByOne(t *testing.T) {
	var a, b octet.Writer
	a.Nums(1, -3, 1<<40)
	a.Bytes([]byte("x"), nil, []byte("yz"))
	a.Raw(4, 5)
	for _, n := range []int{1, -3, 1 << 40} {
		b.Nums(n)
	}
	for _, p := range []string{"x", "", "yz"} {
		b.Bytes([]byte(p))
	}
	b.Raw(4)
	b.Raw(5)
	if !bytes.Equal(a.Out(), b.Out()) {
		t.Errorf("% x, % x", a.Out(), b.Out())
	}
}

// P1.1, P1.4: Out is new memory each time.
func TestOutIsNew(t *testing.T) {
	var w octet.Writer
	w.Raw(1, 2, 3)
	a, b := w.Out(), w.Out()
	a[0] = 9
	_ = append(a[:1], 8, 8)
	w.Raw(4)
	if !bytes.Equal(b, []byte{1, 2, 3}) || !bytes.Equal(w.Out(), []byte{1, 2, 3, 4}) {
		t.Error(a, b, w.Out())
	}
	_ = append(b, 77)
	if !bytes.Equal(w.Out(), []byte{1, 2, 3, 4}) {
		t.Error(w.Out())
	}
}

// P1.4: what is handed in is neither changed nor kept.
func TestHandedInIsLeftAlone(t *testing.T) {
	room := []byte{1, 2, 3, 4, 5}
	p := room[:2]
	var w octet.Writer
	w.Bytes(p)
	w.Raw(p...)
	r := octet.NewReader(p)
	j := octet.Join(p, []byte{9})
	octet.Sum(p, []byte{9})
	j[0] = 50
	if !bytes.Equal(room, []byte{1, 2, 3, 4, 5}) {
		t.Fatal(room)
	}
	p[0], p[1] = 60, 61
	if got := w.Out(); !bytes.Equal(got, []byte{2, 1, 2, 1, 2}) {
		t.Error("a Writer keeps", got)
	}
	got := r.Raw(2)
	if !bytes.Equal(got, []byte{1, 2}) {
		t.Error("a Reader keeps", got)
	}
}

// P1.4: what a Reader answers is new memory.
func TestTakenIsNew(t *testing.T) {
	r := octet.NewReader([]byte{2, 1, 2, 3, 4, 5})
	a := r.Bytes()
	b := r.Raw(1)
	_ = append(a, 99)
	_ = append(b, 98)
	if b[0] != 3 || !bytes.Equal(r.Raw(2), []byte{4, 5}) {
		t.Error(a, b)
	}
}

// P1.2, P1.4: what was laid is taken as it was.
func TestTakenIsWhatWasLaid(t *testing.T) {
	var list []int
	for s := range 63 {
		list = append(list, 1<<s, 1<<s-1, (1<<s)/3)
	}
	var w octet.Writer
	w.Nums(list...)
	w.Bytes([]byte("row"), nil)
	w.Raw(1, 2)
	r := octet.NewReader(w.Out())
	for _, n := range list {
		if got := r.Num(); got != n {
			t.Fatal(got, n)
		}
	}
	if got := r.Bytes(); string(got) != "row" {
		t.Error(got)
	}
	if got := r.Bytes(); len(got) != 0 || r.Left() != 2 || r.Whole() || !r.Good() {
		t.Error(got, r.Left())
	}
	if got := r.Raw(2); !bytes.Equal(got, []byte{1, 2}) || !r.Whole() || len(r.Raw(0)) != 0 || !r.Whole() {
		t.Error(got)
	}
}

func mustErr(t *testing.T, what string, r *octet.Reader) {
	t.Helper()
	n := 5
	r.Nums(&n)
	if r.Good() || r.Whole() || r.Left() != 0 || n != 0 || r.Num() != 0 || len(r.Bytes()) != 0 || len(r.Raw(0)) != 0 || len(r.Raw(1)) != 0 {
		t.Error(what, "does not err, or goes on")
	}
}

// P1.2: the numbers at which it errs.
func TestBadNumbers(t *testing.T) {
	for what, b := range map[string][]byte{
		"no byte":              {},
		"an end too early":     {0x80},
		"a longer one":         {0xff, 0xff, 0xff},
		"a nought too many":    {0x81, 0, 5},
		"only noughts":         {0x80, 0},
		"above 2^62":           {0x81, 0x80, 0x80, 0x80, 0x80, 0x80, 0x80, 0x80, 0x40, 5},
		"far above":            {0xff, 0xff, 0xff, 0xff, 0xff, 0xff, 0xff, 0xff, 0x7f, 5},
		"ten bytes":            {0x80, 0x80, 0x80, 0x80, 0x80, 0x80, 0x80, 0x80, 0x80, 1, 5},
		"ten bytes above 7f":   {0x80, 0x80, 0x80, 0x80, 0x80, 0x80, 0x80, 0x80, 0x80, 0x80, 0, 5},
		"nine, and no last":    {0x80, 0x80, 0x80, 0x80, 0x80, 0x80, 0x80, 0x80, 0x80},
		"nine, and a nought":   {0x80, 0x80, 0x80, 0x80, 0x80, 0x80, 0x80, 0x80, 0, 5},
		"2^64 and a bit above": {0x81, 0x80, 0x80, 0x80, 0x80, 0x80, 0x80, 0x80, 0x80, 2, 5},
	} {
		r := octet.NewReader(b)
		if n := r.Num(); n != 0 {
			t.Error(what, n)
		}
		mustErr(t, what, r)
	}
}

// P1.2: the rows at which it errs.
func TestBadRows(t *testing.T) {
	for what, turn := range map[string]func(r *octet.Reader) []byte{
		"a row longer than what is left": func(r *octet.Reader) []byte { return r.Bytes() },
		"Raw of less than 0":             func(r *octet.Reader) []byte { return r.Raw(-1) },
		"Raw of the least":               func(r *octet.Reader) []byte { return r.Raw(math.MinInt) },
		"Raw of one too many":            func(r *octet.Reader) []byte { return r.Raw(4) },
		"Raw of the most":                func(r *octet.Reader) []byte { return r.Raw(math.MaxInt) },
		"Bad":                            func(r *octet.Reader) []byte { r.Bad(); return nil },
	} {
		r := octet.NewReader([]byte{3, 1, 2})
		if got := turn(r); len(got) != 0 {
			t.Error(what, got)
		}
		mustErr(t, what, r)
	}
	r := octet.NewReader([]byte{0x80, 0x80, 0x80, 0x80, 0x80, 0x80, 0x80, 0x80, 0x40, 1})
	if got := r.Bytes(); len(got) != 0 {
		t.Error(got)
	}
	mustErr(t, "a row of 2^62 bytes", r)
}

// P1.2: Nums goes on behind an error, and takes where no place is.
func TestNumsIntoPlaces(t *testing.T) {
	r := octet.NewReader([]byte{1, 2, 3, 0x80})
	a, b, c := 7, 7, 7
	r.Nums(&a, nil, &b, &c)
	if a != 1 || b != 3 || c != 0 || r.Good() {
		t.Error(a, b, c)
	}
	r = octet.NewReader([]byte{1, 2})
	r.Nums()
	r.Nums(&a, &a)
	if a != 2 || !r.Whole() {
		t.Error(a)
	}
}

// P1.3: the example, and what the library tells.
func TestJoinAndSum(t *testing.T) {
	if got := octet.Sum([]byte("1234"), []byte("56789")); got != 0xcbf43926 {
		t.Errorf("%x", got)
	}
	if octet.Sum() != 0 || octet.Sum(nil, nil) != 0 || len(octet.Join()) != 0 || len(octet.Join(nil, nil)) != 0 {
		t.Error("nothing")
	}
	var all []byte
	for i := range 600 {
		all = append(all, byte(i*i+i/7))
		a, b := all[:i/3], all[i/3:]
		if !bytes.Equal(octet.Join(a, nil, b), all) || octet.Sum(a, nil, b) != crc32.ChecksumIEEE(all) {
			t.Fatal(i)
		}
	}
}

// P1.4: one byte of all is told by the Sum.
func TestOneByteChangesTheSum(t *testing.T) {
	p := []byte("thirty-two bytes of a plain text")
	whole := octet.Sum(p)
	for i := range p {
		for x := 1; x < 256; x++ {
			p[i] ^= byte(x)
			if octet.Sum(p) == whole {
				t.Fatal(i, x)
			}
			p[i] ^= byte(x)
		}
	}
}

// P1.3: Join of one row is new memory, too.
func TestJoinIsNew(t *testing.T) {
	p := []byte{1, 2}
	j := octet.Join(p)
	j[0] = 9
	if p[0] != 1 {
		t.Error(p)
	}
}

// P1.4, W8: nil objects, and a Reader that no one made.
func TestNilObjects(t *testing.T) {
	var w *octet.Writer
	w.Nums(1)
	w.Bytes([]byte{1})
	w.Raw(1)
	if len(w.Out()) != 0 {
		t.Error(w.Out())
	}
	var r *octet.Reader
	n := 4
	r.Nums(&n, nil)
	r.Bad()
	if n != 0 || r.Num() != 0 || len(r.Bytes()) != 0 || len(r.Raw(0)) != 0 || len(r.Raw(-1)) != 0 || r.Left() != 0 || r.Good() || r.Whole() {
		t.Error("a nil Reader has something")
	}
	var zero octet.Writer
	if len(zero.Out()) != 0 {
		t.Error(zero.Out())
	}
	if e := octet.NewReader(nil); !e.Whole() || !e.Good() || e.Left() != 0 {
		t.Error("an empty Reader")
	}
}
