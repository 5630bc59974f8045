package slot_test

import (
	"bytes"
	"crypto/sha256"
	"math"
	"testing"

	"ostler/api"
	"ostler/octet"
	"ostler/page"
	"ostler/slot"
)

const pages = 2 * api.SlotPages

func row(n, from int) []byte {
	p := make([]byte, n)
	for i := range p {
		p[i] = byte(i*31 + i/64 + from)
	}
	return p
}

func must(t *testing.T, err, want api.Errno) {
	t.Helper()
	if err != want {
		t.Errorf("%v, not %v", err, want)
	}
}

func loads(t *testing.T, f *page.Flash, want []byte, number int) {
	t.Helper()
	b, n, err := slot.Load(f)
	if err != api.OK || n != number || !bytes.Equal(b, want) {
		t.Errorf("%v, %d, %d bytes; not %d, %d bytes", err, n, len(b), number, len(want))
	}
}

func loadsNone(t *testing.T, f *page.Flash, want api.Errno) {
	t.Helper()
	if b, n, err := slot.Load(f); err != want || n != 0 || len(b) != 0 {
		t.Error(err, n, len(b))
	}
}

// lay programs bytes from a page on.
func lay(f *page.Flash, first int, b []byte) {
	for i := 0; i < len(b); i += api.Page {
		f.Program(first+i/api.Page, b[i:min(i+api.Page, len(b))])
	}
}

// P12.1: Pack, by chapter 1.
func TestPack(t *testing.T) {
	for _, n := range []int{0, 1, 127, 300, api.MaxNumber} {
		for _, l := range []int{0, 1, 200, 2500, 3000} {
			var w octet.Writer
			w.Nums(n)
			w.Bytes(row(l, 0))
			sum := sha256.Sum256(w.Out())
			if got := slot.Pack(n, row(l, 0)); !bytes.Equal(got, append(w.Out(), sum[:]...)) {
				t.Error(n, l)
			}
		}
	}
	if !bytes.Equal(slot.Pack(-1, nil), slot.Pack(0, nil)) {
		t.Error("a number below 0")
	}
}

// P12.1, P12.2: one behind the other; the chapter's example.
func TestSaveAndLoad(t *testing.T) {
	f := page.New(pages)
	loadsNone(t, f, api.ErrNone)
	for i := range 20 {
		b := row(i*131, i)
		must(t, slot.Save(f, b), api.OK)
		loads(t, f, b, i+1)
		loads(t, f, b, i+1)
	}
	must(t, slot.Save(f, nil), api.OK)
	loads(t, f, nil, 21)
	must(t, slot.Save(f, row(2500, 1)), api.OK)
	loads(t, f, row(2500, 1), 22)
	must(t, slot.Save(f, row(2501, 1)), api.ErrLong)
	must(t, slot.Save(f, row(9000, 1)), api.ErrLong)
	loads(t, f, row(2500, 1), 22)
}

// P12.1: where the slots lie, and which of both is told.
func TestLoadTellsTheGreater(t *testing.T) {
	a, b := row(100, 1), row(70, 2)
	for i, c := range []struct {
		first, second int // 0: none
		want          []byte
		number        int
	}{
		{1, 0, a, 1}, {0, 1, b, 1}, {1, 2, b, 2}, {2, 1, a, 2}, {5, 5, a, 5}, {300, 200, a, 300}, {9, 300, b, 300},
		{api.MaxNumber, 0, a, api.MaxNumber}, {1, api.MaxNumber, b, api.MaxNumber},
		{api.MaxNumber + 1, 3, b, 3}, {4, 1 << 40, a, 4},
	} {
		f := page.New(pages + i)
		if c.first > 0 {
			lay(f, 0, slot.Pack(c.first, a))
		}
		if c.second > 0 {
			lay(f, api.SlotPages, slot.Pack(c.second, b))
		}
		loads(t, f, c.want, c.number)
	}
}

// P12.1: what is not whole.
func TestNotWhole(t *testing.T) {
	good := slot.Pack(3, row(100, 0))
	turned := func(i int) []byte {
		b := bytes.Clone(good)
		b[i] ^= 1
		return b
	}
	for what, b := range map[string][]byte{
		"nothing":         nil,
		"number 0":        slot.Pack(0, row(100, 0)),
		"above MaxNumber": slot.Pack(api.MaxNumber+1, row(100, 0)),
		"too long":        slot.Pack(1, row(2501, 0)),
		"cut":             good[:len(good)-1],
		"one more ahead":  append([]byte{3}, good...),
		"number":          turned(0),
		"length":          turned(1),
		"first":           turned(2),
		"last":            turned(101),
		"sum":             turned(len(good) - 1),
		"a nought more":   append([]byte{0x83, 0}, good[1:]...),
	} {
		f := page.New(pages)
		lay(f, 0, b)
		lay(f, api.SlotPages, b)
		if loadsNone(t, f, api.ErrNone); t.Failed() {
			t.Fatal(what)
		}
		must(t, slot.Save(f, row(5, 5)), api.OK)
		loads(t, f, row(5, 5), 1)
	}
	f := page.New(pages)
	lay(f, 0, append(bytes.Clone(good), 1, 2, 3)) // it begins with one
	loads(t, f, row(100, 0), 3)
	f = page.New(pages)
	lay(f, api.SlotPages-1, good) // not where a slot begins
	loadsNone(t, f, api.ErrNone)
}

// P12.1, P12.2: ErrArg, then ErrDead, then ErrLong, then ErrFull.
func TestErrors(t *testing.T) {
	for _, f := range []*page.Flash{nil, page.New(1), page.New(pages - 1)} {
		f.Fuse(0, 0)
		f.Erase(0)
		loadsNone(t, f, api.ErrArg)
		must(t, slot.Save(f, row(2501, 0)), api.ErrArg)
	}
	f := page.New(pages)
	lay(f, 0, slot.Pack(api.MaxNumber, row(3, 3)))
	must(t, slot.Save(f, row(2501, 0)), api.ErrLong)
	must(t, slot.Save(f, row(3, 0)), api.ErrFull)
	loads(t, f, row(3, 3), api.MaxNumber)
	f.Fuse(0, 0)
	f.Erase(79)
	must(t, slot.Save(f, row(2501, 0)), api.ErrDead)
	must(t, slot.Save(f, row(3, 0)), api.ErrDead)
	loads(t, f, row(3, 3), api.MaxNumber) // also when the power is off
	f = page.New(pages)
	lay(f, 0, slot.Pack(api.MaxNumber-1, row(3, 3)))
	must(t, slot.Save(f, row(4, 4)), api.OK)
	loads(t, f, row(4, 4), api.MaxNumber)
}

// steps is how many Erases and Programs a Save of that needs, and how it ends.
func steps(f *page.Flash, b []byte) int {
	for n := 0; ; n++ {
		o := f.Copy()
		o.Fuse(n, 0)
		if slot.Save(o, b) == api.OK {
			return n
		}
	}
}

// P12.2: as many pages as Pack needs, each Erased and Programmed once.
func TestStepsOfSave(t *testing.T) {
	f := page.New(pages)
	for _, l := range []int{0, 30, 31, 95, 96, 500, 2500} {
		n := len(slot.Pack(1, row(l, 0)))
		if got := steps(f, row(l, 0)); got != 2*((n+63)/64) {
			t.Error(l, n, got)
		}
	}
	f.Program(79, []byte{5})
	must(t, slot.Save(f, row(2500, 0)), api.OK)
	must(t, slot.Save(f, row(10, 0)), api.OK)
	if b, _ := f.Read(79); b[0] != 5 {
		t.Error("a page that is not needed is touched")
	}
}

// P12.2: the order of what is done: the first one Erased first, Programmed last.
func TestOrderOfSave(t *testing.T) {
	f := page.New(pages)
	must(t, slot.Save(f, row(300, 1)), api.OK)
	must(t, slot.Save(f, row(300, 2)), api.OK)
	b := row(200, 3) // four pages, into the slot of the first one
	p := slot.Pack(3, b)
	const n = 4
	was, full := read(f, 0), bytes.Repeat([]byte{0xff}, n*64)
	for step := range 2*n + 1 {
		o := f.Copy()
		o.Fuse(step, 0)
		err := slot.Save(o, b)
		if (err == api.OK) != (step == 2*n) || err != api.OK && err != api.ErrDead {
			t.Error(step, err)
		}
		want := bytes.Clone(was)
		copy(want, full[:min(step, n)*64])
		for i, at := range []int{1, 2, 3, 0} {
			if step > n+i {
				copy(want[at*64:], p[at*64:min(at*64+64, len(p))])
			}
		}
		if !bytes.Equal(read(o, 0), want) || !bytes.Equal(read(o, api.SlotPages), read(f, api.SlotPages)) {
			t.Error(step)
		}
	}
}

func read(f *page.Flash, first int) []byte {
	var all []byte
	for i := range api.SlotPages {
		b, _ := f.Read(first + i)
		all = append(all, b...)
	}
	return all
}

// P12.3: at every step, torn in many ways, what is Loaded is what was there, or
// b, wholly; and Saved again it is as good.
func TestCrashes(t *testing.T) {
	for _, lengths := range [][]int{{}, {0}, {10}, {300, 200}, {10, 2500, 700}, {20, 20, 20}} {
		f := page.New(pages)
		for i, l := range lengths {
			must(t, slot.Save(f, row(l, i)), api.OK)
		}
		for _, l := range []int{0, 10, 250} {
			b := row(l, 77)
			for n := range steps(f, b) + 1 {
				for tear := 0; tear <= 64; tear += 1 + tear/3 {
					crash(t, f.Copy(), b, n, tear)
				}
				crash(t, f.Copy(), b, n, 64)
			}
		}
	}
}

func crash(t *testing.T, f *page.Flash, b []byte, n, tear int) {
	t.Helper()
	was, number, none := slot.Load(f)
	f.Fuse(n, tear)
	err := slot.Save(f, b)
	f.Boot()
	if err == api.OK {
		loads(t, f, b, number+1)
		return
	}
	must(t, err, api.ErrDead)
	got, at, now := slot.Load(f)
	switch {
	case now == none && at == number && bytes.Equal(got, was):
	case now == api.OK && at == number+1 && bytes.Equal(got, b):
	default:
		t.Error("neither", n, tear, now, at)
	}
	must(t, slot.Save(f, b), api.OK)
	loads(t, f, b, at+1)
}

// W6: what is handed in is left alone, what is answered is new.
func TestNothingIsShared(t *testing.T) {
	f := page.New(pages)
	room := row(100, 1)
	must(t, slot.Save(f, room[:50]), api.OK)
	slot.Pack(1, room[:50])
	if !bytes.Equal(room, row(100, 1)) {
		t.Error("changed")
	}
	clear(room)
	b, _, _ := slot.Load(f)
	clear(b)
	loads(t, f, row(100, 1)[:50], 1)
}

// W1: numbers of all kinds.
func TestPackOfAnyNumber(t *testing.T) {
	for _, n := range []int{math.MinInt, math.MaxInt} {
		if len(slot.Pack(n, nil)) < 34 {
			t.Error(n)
		}
	}
}
