package bank_test

import (
	"bytes"
	"crypto/sha256"
	"math"
	"reflect"
	"strings"
	"testing"

	"ostler/api"
	"ostler/bank"
	"ostler/octet"
	"ostler/page"
	"ostler/slot"
)

const first = 2 * api.SlotPages

func row(n, from int) []byte {
	p := make([]byte, n)
	for i := range p {
		p[i] = byte(i*29 + i/64 + from)
	}
	return p
}

func must(t *testing.T, err, want api.Errno) {
	t.Helper()
	if err != want {
		t.Errorf("%v, not %v", err, want)
	}
}

func state(b int, image []byte, name string, counter int, mind []byte) bank.State {
	return bank.State{Bank: b, Size: len(image), Sum: sha256.Sum256(image), Counter: counter, Name: name, Mind: mind}
}

func same(a, b bank.State) bool {
	mind := bytes.Equal(a.Mind, b.Mind)
	a.Mind, b.Mind = nil, nil
	return mind && reflect.DeepEqual(a, b)
}

func boots(t *testing.T, f *page.Flash, want bank.State, image []byte) {
	t.Helper()
	s, b, err := bank.Boot(f)
	if err != api.OK || !same(s, want) || !bytes.Equal(b, image) {
		t.Errorf("%v, %d %q %d; not %d %q %d", err, s.Bank, s.Name, s.Counter, want.Bank, want.Name, want.Counter)
	}
}

func bootsNone(t *testing.T, f *page.Flash, want api.Errno) {
	t.Helper()
	if s, b, err := bank.Boot(f); err != want || !reflect.DeepEqual(s, bank.State{}) || len(b) != 0 {
		t.Error(err, want)
	}
}

func record(s bank.State) []byte {
	var w octet.Writer
	w.Nums(s.Bank, s.Size)
	w.Raw(s.Sum[:]...)
	w.Nums(s.Counter)
	w.Bytes([]byte(s.Name), s.Mind)
	return w.Out()
}

// P13.1: how many pages, where what lies, and the record's bytes.
func TestLayout(t *testing.T) {
	if bank.Pages() != 96 {
		t.Fatal(bank.Pages())
	}
	f := page.New(bank.Pages())
	a, b := row(130, 1), row(512, 2)
	must(t, bank.Install(f, "a", a, 3, []byte("mind")), api.OK)
	must(t, bank.Install(f, "b", b, 4, nil), api.OK)
	for i, image := range [][]byte{a, b} {
		var all []byte
		for p := range api.BankPages {
			x, _ := f.Read(first + i*api.BankPages + p)
			all = append(all, x...)
		}
		if !bytes.HasPrefix(all, image) || bytes.Count(all[len(image):], []byte{0xff}) != 512-len(image) {
			t.Error(i)
		}
	}
	got, n, err := slot.Load(f)
	if err != api.OK || n != 2 || !bytes.Equal(got, record(state(1, b, "b", 4, nil))) {
		t.Error(err, n)
	}
}

// P13.1, P13.2: one image behind the other, in turns; the chapter's example.
func TestInstall(t *testing.T) {
	f := page.New(bank.Pages() + 3)
	bootsNone(t, f, api.ErrNone)
	for i, size := range []int{0, 1, 63, 64, 65, 511, 512, 7} {
		name, image, mind := strings.Repeat("n", i), row(size, i), row(i*250, i)
		must(t, bank.Install(f, name, image, i/2, mind), api.OK)
		boots(t, f, state(i%2, image, name, i/2, mind), image)
	}
	// A name is any text of at most MaxName bytes.
	must(t, bank.Install(f, "A \x00\xff", row(3, 3), api.MaxNumber, nil), api.OK)
	boots(t, f, state(0, row(3, 3), "A \x00\xff", api.MaxNumber, nil), row(3, 3))
}

// P13.2: ErrArg, ErrDead, ErrLong, ErrArg, ErrOld, the error of Boot.
func TestErrorsOfInstall(t *testing.T) {
	long := row(513, 0)
	for _, f := range []*page.Flash{nil, page.New(1), page.New(95)} {
		f.Fuse(0, 0)
		f.Erase(0)
		must(t, bank.Install(f, "a", long, -1, nil), api.ErrArg)
		must(t, bank.Keep(f, row(2001, 0)), api.ErrArg)
		bootsNone(t, f, api.ErrArg)
	}
	f := page.New(96)
	must(t, bank.Keep(f, nil), api.ErrNone)
	must(t, bank.Install(f, "old", row(5, 5), 7, []byte("m")), api.OK)
	was := state(0, row(5, 5), "old", 7, []byte("m"))
	for _, c := range []struct {
		name    string
		image   []byte
		counter int
		mind    []byte
		want    api.Errno
	}{
		{"a", long, 9, nil, api.ErrLong},
		{"abcdefghijklm", nil, 9, nil, api.ErrLong},
		{"a", nil, 9, row(2001, 0), api.ErrLong},
		{"a", long, -1, nil, api.ErrLong},
		{"a", nil, -1, nil, api.ErrArg},
		{"a", nil, math.MinInt, nil, api.ErrArg},
		{"a", nil, api.MaxNumber + 1, nil, api.ErrArg},
		{"a", nil, math.MaxInt, nil, api.ErrArg},
		{"a", nil, 6, nil, api.ErrOld},
		{"a", nil, 0, nil, api.ErrOld},
	} {
		must(t, bank.Install(f, c.name, c.image, c.counter, c.mind), c.want)
		boots(t, f, was, row(5, 5))
	}
	must(t, bank.Install(f, "abcdefghijkl", row(512, 0), 7, row(2000, 0)), api.OK)
	f.Fuse(0, 0)
	f.Erase(0)
	must(t, bank.Install(f, "a", long, -1, nil), api.ErrDead)
	must(t, bank.Keep(f, nil), api.ErrDead)
	boots(t, f, state(1, row(512, 0), "abcdefghijkl", 7, row(2000, 0)), row(512, 0))
}

// P13.1, P13.2: records that are none, banks that hold other bytes.
func TestBootOfOthers(t *testing.T) {
	none := bank.State{Sum: sha256.Sum256(nil)}
	with := func(change func(*bank.State)) []byte {
		s := none
		change(&s)
		return record(s)
	}
	good := record(none)
	for i, c := range []struct {
		b    []byte
		want api.Errno
	}{
		{nil, api.ErrForm},
		{good[:len(good)-1], api.ErrForm},
		{append(bytes.Clone(good), 0), api.ErrForm},
		{with(func(s *bank.State) { s.Bank = 2 }), api.ErrForm},
		{with(func(s *bank.State) { s.Bank = 1 << 40 }), api.ErrForm},
		{with(func(s *bank.State) { s.Size = 513 }), api.ErrForm},
		{with(func(s *bank.State) { s.Size = 1 << 62 }), api.ErrForm},
		{with(func(s *bank.State) { s.Size = 1 }), api.ErrSum},
		{with(func(s *bank.State) { s.Sum[31]++ }), api.ErrSum},
	} {
		f := page.New(96)
		must(t, slot.Save(f, c.b), api.OK)
		bootsNone(t, f, c.want)
		must(t, bank.Install(f, "a", nil, 0, nil), c.want)
		must(t, bank.Keep(f, row(2001, 0)), c.want)
		if _, n, _ := slot.Load(f); n != 1 {
			t.Error(i, "something is saved")
		}
	}
	f := page.New(96)
	must(t, slot.Save(f, with(func(s *bank.State) { s.Bank, s.Counter, s.Name = 1, 1<<40, strings.Repeat("x", 50) })), api.OK)
	boots(t, f, state(1, nil, strings.Repeat("x", 50), 1<<40, nil), nil)
	must(t, bank.Install(f, "a", nil, api.MaxNumber, nil), api.ErrOld)
	must(t, bank.Install(f, "a", nil, -1, nil), api.ErrArg)
	f = page.New(96)
	must(t, bank.Install(f, "a", row(100, 0), 5, nil), api.OK)
	must(t, f.Program(first+1, make([]byte, 64)), api.OK)
	bootsNone(t, f, api.ErrSum)
	must(t, bank.Install(f, "a", nil, 6, nil), api.ErrSum)
	must(t, bank.Install(f, "a", nil, 4, nil), api.ErrSum)
}

// P13.2: Keep lays another mind, and nothing else; ErrLong behind Boot's errors.
func TestKeep(t *testing.T) {
	f := page.New(96)
	must(t, bank.Keep(f, row(2001, 0)), api.ErrNone)
	must(t, bank.Install(f, "a", row(70, 0), 5, []byte("one")), api.OK)
	for _, n := range []int{0, 1, 1999, 2000} {
		must(t, bank.Keep(f, row(n, 9)), api.OK)
		boots(t, f, state(0, row(70, 0), "a", 5, row(n, 9)), row(70, 0))
	}
	must(t, bank.Keep(f, row(2001, 0)), api.ErrLong)
	boots(t, f, state(0, row(70, 0), "a", 5, row(2000, 9)), row(70, 0))
	must(t, bank.Install(f, "b", row(70, 1), 5, nil), api.OK)
	must(t, bank.Keep(f, []byte("two")), api.OK)
	boots(t, f, state(1, row(70, 1), "b", 5, []byte("two")), row(70, 1))
}

// P13.2: a Save's error is told.
func TestFullSlots(t *testing.T) {
	f := page.New(96)
	for i, b := range slot.Pack(api.MaxNumber, record(state(0, nil, "", 0, nil))) {
		p := bytes.Repeat([]byte{0xff}, 64)
		p[i%64] = b
		must(t, f.Program(i/64, p), api.OK)
	}
	must(t, bank.Keep(f, nil), api.ErrFull)
	must(t, bank.Install(f, "a", nil, 0, nil), api.ErrFull)
	boots(t, f, state(0, nil, "", 0, nil), nil)
}

// steps is how many Erases and Programs it needs.
func steps(f *page.Flash, do func(f *page.Flash) api.Errno) int {
	for n := 0; ; n++ {
		o := f.Copy()
		o.Fuse(n, 0)
		if do(o) == api.OK {
			return n
		}
	}
}

// P13.2: as many pages as image needs, and the record's.
func TestStepsOfInstall(t *testing.T) {
	f := page.New(96)
	for i, size := range []int{0, 1, 64, 65, 448, 449, 512} {
		n := len(slot.Pack(i+1, record(state(i%2, row(size, 0), "n", 1, nil))))
		want := 2*((size+63)/64) + 2*((n+63)/64)
		do := func(f *page.Flash) api.Errno { return bank.Install(f, "n", row(size, 0), 1, nil) }
		if got := steps(f, do); got != want {
			t.Error(size, got, want)
		}
		must(t, do(f), api.OK)
	}
}

// P13.2: all pages Erased, then all Programmed, in order, then the record; the
// bank that runs, and pages that are not needed, stay.
func TestOrderOfInstall(t *testing.T) {
	f := page.New(96)
	image := row(150, 8)
	must(t, bank.Install(f, "x", row(512, 1), 1, nil), api.OK)
	must(t, bank.Install(f, "x", row(512, 2), 1, nil), api.OK)
	must(t, bank.Install(f, "x", row(512, 3), 1, nil), api.OK) // bank 0 runs
	_, number, _ := slot.Load(f)
	for n := range 7 {
		o := f.Copy()
		o.Fuse(n, 0)
		must(t, bank.Install(o, "y", image, 1, nil), api.ErrDead)
		want := row(512, 2)
		for i := range 192 {
			if n >= 1+i/64 {
				want[i] = 0xff
			}
			if n > 3+i/64 && i < len(image) {
				want[i] = image[i]
			}
		}
		for i := range api.BankPages {
			a, _ := o.Read(first + i)
			b, _ := o.Read(first + api.BankPages + i)
			if !bytes.Equal(a, row(512, 3)[64*i:64*i+64]) || !bytes.Equal(b, want[64*i:64*i+64]) {
				t.Error(n, i)
			}
		}
		if _, at, err := slot.Load(o); err != api.OK || at != number {
			t.Error(n, err)
		}
	}
}

// P13.3: at every step, torn in many ways: the old one or the new one.
func TestCrashes(t *testing.T) {
	image := row(200, 7)
	install := func(f *page.Flash) api.Errno { return bank.Install(f, "new", image, 9, []byte("new mind")) }
	keep := func(f *page.Flash) api.Errno { return bank.Keep(f, []byte("kept")) }
	for installed := range 4 {
		f := page.New(96)
		for i := range installed {
			must(t, bank.Install(f, "n", row(100+i, i), i, row(90*i, i)), api.OK)
		}
		next := state(installed%2, image, "new", 9, []byte("new mind"))
		crash(t, f, install, next, image)
		if installed > 0 {
			s, b, _ := bank.Boot(f)
			s.Mind = []byte("kept")
			crash(t, f, keep, s, b)
		}
	}
}

func crash(t *testing.T, f *page.Flash, do func(f *page.Flash) api.Errno, next bank.State, image []byte) {
	t.Helper()
	was, old, none := bank.Boot(f)
	for n := range steps(f, do) {
		for tear := 0; tear <= 64; tear += 1 + tear/2 {
			o := f.Copy()
			o.Fuse(n, tear)
			must(t, do(o), api.ErrDead)
			o.Boot()
			s, b, err := bank.Boot(o)
			isOld := err == none && same(s, was) && bytes.Equal(b, old)
			isNew := err == api.OK && same(s, next) && bytes.Equal(b, image)
			if !isOld && !isNew {
				t.Fatal("neither", n, tear, err)
			}
			must(t, do(o), api.OK)
		}
	}
}

// P13.3: counters never fall.
func TestCountersNeverFall(t *testing.T) {
	f := page.New(96)
	at := 0
	for _, c := range []int{3, 1, 3, 2, 8, 0, 7, 8, 100, 99} {
		err := bank.Install(f, "n", []byte{byte(c)}, c, nil)
		if (err == api.OK) != (c >= at) || err != api.OK && err != api.ErrOld {
			t.Error(c, err)
		}
		at = max(at, c)
		if s, _, _ := bank.Boot(f); s.Counter != at {
			t.Error(s.Counter, at)
		}
	}
}

// W6: what is handed in is left alone, what is answered is new.
func TestNothingIsShared(t *testing.T) {
	f := page.New(96)
	image, mind := row(100, 1), row(50, 2)
	must(t, bank.Install(f, "a", image[:70], 1, mind[:20]), api.OK)
	must(t, bank.Keep(f, mind[:30]), api.OK)
	if !bytes.Equal(image, row(100, 1)) || !bytes.Equal(mind, row(50, 2)) {
		t.Error("changed")
	}
	s, b, _ := bank.Boot(f)
	_ = append(b, 1)
	clear(b)
	clear(s.Mind)
	clear(image)
	clear(mind)
	boots(t, f, state(0, row(100, 1)[:70], "a", 1, row(50, 2)[:30]), row(100, 1)[:70])
}
