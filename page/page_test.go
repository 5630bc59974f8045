package page_test

import (
	"bytes"
	"math"
	"testing"

	"ostler/api"
	"ostler/page"
)

func read(t *testing.T, f *page.Flash, i int) []byte {
	t.Helper()
	b, err := f.Read(i)
	if err != api.OK || len(b) != api.Page {
		t.Fatal(i, err, len(b))
	}
	return b
}

func full(b byte) []byte { return bytes.Repeat([]byte{b}, api.Page) }

func must(t *testing.T, err, want api.Errno) {
	t.Helper()
	if err != want {
		t.Errorf("%v, not %v", err, want)
	}
}

func holds(t *testing.T, f *page.Flash, i int, want []byte) {
	t.Helper()
	if got := read(t, f, i); !bytes.Equal(got, want) {
		t.Errorf("page %d: % x, not % x", i, got, want)
	}
}

// row is some bytes, unlike one another.
func row(n int) []byte {
	p := make([]byte, n)
	for i := range p {
		p[i] = byte(i*37 + 11)
	}
	return p
}

// P11.1: how many pages, and what they hold.
func TestNew(t *testing.T) {
	for n, want := range map[int]int{1: 1, 2: 2, 96: 96, 255: 255, 256: 256, 257: 256, math.MaxInt: 256, 0: 1, -1: 1, math.MinInt: 1} {
		f := page.New(n)
		if f.Len() != want || f.Dead() {
			t.Error(n, f.Len())
		}
		for i := range want {
			holds(t, f, i, full(0xff))
		}
	}
}

// P11.1, P11.3: bits only fall; the chapter's example.
func TestProgram(t *testing.T) {
	f := page.New(2)
	must(t, f.Program(1, full(0x0f)), api.OK)
	holds(t, f, 1, full(0x0f))
	must(t, f.Program(1, full(0xf0)), api.OK)
	holds(t, f, 1, full(0))
	holds(t, f, 0, full(0xff))
	must(t, f.Program(0, row(20)), api.OK)
	want := append(row(20), full(0xff)[20:]...)
	holds(t, f, 0, want)
	must(t, f.Program(0, row(20)), api.OK) // twice is once
	holds(t, f, 0, want)
	must(t, f.Program(0, nil), api.OK)
	holds(t, f, 0, want)
	must(t, f.Program(0, row(64)), api.OK)
	holds(t, f, 0, row(64))
	must(t, f.Program(0, full(0xff)), api.OK)
	holds(t, f, 0, row(64))
	must(t, f.Erase(0), api.OK)
	holds(t, f, 0, full(0xff))
	holds(t, f, 1, full(0))
	must(t, f.Erase(1), api.OK)
	holds(t, f, 1, full(0xff))
}

// P11.1: places that there are not, rows too long.
func TestWrongArguments(t *testing.T) {
	f := page.New(3)
	for _, i := range []int{-1, 3, 4, math.MaxInt, math.MinInt} {
		must(t, f.Erase(i), api.ErrArg)
		must(t, f.Program(i, nil), api.ErrArg)
		if b, err := f.Read(i); err != api.ErrArg || len(b) != 0 {
			t.Error(i, err)
		}
	}
	must(t, f.Program(0, row(65)), api.ErrArg)
	must(t, f.Program(0, row(200)), api.ErrArg)
	for i := range 3 {
		holds(t, f, i, full(0xff))
	}
}

// P11.2: behind n more the next one tears: only what would not err counts.
func TestFuse(t *testing.T) {
	for n := range 5 {
		for _, tear := range []int{0, 1, 30, 63, 64, 65, -1, math.MaxInt, math.MinInt} {
			held := min(max(tear, 0), 64)
			f := page.New(2)
			must(t, f.Program(0, full(0)), api.OK)
			f.Fuse(n, tear)
			for i := range n {
				must(t, f.Erase(2), api.ErrArg)
				must(t, f.Program(1, row(65)), api.ErrArg)
				if i%2 == 0 {
					must(t, f.Erase(1), api.OK)
				} else {
					must(t, f.Program(1, row(64)), api.OK)
				}
			}
			if f.Dead() {
				t.Error("too early")
			}
			must(t, f.Erase(0), api.ErrDead)
			if !f.Dead() {
				t.Error("not dead")
			}
			holds(t, f, 0, append(full(0xff)[:held], full(0)[held:]...))
			dead(t, f)
			holds(t, f, 0, append(full(0xff)[:held], full(0)[held:]...))
			f.Boot()
			alive(t, f)
		}
	}
}

// dead: all further ones answer ErrDead, ahead of all other errors; it is read all the same.
func dead(t *testing.T, f *page.Flash) {
	t.Helper()
	for range 2 {
		must(t, f.Erase(0), api.ErrDead)
		must(t, f.Erase(-1), api.ErrDead)
		must(t, f.Program(1, row(3)), api.ErrDead)
		must(t, f.Program(0, row(65)), api.ErrDead)
		must(t, f.Program(99, row(65)), api.ErrDead)
	}
	if _, err := f.Read(-1); err != api.ErrArg {
		t.Error(err)
	}
	if !f.Dead() {
		t.Error("not dead")
	}
}

// alive: Boot takes the fuse out, too.
func alive(t *testing.T, f *page.Flash) {
	t.Helper()
	if f.Dead() {
		t.Error("dead")
	}
	for range 9 {
		must(t, f.Erase(0), api.OK)
		must(t, f.Program(0, row(64)), api.OK)
	}
	holds(t, f, 0, row(64))
}

// P11.2: a Program tears, too: no more of it is done than it has.
func TestProgramTears(t *testing.T) {
	for _, c := range []struct{ n, tear, done int }{{64, 10, 10}, {64, 0, 0}, {64, 64, 64}, {20, 64, 20}, {20, 10, 10}, {20, 20, 20}, {0, 5, 0}} {
		f := page.New(1)
		f.Fuse(0, c.tear)
		must(t, f.Program(0, row(c.n)), api.ErrDead)
		holds(t, f, 0, append(row(c.done), full(0xff)[c.done:]...))
		dead(t, f)
		f.Boot()
		must(t, f.Program(0, row(c.n)), api.OK)
		holds(t, f, 0, append(row(c.n), full(0xff)[c.n:]...))
	}
}

// P11.2: a fuse that is taken out, set anew, set while the power is off.
func TestFuseAgain(t *testing.T) {
	f := page.New(1)
	for _, n := range []int{-1, math.MinInt} {
		f.Fuse(0, 0)
		f.Fuse(n, 0)
		alive(t, f)
	}
	f.Fuse(1, 0)
	must(t, f.Erase(0), api.OK)
	f.Fuse(1, 5)
	must(t, f.Program(0, full(0)), api.OK)
	must(t, f.Erase(0), api.ErrDead)
	holds(t, f, 0, append(full(0xff)[:5], full(0)[5:]...))
	f.Fuse(-1, 0)
	dead(t, f)
	f.Fuse(0, 0)
	dead(t, f)
	f.Boot()
	alive(t, f)
	f.Fuse(0, 0)
	f.Boot()
	alive(t, f)
	f.Fuse(math.MaxInt, 3)
	alive(t, f)
	f.Boot()
	f.Boot()
	alive(t, f)
}

// P11.3: Copy is another one like it: pages, fuse, power.
func TestCopy(t *testing.T) {
	f := page.New(2)
	f.Program(0, row(64))
	f.Fuse(1, 7)
	o := f.Copy()
	must(t, f.Erase(0), api.OK)
	must(t, f.Erase(1), api.ErrDead)
	if o.Dead() || o.Len() != 2 {
		t.Error("the copy is dead, too")
	}
	holds(t, o, 0, row(64))
	d := f.Copy()
	dead(t, d)
	d.Boot()
	if d.Dead() || !f.Dead() {
		t.Error("Boot of the copy")
	}
	must(t, o.Program(1, full(1)), api.OK)
	must(t, o.Program(1, full(0)), api.ErrDead)
	holds(t, o, 1, append(full(0)[:7], full(1)[7:]...))
	holds(t, f, 1, full(0xff))
}

// P11.3: what is answered is new, what is handed in is left alone.
func TestNothingIsShared(t *testing.T) {
	f := page.New(2)
	room := row(64)
	must(t, f.Program(0, room[:10]), api.OK)
	if !bytes.Equal(room, row(64)) {
		t.Error("changed")
	}
	clear(room)
	b := read(t, f, 0)
	_ = append(b, 1)
	clear(b)
	holds(t, f, 0, append(row(10), full(0xff)[10:]...))
	holds(t, f, 1, full(0xff))
}

// P11.3: a nil Flash, and one that no one made.
func TestNilFlash(t *testing.T) {
	var f *page.Flash
	must(t, f.Erase(0), api.ErrArg)
	must(t, f.Program(0, nil), api.ErrArg)
	if b, err := f.Read(0); err != api.ErrArg || len(b) != 0 {
		t.Error(err)
	}
	f.Fuse(0, 0)
	f.Boot()
	if f.Len() != 0 || !f.Dead() || f.Copy() != nil {
		t.Error("a nil Flash has something")
	}
	zero := &page.Flash{}
	must(t, zero.Erase(0), api.ErrArg)
	if zero.Len() != 0 || zero.Dead() {
		t.Error("one of no pages")
	}
}
