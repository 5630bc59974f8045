package world_test

import (
	"bytes"
	"math"
	"reflect"
	"slices"
	"strconv"
	"testing"

	"ostler/api"
	"ostler/bank"
	"ostler/clock"
	"ostler/digest"
	"ostler/director"
	"ostler/key"
	"ostler/page"
	"ostler/repo"
	"ostler/world"
)

type step = world.Step

func publish(name, data string, counter, m int) step {
	return step{Kind: world.StepPublish, Name: name, Data: []byte(data), N: counter, M: m}
}

func assign(m int, name string) step { return step{Kind: world.StepAssign, M: m, Name: name} }

func sign(m, life int) step { return step{Kind: world.StepSign, M: m, N: life} }

func rotate(m int) step { return step{Kind: world.StepRotate, M: m} }

func tick(n int) step { return step{Kind: world.StepTick, N: n} }

func on(kind, m int) step { return step{Kind: kind, M: m} }

func offer(m int) step { return on(world.StepOffer, m) }

func forge(m, which, at int, by byte) step {
	return step{Kind: world.StepForge, M: m, N: which, At: at, By: by}
}

func fuse(m, n, tear int) step { return step{Kind: world.StepFuse, M: m, N: n, At: tear} }

var (
	keep  = on(world.StepKeep, 0)
	again = on(world.StepAgain, 0)
)

func newWorld(t *testing.T, ecus int) *world.World {
	t.Helper()
	w, err := world.New(ecus)
	if err != api.OK {
		t.Fatal(err)
	}
	return w
}

// does wants one answer of one step.
func does(t *testing.T, w *world.World, s step, want api.Errno) {
	t.Helper()
	if got := w.Do(s); got != want {
		t.Errorf("%+v: %v, not %v", s, got, want)
	}
}

func all(t *testing.T, w *world.World, l ...step) {
	t.Helper()
	for i, err := range w.Run(l...) {
		if err != api.OK {
			t.Errorf("%d, %+v: %v", i, l[i], err)
		}
	}
}

func runs(t *testing.T, w *world.World, i int, name, data string, counter int) {
	t.Helper()
	s, b := w.Ecu(i).Running()
	if s.Name != name || string(b) != data || s.Counter != counter {
		t.Errorf("ECU %d: %q %q %d, not %q %q %d", i, s.Name, b, s.Counter, name, data, counter)
	}
}

// ready is a world of two ECUs, to each of which an image is assigned, and signed.
func ready(t *testing.T) *world.World {
	t.Helper()
	w := newWorld(t, 2)
	all(t, w, publish("a", "image a", 1, 0), publish("b", "image b", 2, 1), assign(0, "a"), assign(1, "b"), sign(0, 100), sign(1, 100))
	return w
}

func seed(b byte) api.Hash { return digest.Sum([]byte{b}) }

// P20.1: who there is, of which seeds.
func TestNew(t *testing.T) {
	for _, n := range []int{0, -1, 5, math.MaxInt, math.MinInt} {
		if w, err := world.New(n); w != nil || err != api.ErrArg {
			t.Error(n, err)
		}
	}
	for n := 1; n <= api.MaxEcus; n++ {
		w := newWorld(t, n)
		images, director := repo.New(seed(1)), director.New(seed(2))
		if !reflect.DeepEqual(w.Images().Root(), images.Root()) || !reflect.DeepEqual(w.Director().Repo().Root(), director.Repo().Root()) || w.Now() != 0 {
			t.Error("seeds")
		}
		for i := range n {
			e := w.Ecu(i)
			if w.Name(i) != "e"+strconv.Itoa(i) || e.Public() != key.New(seed(byte(10+i)), 0).Public() {
				t.Error(i, w.Name(i))
			}
			runs(t, w, i, "", string([]byte{byte(i)}), 0)
			im, di := e.Trusted()
			if !reflect.DeepEqual(im, api.Trusted{Root: images.Root()}) || !reflect.DeepEqual(di, api.Trusted{Root: director.Repo().Root()}) {
				t.Error("roots")
			}
			nonce, _ := e.Nonce()
			a, _ := clock.New(seed(3)).Attest(nonce, 5)
			if err := e.SetTime(a); err != api.OK {
				t.Error("the clock", err)
			}
			does(t, w, on(world.StepReport, i), api.OK) // it is enrolled
		}
		for _, i := range []int{-1, n, math.MaxInt, math.MinInt} {
			if w.Ecu(i) != nil || w.Name(i) != "" {
				t.Error(i)
			}
		}
		if len(w.Director().Inventory()) != n {
			t.Error(len(w.Director().Inventory()))
		}
	}
}

// P20.1: hardware, and which ECUs are full.
func TestHardwareAndFull(t *testing.T) {
	w := newWorld(t, 4)
	all(t, w, publish("a", "0", 1, 0), publish("b", "1", 1, 7))
	for i := range 4 {
		mine, other := "a", "b"
		if i%2 == 1 {
			mine, other = other, mine
		}
		does(t, w, assign(i, other), api.ErrArg)
		does(t, w, assign(i, mine), api.OK)
	}
	does(t, w, sign(1, 9), api.OK)
	for i := range 4 {
		if i%2 == 0 {
			does(t, w, offer(i), api.ErrSigned) // the images' repository signed nothing
		} else {
			does(t, w, offer(i), api.OK)
		}
	}
}

// P20.2: kinds and places that there are not.
func TestWrongSteps(t *testing.T) {
	w := ready(t)
	for _, k := range []int{0, -1, 15, math.MaxInt, math.MinInt} {
		does(t, w, on(k, 0), api.ErrArg)
	}
	ofEcus := []int{world.StepAssign, world.StepTime, world.StepOffer, world.StepForge, world.StepReplay, world.StepFuse, world.StepBoot, world.StepReport}
	for _, m := range []int{-1, 2, 4, math.MaxInt, math.MinInt} {
		for _, k := range append(ofEcus, world.StepSign, world.StepRotate) {
			does(t, w, step{Kind: k, M: m, Name: "a"}, api.ErrArg)
		}
		does(t, w, step{Kind: world.StepTick, M: m}, api.OK)
		does(t, w, step{Kind: world.StepKeep, M: m}, api.OK)
		does(t, w, step{Kind: world.StepAgain, M: m}, api.ErrNone)
	}
	w = newWorld(t, 1)
	all(t, w, sign(1, 5), rotate(1)) // M 1 is a repository, though no ECU
}

// P20.2: Publish.
func TestPublish(t *testing.T) {
	w := newWorld(t, 1)
	for _, s := range []step{publish("a", string(make([]byte, 513)), 1, 0), publish("a", "", 1, -1), publish("a", "", 1, math.MinInt), publish("", "", 1, 0), publish("A", "", 1, 0), publish("a", "", -1, 0), publish("a", "", api.MaxNumber+1, 0)} {
		does(t, w, s, api.ErrArg)
	}
	if b, ok := w.Blob("a"); ok || len(b) != 0 || len(w.Images().Targets()) != 0 {
		t.Error("something is there")
	}
	all(t, w, publish("a", "", 7, 0), publish("b", "data", 0, math.MaxInt))
	want := []api.Target{{Name: "a", Sum: digest.Sum(nil), Hardware: "h0", Counter: 7}, {Name: "b", Size: 4, Sum: digest.Sum([]byte("data")), Hardware: "h1"}}
	if got := w.Images().Targets(); !slices.Equal(got, want) {
		t.Error(got)
	}
	for name, want := range map[string]string{"a": "", "b": "data"} {
		if b, ok := w.Blob(name); !ok || string(b) != want {
			t.Error(name, b)
		}
	}
	for i := range api.MaxList - 2 {
		does(t, w, publish("n"+string(rune('a'+i)), "x", 0, 0), api.OK)
	}
	does(t, w, publish("z", "x", 0, 0), api.ErrFull)
	if _, ok := w.Blob("z"); ok {
		t.Error("z")
	}
	long := string(bytes.Repeat([]byte("x"), api.MaxImage))
	does(t, w, publish("a", long, 8, 0), api.OK)
	does(t, w, publish("a", long+"x", 8, 0), api.ErrArg)
	if b, ok := w.Blob("a"); !ok || string(b) != long {
		t.Error(len(b))
	}
	does(t, w, publish("a", "new", 8, 0), api.OK)
	if b, ok := w.Blob("a"); !ok || string(b) != "new" || w.Images().Targets()[0].Counter != 8 {
		t.Error(b)
	}
}

// P20.2: Assign of what the images have; what was Assigned stays till it is anew.
func TestAssign(t *testing.T) {
	w := newWorld(t, 2)
	does(t, w, assign(0, "a"), api.ErrNone)
	all(t, w, publish("a", "image", 3, 0), assign(0, "a"))
	does(t, w, assign(0, "b"), api.ErrNone)
	does(t, w, assign(1, "a"), api.ErrArg)
	v := w.Images().Targets()[0]
	v.Ecu = "e0"
	if got, ok := w.Director().Assigned("e0"); !ok || got != v {
		t.Error(got)
	}
	u := v
	u.Name = "u"
	if err := w.Images().Publish(u); err != api.OK {
		t.Error(err)
	}
	does(t, w, assign(0, "u"), api.ErrNone) // it is of an ECU
	does(t, w, publish("a", "other image", 4, 0), api.OK)
	if got, _ := w.Director().Assigned("e0"); got != v {
		t.Error(got)
	}
	all(t, w, sign(0, 9), sign(1, 9))
	does(t, w, offer(0), api.ErrSum)
	all(t, w, assign(0, "a"), sign(1, 9), offer(0))
	runs(t, w, 0, "a", "other image", 4)
}

// P20.2: Sign and Rotate, by Now, of either repository.
func TestSignAndRotate(t *testing.T) {
	w := newWorld(t, 1)
	used := func(a, b, c, d int) {
		t.Helper()
		p, q := w.Images().Used()
		r, s := w.Director().Repo().Used()
		if p != a || q != b || r != c || s != d {
			t.Error(p, q, r, s)
		}
	}
	all(t, w, tick(5), sign(0, 7))
	used(0, 3, 0, 0)
	all(t, w, sign(1, 7))
	used(0, 3, 0, 3)
	all(t, w, rotate(0))
	used(1, 0, 0, 3)
	all(t, w, rotate(1))
	used(1, 0, 1, 0)
	does(t, w, sign(0, -1), api.ErrArg)
	does(t, w, sign(1, api.MaxNumber-4), api.ErrArg)
	does(t, w, sign(1, api.MaxNumber-5), api.OK)
	for range 4 {
		all(t, w, sign(1, 1))
	}
	does(t, w, sign(1, 1), api.ErrUsed)
	for range 15 {
		all(t, w, rotate(0))
	}
	does(t, w, rotate(0), api.ErrUsed)
}

// P20.2: Tick.
func TestTick(t *testing.T) {
	w := newWorld(t, 1)
	for _, n := range []int{-1, math.MinInt, api.MaxNumber + 1, math.MaxInt} {
		does(t, w, tick(n), api.ErrArg)
	}
	all(t, w, tick(0), tick(3), tick(4))
	if w.Now() != 7 {
		t.Error(w.Now())
	}
	does(t, w, tick(api.MaxNumber-6), api.ErrArg)
	does(t, w, tick(math.MaxInt), api.ErrArg)
	all(t, w, tick(api.MaxNumber-7))
	if w.Now() != api.MaxNumber {
		t.Error(w.Now())
	}
	does(t, w, tick(1), api.ErrArg)
	does(t, w, tick(0), api.OK)
}

// P20.2: Time: sixteen times, by the clock of all.
func TestTime(t *testing.T) {
	w := newWorld(t, 2)
	for i := range api.Leaves {
		all(t, w, tick(2), on(world.StepTime, i%2))
		if got := w.Ecu(i % 2).Now(); got != w.Now() || got != 2*(i+1) {
			t.Error(got)
		}
	}
	does(t, w, on(world.StepTime, 0), api.ErrUsed)
	all(t, w, fuse(0, 0, 0))
	does(t, w, on(world.StepTime, 0), api.ErrDead)
	if w.Ecu(0).Now() != 30 {
		t.Error(w.Ecu(0).Now())
	}
}

// P20.2: Offer; the chapter's example.
func TestOffer(t *testing.T) {
	w := newWorld(t, 2)
	does(t, w, offer(0), api.ErrSigned)
	all(t, w, sign(0, 100), sign(1, 100))
	does(t, w, offer(0), api.ErrNone)
	w = ready(t)
	all(t, w, offer(0), offer(1), offer(0), offer(1))
	runs(t, w, 0, "a", "image a", 1)
	runs(t, w, 1, "b", "image b", 2)
	all(t, w, tick(100), on(world.StepTime, 0))
	does(t, w, offer(0), api.ErrExpired)
	does(t, w, offer(1), api.OK) // it does not know
}

// P20.2: what is Assigned, and nothing is under its name.
func TestOfferOfNoData(t *testing.T) {
	w := newWorld(t, 1)
	v := api.Target{Name: "x", Size: 3, Sum: digest.Sum([]byte("xyz")), Hardware: "h0"}
	for _, r := range []*repo.Repo{w.Images(), w.Director().Repo()} {
		u := v
		if r != w.Images() {
			u.Ecu = "e0"
		}
		if err := r.Publish(u); err != api.OK {
			t.Error(err)
		}
	}
	all(t, w, sign(0, 9), sign(1, 9))
	does(t, w, offer(0), api.ErrSum)
	does(t, w, forge(0, 0, 3, 1), api.ErrSum)
	does(t, w, publish("x", "xyz", 0, 0), api.OK)
	does(t, w, offer(0), api.OK)
}

// P20.3: which byte is turned, by what the ECU says of it.
func TestForge(t *testing.T) {
	for _, n := range []int{0, 1, 2, 3, 4, 5, 6} {
		want := map[int]api.Errno{0: api.ErrSum, 1: api.ErrSigned, 2: api.ErrSum, 3: api.ErrSigned, 4: api.ErrSigned, 5: api.ErrSum, 6: api.ErrSigned}[n]
		w := ready(t)
		for _, which := range []int{n, n + 7, n - 7, n - 700, 7*1000 + n} {
			does(t, w, forge(0, which, 20, 1), want)
			runs(t, w, 0, "", "\x00", 0)
		}
		does(t, w, forge(0, n, 20, 0), api.OK) // by nothing
		runs(t, w, 0, "a", "image a", 1)
	}
	w := ready(t)
	does(t, w, forge(1, 4, 20, 1), api.OK) // it is not full: the images' are not asked
	runs(t, w, 1, "b", "image b", 2)
	w = newWorld(t, 1) // of none nothing is turned
	for n := range 7 {
		does(t, w, forge(0, n, 5, 1), api.ErrSigned)
	}
	does(t, w, forge(0, math.MinInt, math.MinInt, 1), api.ErrSigned)
	does(t, w, forge(0, math.MaxInt, math.MaxInt, 1), api.ErrSigned)
}

// P20.3: the place: At modulo how many there are, below 0 as 0.
func TestForgeAt(t *testing.T) {
	w := ready(t)
	l := len(w.Director().Repo().Bundle().Targets[0].Body)
	for _, at := range []int{0, -1, math.MinInt, l, 5 * l} {
		does(t, w, forge(0, 3, at, 2), api.ErrForm) // the kind is another one
		does(t, w, forge(0, 6, 0, 2), api.ErrForm)
		does(t, w, forge(0, 1, at, 2), api.ErrSigned) // of Time that is asked later
		does(t, w, forge(0, 4, at, 2), api.ErrSigned)
		does(t, w, forge(0, 2, at, 2), api.ErrSum)
		does(t, w, forge(0, 5, at, 2), api.ErrSum)
	}
	for _, at := range []int{l - 1, 2*l - 1, 20} {
		if err := w.Do(forge(0, 3, at, 1)); err != api.ErrForm && err != api.ErrSigned {
			t.Error(at, err)
		}
	}
	for at := range 40 {
		does(t, w, forge(0, 0, at, 0x80), api.ErrSum)
	}
	does(t, w, offer(0), api.OK) // what is handed out is not changed
	if b, _ := w.Blob("a"); string(b) != "image a" {
		t.Error(b)
	}
}

// P20.3: which byte of Data it is: turned back, what was turned is as it was signed.
func TestForgeBack(t *testing.T) {
	for _, data := range []string{"i", "image"} {
		for place := range len(data) {
			turned := []byte(data)
			turned[place] ^= 0x21
			n := len(data)
			ats := []int{place, place + n, place + 1000*n}
			if place == 0 {
				ats = append(ats, -1, -n, math.MinInt)
			}
			for _, at := range ats {
				w := newWorld(t, 1)
				all(t, w, publish("a", data, 1, 0), assign(0, "a"), sign(0, 9), sign(1, 9), publish("a", string(turned), 1, 0))
				does(t, w, offer(0), api.ErrSum)
				if n > 1 {
					does(t, w, forge(0, 0, place+1, 0x21), api.ErrSum)
				}
				does(t, w, forge(0, 7, at, 0x21), api.OK)
				runs(t, w, 0, "a", data, 1)
			}
		}
	}
}

// P20.3: what was kept is offered again.
func TestKeepAndReplay(t *testing.T) {
	w := ready(t)
	replay := on(world.StepReplay, 0)
	does(t, w, replay, api.ErrNone)
	all(t, w, keep, publish("a", "newer a", 3, 0), assign(0, "a"), sign(0, 100), sign(1, 100), replay)
	runs(t, w, 0, "a", "image a", 1)
	all(t, w, offer(0), keep)
	runs(t, w, 0, "a", "newer a", 3)
	all(t, w, replay, sign(0, 100), sign(1, 100), replay, offer(0))
	does(t, w, replay, api.ErrOld)
	all(t, w, on(world.StepReplay, 1))
	runs(t, w, 1, "b", "image b", 2)
	w = newWorld(t, 1)
	all(t, w, keep)
	does(t, w, replay, api.ErrSigned) // nothing was there, and that was kept
	does(t, w, on(world.StepReplay, 1), api.ErrArg)
}

// P20.3: Fuse, Boot.
func TestFuseAndBoot(t *testing.T) {
	w := ready(t)
	all(t, w, fuse(0, 3, 10))
	does(t, w, offer(0), api.ErrDead)
	does(t, w, offer(0), api.ErrDead)
	does(t, w, on(world.StepReport, 0), api.ErrDead)
	all(t, w, offer(1), on(world.StepBoot, 0))
	runs(t, w, 0, "", "\x00", 0)
	all(t, w, offer(0), fuse(0, 0, 0), fuse(0, -1, 0), on(world.StepReport, 0), fuse(0, 0, 0), on(world.StepBoot, 0), on(world.StepTime, 0))
	runs(t, w, 0, "a", "image a", 1)
	if err := w.Ecu(0).Flash().Erase(0); err != api.OK {
		t.Error(err)
	}
	if err := w.Ecu(0).Flash().Erase(2 * api.SlotPages); err != api.OK {
		t.Error(err)
	}
	if err := w.Ecu(0).Flash().Erase(2*api.SlotPages + api.BankPages); err != api.OK {
		t.Error(err)
	}
	does(t, w, on(world.StepBoot, 0), api.ErrSum)
}

// P20.3: Report, Again.
func TestReport(t *testing.T) {
	w := ready(t)
	does(t, w, again, api.ErrNone)
	all(t, w, on(world.StepReport, 0))
	does(t, w, again, api.ErrOld)
	does(t, w, on(world.StepReport, 0), api.ErrOld) // of the same nonce
	all(t, w, on(world.StepTime, 0), offer(0), on(world.StepReport, 0), on(world.StepReport, 1))
	want := []api.Report{
		{Ecu: "e0", Name: "a", Sum: digest.Sum([]byte("image a")), Counter: 1, Nonce: 1},
		{Ecu: "e1", Sum: digest.Sum([]byte{1})},
	}
	if got := w.Director().Inventory(); !slices.Equal(got, want) {
		t.Error(got)
	}
	for range 13 {
		does(t, w, on(world.StepReport, 0), api.ErrOld)
	}
	does(t, w, on(world.StepReport, 0), api.ErrUsed)
	// The last one that was signed is sent again, also where it was not accepted.
	if err := w.Director().Enroll("e1", "h1", api.Hash{}); err != api.OK {
		t.Error(err)
	}
	all(t, w, on(world.StepTime, 1))
	does(t, w, on(world.StepReport, 1), api.ErrSigned)
	if err := w.Director().Enroll("e1", "h1", w.Ecu(1).Public()); err != api.OK {
		t.Error(err)
	}
	does(t, w, again, api.OK)
	does(t, w, again, api.ErrOld)
}

// P20.4: Run is of each Do.
func TestRun(t *testing.T) {
	w := newWorld(t, 1)
	got := w.Run(tick(1), tick(-1), again, tick(2), step{})
	if !slices.Equal(got, []api.Errno{api.OK, api.ErrArg, api.ErrNone, api.OK, api.ErrArg}) || w.Now() != 3 || len(w.Run()) != 0 {
		t.Error(got)
	}
}

// P20.4, W6: what is answered is new, what is handed in is neither changed nor kept.
func TestNothingIsShared(t *testing.T) {
	w := newWorld(t, 1)
	room := []byte("data and room")
	s := step{Kind: world.StepPublish, Name: "a", Data: room[:4], N: 1}
	all(t, w, s)
	clear(room[:4])
	b, _ := w.Blob("a")
	_ = append(b, 7)
	clear(b)
	if b, _ := w.Blob("a"); string(b) != "data" || string(room[4:]) != " and room" {
		t.Error("shared")
	}
	all(t, w, assign(0, "a"), sign(0, 9), sign(1, 9), keep, forge(0, 0, 0, 0), on(world.StepReplay, 0), on(world.StepReplay, 0))
	runs(t, w, 0, "a", "data", 1)
}

// P20.4, W8: a nil World, and one that no one made.
func TestNilWorld(t *testing.T) {
	var w *world.World
	for k := range 16 {
		does(t, w, on(k, 0), api.ErrArg)
	}
	if len(w.Run(tick(1))) != 0 || w.Now() != 0 || w.Images() != nil || w.Director() != nil || w.Ecu(0) != nil || w.Name(0) != "" {
		t.Error("a nil World has something")
	}
	if b, ok := w.Blob("a"); ok || len(b) != 0 {
		t.Error(b)
	}
	zero := &world.World{}
	for k := range 16 {
		zero.Do(step{Kind: k, Name: "a"})
	}
	zero.Blob("a")
}

// seen is all that can be seen of a world.
type seen struct {
	now       int
	inventory []api.Report
	images    api.Bundle
	director  api.Bundle
	ledgers   [2][]api.Target
	ecus      []one
}

type one struct {
	state           bank.State
	image           []byte
	trust, director api.Trusted
	now             int
	flash           [][]byte
}

func look(w *world.World, ecus int) seen {
	s := seen{
		now: w.Now(), inventory: w.Director().Inventory(), images: w.Images().Bundle(), director: w.Director().Repo().Bundle(),
		ledgers: [2][]api.Target{w.Images().Ledger(), w.Director().Repo().Ledger()},
	}
	for i := range ecus {
		s.ecus = append(s.ecus, lookAt(w, i))
		s.ecus[i].flash = pages(w.Ecu(i).Flash())
	}
	return s
}

// lookAt leaves the flash out: what is torn there is not seen.
func lookAt(w *world.World, i int) one {
	var o one
	e := w.Ecu(i)
	o.state, o.image = e.Running()
	o.trust, o.director = e.Trusted()
	o.now = e.Now()
	return o
}

func pages(f *page.Flash) [][]byte {
	var l [][]byte
	for i := range f.Len() {
		b, _ := f.Read(i)
		l = append(l, b)
	}
	return l
}

// dice are steps by a short rule: the same ones each time.
type dice uint32

func (d *dice) below(n int) int {
	*d = *d*1664525 + 1013904223
	return int(*d>>8) % n
}

// toss is a step of any kind; now and then all that an image needs to be offered.
func (d *dice) toss(ecus, i int) []step {
	m := d.below(ecus)
	kind := m % 2
	name := "n" + strconv.Itoa(2*d.below(2)+kind)
	release := publish(name, "data"+strconv.Itoa(d.below(4)), i/9+d.below(3), kind)
	switch d.below(20) {
	case 0, 1, 2:
		return []step{release, assign(m, name), sign(0, 9+d.below(60)), sign(1, 9+d.below(60)), offer(m)}
	case 3:
		return []step{release}
	case 4:
		return []step{publish(name, "other", d.below(3), d.below(2)), assign(m, name)}
	case 5:
		return []step{sign(0, 5+d.below(60))}
	case 6:
		return []step{sign(1, 5+d.below(60))}
	case 7:
		r := d.below(2)
		return []step{rotate(r), sign(r, 40)}
	case 8:
		return []step{rotate(d.below(2))}
	case 9:
		return []step{tick(d.below(8))}
	case 10:
		return []step{on(world.StepTime, m)}
	case 11, 12:
		return []step{offer(m)}
	case 13:
		return []step{forge(m, d.below(14)-7, d.below(300)-5, byte(d.below(256)))}
	case 14:
		return []step{keep}
	case 15:
		return []step{on(world.StepReplay, m)}
	case 16:
		return []step{fuse(m, d.below(90), d.below(70))}
	case 17:
		return []step{on(world.StepBoot, m)}
	case 18:
		return []step{on(world.StepTime, m), on(world.StepReport, m)}
	}
	return []step{on(world.StepReport, m), again}
}

// story is a world that is led by dice, and what every step is asked.
type story struct {
	t    *testing.T
	w    *world.World
	ecus int
	was  []one
	ran  []map[api.Report]int // of each ECU what it ran, as reports without a nonce
}

func newStory(t *testing.T, ecus int) *story {
	s := &story{t: t, w: newWorld(t, ecus), ecus: ecus}
	for i := range ecus {
		s.was = append(s.was, lookAt(s.w, i))
		s.ran = append(s.ran, map[api.Report]int{})
		s.note(i)
	}
	return s
}

func (s *story) note(i int) {
	o := s.was[i].state
	s.ran[i][api.Report{Ecu: s.w.Name(i), Name: o.Name, Sum: o.Sum, Counter: o.Counter}]++
}

// do does a step, and asks P0.1, P0.2 and P0.4 behind it.
func (s *story) do(x step) api.Errno {
	s.t.Helper()
	err := s.w.Do(x)
	for i := range s.ecus {
		now := lookAt(s.w, i)
		s.ledger(i, now)
		s.nothingFalls(i, s.was[i], now)
		if offered := x.Kind == world.StepOffer || x.Kind == world.StepForge || x.Kind == world.StepReplay; offered && err == api.OK && x.M == i {
			s.fresh(i, now)
		}
		s.was[i] = now
		s.note(i)
	}
	s.reports()
	if x.Kind == world.StepReport && err == api.OK && s.w.Do(again) != api.ErrOld {
		s.t.Error("a report is accepted twice")
	}
	return err
}

// ledger, P0.1: what runs is what the factory laid, or what was signed for it.
func (s *story) ledger(i int, now one) {
	s.t.Helper()
	n, o := s.w.Name(i), now.state
	if o.Sum != digest.Sum(now.image) || o.Size != len(now.image) {
		s.t.Error(n, "runs other bytes than told")
	}
	if o.Name == "" && bytes.Equal(now.image, []byte{byte(i)}) && o.Counter == 0 {
		return
	}
	want := api.Target{Name: o.Name, Size: o.Size, Sum: o.Sum, Hardware: "h" + strconv.Itoa(i%2), Counter: o.Counter, Ecu: n}
	if !slices.Contains(s.w.Director().Repo().Ledger(), want) {
		s.t.Error(n, "runs what the director did not sign", want)
	}
	want.Ecu = ""
	if i%2 == 0 && !slices.Contains(s.w.Images().Ledger(), want) {
		s.t.Error(n, "runs what the images' repository did not sign", want)
	}
}

// nothingFalls, P0.2: counters, versions, the time, which never exceeds the clock.
func (s *story) nothingFalls(i int, was, now one) {
	s.t.Helper()
	if now.state.Counter < was.state.Counter || now.now < was.now || now.now > s.w.Now() {
		s.t.Error(i, "falls, or exceeds", was.now, now.now, s.w.Now())
	}
	for _, p := range [][2]api.Trusted{{was.trust, now.trust}, {was.director, now.director}} {
		a, b := p[0], p[1]
		if b.Root.Version < a.Root.Version || a.Set && !b.Set || b.Time.Version < a.Time.Version || b.Snap.Version < a.Snap.Version {
			s.t.Error(i, "a version falls")
		}
		for k, x := range a.Targets {
			if b.Targets[k].Version < x.Version {
				s.t.Error(i, "a version falls")
			}
		}
	}
}

// fresh, P0.2: nothing is trusted that had expired.
func (s *story) fresh(i int, now one) {
	s.t.Helper()
	for k, v := range []api.Trusted{now.director, now.trust} {
		if k == 1 && i%2 == 1 {
			continue
		}
		if v.Root.Expires <= now.now || v.Time.Expires <= now.now || v.Snap.Expires <= now.now || v.Targets[0].Expires <= now.now {
			s.t.Error(i, "is expired")
		}
	}
}

// reports, P0.4: what the inventory tells of an ECU it ran.
func (s *story) reports() {
	s.t.Helper()
	for _, r := range s.w.Director().Inventory() {
		i := int(r.Ecu[1] - '0')
		r.Nonce = 0
		if s.ran[i][r] == 0 {
			s.t.Error("it never ran", r)
		}
	}
}

// P0.1, P0.2, P0.4: by dice.
func TestStories(t *testing.T) {
	taken := 0
	for n := range 30 {
		d, s := dice(n), newStory(t, 1+n%4)
		for i := range 90 {
			for _, x := range d.toss(s.ecus, i) {
				if s.do(x) == api.OK && x.Kind == world.StepOffer {
					taken++
				}
			}
		}
		if t.Failed() {
			t.Fatal(n)
		}
	}
	if taken < 150 {
		t.Error("few offers were taken", taken)
	}
}

// P0.6: the same steps, the same worlds; how they are handed in does not count.
func TestTwins(t *testing.T) {
	for n := range 8 {
		d := dice(n + 1000)
		a, b := newWorld(t, 3), newWorld(t, 3)
		var l []step
		for i := range 100 {
			l = append(l, d.toss(3, i)...)
		}
		var one []api.Errno
		for _, s := range l {
			one = append(one, a.Do(s))
			look(a, 3)
		}
		if two := b.Run(l...); !slices.Equal(one, two) {
			t.Error(n, "answers")
		}
		if !reflect.DeepEqual(look(a, 3), look(b, 3)) {
			t.Error(n, "worlds")
		}
	}
}

// P0.5: behind whatever came, an image that fits, signed by keys that are not
// used up, and offered behind the time, runs, and is reported.
func TestItGoesOn(t *testing.T) {
	went := 0
	for n := range 25 {
		d, s := dice(n+77), newStory(t, 2)
		for i := range 50 {
			for _, x := range d.toss(2, i) {
				s.do(x)
			}
		}
		for i := range 2 {
			s.do(on(world.StepBoot, i))
			for _, m := range []int{0, 1} {
				if _, used := s.repo(m).Used(); used > api.Leaves-3 {
					s.do(rotate(m))
				}
			}
			if s.do(on(world.StepTime, i)) != api.OK {
				continue // the clock is used up
			}
			data := "the last image of " + strconv.Itoa(i)
			for _, x := range []step{publish("last"+strconv.Itoa(i), data, 500, i), assign(i, "last"+strconv.Itoa(i)), sign(0, 9), sign(1, 9), offer(i), on(world.StepReport, i)} {
				if err := s.do(x); err != api.OK {
					t.Errorf("%d: %+v: %v", n, x, err)
				}
			}
			runs(t, s.w, i, "last"+strconv.Itoa(i), data, 500)
			if !slices.ContainsFunc(s.w.Director().Inventory(), func(r api.Report) bool {
				return r.Ecu == s.w.Name(i) && r.Counter == 500 && r.Sum == digest.Sum([]byte(data))
			}) {
				t.Error(n, "is not reported")
			}
			went++
		}
	}
	if went < 40 {
		t.Error("few went on", went)
	}
}

func (s *story) repo(m int) *repo.Repo {
	if m == 0 {
		return s.w.Images()
	}
	return s.w.Director().Repo()
}

// P0.3: at every crash point, torn writes too, behind Boot all is as it was, or
// as it was to be; booted twice it is booted once; then it goes on.
func TestCrashes(t *testing.T) {
	for _, deed := range []step{offer(0), on(world.StepTime, 0), on(world.StepReport, 0)} {
		begin := func() *world.World {
			w := ready(t)
			all(t, w, offer(0), publish("a", "newer a", 2, 0), assign(0, "a"), sign(0, 50), sign(1, 50), tick(3), on(world.StepTime, 0))
			return w
		}
		w := begin()
		states := []one{lookAt(w, 0)}
		all(t, w, deed)
		states = append(states, lookAt(w, 0))
		if deed.Kind == world.StepTime { // it keeps twice: the nonce alone, too
			w = begin()
			w.Ecu(0).Nonce()
			states = append(states, lookAt(w, 0))
		}
		for n := 0; ; n++ {
			done := false
			for _, tear := range []int{0, 1, 17, 63, 64} {
				w := begin()
				all(t, w, fuse(0, n, tear))
				if err := w.Do(deed); err == api.OK {
					done = true
					continue
				}
				for range 2 {
					all(t, w, on(world.StepBoot, 0))
					got := lookAt(w, 0)
					if !slices.ContainsFunc(states, func(o one) bool { return reflect.DeepEqual(o, got) }) {
						t.Fatal(deed.Kind, n, tear, "neither")
					}
				}
				all(t, w, on(world.StepTime, 0), offer(0), on(world.StepReport, 0))
				runs(t, w, 0, "a", "newer a", 2)
			}
			if done {
				break
			}
		}
	}
}

// P0.1: every byte that is turned, of every part, runs nothing.
func TestForgedBytes(t *testing.T) {
	w := ready(t)
	was := lookAt(w, 0)
	d, im := w.Director().Repo().Bundle(), w.Images().Bundle()
	data, _ := w.Blob("a")
	sizes := []int{len(data), len(d.Time.Body), len(d.Snap.Body), len(d.Targets[0].Body), len(im.Time.Body), len(im.Snap.Body), len(im.Targets[0].Body)}
	for which, size := range sizes {
		for at := range size {
			for _, by := range []byte{1, 0x80} {
				if w.Do(forge(0, which, at, by)) == api.OK {
					t.Error("is taken", which, at)
				}
			}
		}
	}
	if !reflect.DeepEqual(lookAt(w, 0), was) {
		t.Error("changed")
	}
	all(t, w, offer(0))
}
