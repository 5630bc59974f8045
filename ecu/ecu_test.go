package ecu_test

import (
	"bytes"
	"reflect"
	"strings"
	"testing"

	"ostler/api"
	"ostler/bank"
	"ostler/clock"
	"ostler/digest"
	"ostler/director"
	"ostler/ecu"
	"ostler/key"
	"ostler/octet"
	"ostler/quorum"
	"ostler/repo"
	"ostler/tuf"
	"ostler/wire"
)

func must(t *testing.T, err, want api.Errno) {
	t.Helper()
	if err != want {
		t.Errorf("%v, not %v", err, want)
	}
}

// yard is both repositories, a clock, and one ECU, e0.
type yard struct {
	t        *testing.T
	images   *repo.Repo
	director *director.Director
	clock    *clock.Clock
	e        *ecu.Ecu
}

var factory = []byte("factory")

func (y *yard) config(full bool) ecu.Config {
	return ecu.Config{Name: "e0", Hardware: "h0", Full: full, Seed: api.Hash{40}, Image: y.images.Root(), Director: y.director.Repo().Root(), Clock: y.clock.Public(), Factory: factory}
}

func newYard(t *testing.T, full bool) *yard {
	t.Helper()
	y := &yard{t: t, images: repo.New(api.Hash{1}), director: director.New(api.Hash{2}), clock: clock.New(api.Hash{3})}
	e, err := ecu.New(y.config(full))
	if err != api.OK {
		t.Fatal(err)
	}
	y.e = e
	must(t, y.director.Enroll("e0", "h0", e.Public()), api.OK)
	return y
}

func target(name string, data []byte, counter int) api.Target {
	return api.Target{Name: name, Size: len(data), Sum: digest.Sum(data), Hardware: "h0", Counter: counter}
}

// publish lets both sign an image for e0.
func (y *yard) publish(name string, data []byte, counter int) {
	y.t.Helper()
	must(y.t, y.images.Publish(target(name, data, counter)), api.OK)
	must(y.t, y.director.Assign("e0", target(name, data, counter)), api.OK)
	y.sign(0, 100)
}

func (y *yard) sign(now, life int) {
	y.t.Helper()
	must(y.t, y.images.Sign(now, life), api.OK)
	must(y.t, y.director.Repo().Sign(now, life), api.OK)
}

func (y *yard) offer(data []byte) api.Errno {
	return y.e.Offer(y.director.Repo().Bundle(), y.images.Bundle(), data)
}

func (y *yard) time(now int) api.Errno {
	y.t.Helper()
	n, err := y.e.Nonce()
	must(y.t, err, api.OK)
	a, err := y.clock.Attest(n, now)
	must(y.t, err, api.OK)
	return y.e.SetTime(a)
}

// seen is all that can be seen of an ECU.
type seen struct {
	state           bank.State
	image           string
	trust, director api.Trusted
	now             int
}

func look(e *ecu.Ecu) seen {
	s, b := e.Running()
	i, d := e.Trusted()
	return seen{s, string(b), i, d, e.Now()}
}

func same(a, b seen) bool { return reflect.DeepEqual(a, b) }

// stays does something that is to err, and wants all to be as it was, behind Boot too.
func (y *yard) stays(what any, want api.Errno, do func() api.Errno) {
	y.t.Helper()
	was := look(y.e)
	if err := do(); err != want {
		y.t.Errorf("%v: %v, not %v", what, err, want)
	}
	if !same(look(y.e), was) {
		y.t.Errorf("%v: changed", what)
	}
	must(y.t, y.e.Boot(), api.OK)
	if !same(look(y.e), was) {
		y.t.Errorf("%v: changed behind Boot", what)
	}
}

func (y *yard) runs(name string, data []byte, counter, at int) {
	y.t.Helper()
	s, b := y.e.Running()
	if s.Name != name || !bytes.Equal(b, data) || s.Counter != counter || s.Size != len(data) || s.Sum != digest.Sum(data) || s.Bank != at {
		y.t.Errorf("%q %d of bank %d runs, not %q %d of %d", s.Name, s.Counter, s.Bank, name, counter, at)
	}
}

// mindOf is the mind, by chapter 1.
func mindOf(t *testing.T, image, director api.Trusted, now, nonce, used int) []byte {
	t.Helper()
	var w octet.Writer
	for _, v := range []api.Trusted{image, director} {
		b, err := tuf.Encode(v)
		must(t, err, api.OK)
		w.Bytes(b)
	}
	w.Nums(now, nonce, used)
	return w.Out()
}

// P19.1: what comes from the factory; the chapter's example.
func TestNew(t *testing.T) {
	y := newYard(t, true)
	y.runs("", factory, 0, 0)
	if y.e.Public() != key.New(api.Hash{40}, 0).Public() || y.e.Now() != 0 {
		t.Error("Public, Now")
	}
	i, d := y.e.Trusted()
	if !reflect.DeepEqual(i, api.Trusted{Root: y.images.Root()}) || !reflect.DeepEqual(d, api.Trusted{Root: y.director.Repo().Root()}) {
		t.Error("Trusted")
	}
	s, _ := y.e.Running()
	if !bytes.Equal(s.Mind, mindOf(t, i, d, 0, 0, 0)) {
		t.Error("mind")
	}
	f := y.e.Flash()
	if f.Len() != bank.Pages() || f.Dead() || y.e.Flash() != f {
		t.Error("Flash")
	}
	if got, image, err := bank.Boot(f); err != api.OK || !reflect.DeepEqual(got, s) || !bytes.Equal(image, factory) {
		t.Error(err)
	}
}

// P19.1: what may not be.
func TestErrorsOfNew(t *testing.T) {
	y := newYard(t, true)
	for i, change := range []func(c *ecu.Config){
		func(c *ecu.Config) { c.Name = "" }, func(c *ecu.Config) { c.Name = "E" }, func(c *ecu.Config) { c.Name = "abcdefghijklm" },
		func(c *ecu.Config) { c.Hardware = "" }, func(c *ecu.Config) { c.Hardware = "h 0" },
		func(c *ecu.Config) { c.Image = api.Root{} }, func(c *ecu.Config) { c.Image.Version = 0 }, func(c *ecu.Config) { c.Director.Expires = -1 }, func(c *ecu.Config) { c.Director = api.Root{} },
		func(c *ecu.Config) { c.Factory = make([]byte, 513) },
	} {
		c := y.config(true)
		change(&c)
		if e, err := ecu.New(c); err != api.ErrArg || e != nil {
			t.Error(i, err)
		}
	}
	for _, n := range []int{0, 1, 512} {
		c := y.config(false)
		c.Factory = make([]byte, n)
		e, err := ecu.New(c)
		must(t, err, api.OK)
		if _, b := e.Running(); len(b) != n {
			t.Error(len(b))
		}
	}
}

// P19.2: nonces rise, and are kept.
func TestNonce(t *testing.T) {
	y := newYard(t, true)
	for i := 1; i <= 5; i++ {
		n, err := y.e.Nonce()
		if err != api.OK || n != i {
			t.Error(n, err)
		}
		s, _ := y.e.Running()
		image, director := y.e.Trusted()
		if !bytes.Equal(s.Mind, mindOf(t, image, director, 0, i, 0)) {
			t.Error("mind")
		}
		if i%2 == 0 {
			must(t, y.e.Boot(), api.OK)
		}
	}
	image, director := y.e.Trusted()
	must(t, bank.Keep(y.e.Flash(), mindOf(t, image, director, 4, api.MaxNumber-1, 2)), api.OK)
	must(t, y.e.Boot(), api.OK)
	if n, err := y.e.Nonce(); n != api.MaxNumber || err != api.OK {
		t.Error(n, err)
	}
	y.stays("the last nonce", api.ErrFull, func() api.Errno {
		n, err := y.e.Nonce()
		if n != 0 {
			t.Error(n)
		}
		return err
	})
	y.runs("", factory, 0, 0)
}

// P19.2: the time, of this nonce, and not below the one that is known.
func TestSetTime(t *testing.T) {
	y := newYard(t, true)
	attest := func(nonce, now int) api.Envelope {
		a, err := y.clock.Attest(nonce, now)
		must(t, err, api.OK)
		return a
	}
	set := func(a api.Envelope) func() api.Errno { return func() api.Errno { return y.e.SetTime(a) } }
	y.stays("nonce 0", api.ErrOld, set(attest(0, 5)))
	must(t, y.time(7), api.OK)
	if y.e.Now() != 7 {
		t.Error(y.e.Now())
	}
	must(t, y.e.SetTime(attest(1, 7)), api.OK)
	must(t, y.e.SetTime(attest(1, 9)), api.OK)
	y.stays("an elder time", api.ErrOld, set(attest(1, 8)))
	y.stays("another nonce", api.ErrOld, set(attest(2, 20)))
	old := attest(1, 30)
	forged := attest(1, 31)
	forged.Body[2]++
	y.stays("forged", api.ErrSigned, set(forged))
	y.stays("nothing", api.ErrSigned, set(api.Envelope{}))
	other, _ := clock.New(api.Hash{99}).Attest(1, 50)
	y.stays("another clock", api.ErrSigned, set(other))
	if _, err := y.e.Nonce(); err != api.OK {
		t.Error(err)
	}
	y.stays("replayed", api.ErrOld, set(old))
	must(t, y.e.SetTime(attest(2, 40)), api.OK)
	if y.e.Now() != 40 {
		t.Error(y.e.Now())
	}
	must(t, y.e.Boot(), api.OK)
	if y.e.Now() != 40 {
		t.Error("not kept", y.e.Now())
	}
}

// P19.2: a Body that is none of the clock's, signed by it.
func TestSetTimeOfOtherBody(t *testing.T) {
	y := newYard(t, true)
	b := []byte{6, 1, 5}
	s, _ := key.New(api.Hash{3}, 0).Sign(b)
	y.stays("another kind", api.ErrForm, func() api.Errno {
		return y.e.SetTime(api.Envelope{Body: b, Marks: []api.Mark{{Key: y.clock.Public(), Sig: s}}})
	})
}

// P19.3: an image that both sign is laid, and runs at once; then it is kept.
func TestOffer(t *testing.T) {
	for _, full := range []bool{true, false} {
		y := newYard(t, full)
		a, b := []byte("image a"), bytes.Repeat([]byte("b"), 512)
		y.publish("a", a, 3)
		must(t, y.offer(a), api.OK)
		y.runs("a", a, 3, 1)
		image, director := y.e.Trusted()
		if director.Targets[0].Version != 1 || image.Set != full {
			t.Error("Trusted")
		}
		must(t, y.offer(a), api.OK)
		y.runs("a", a, 3, 1)
		y.sign(5, 100)
		must(t, y.offer(a), api.OK)
		y.runs("a", a, 3, 1) // what runs stays where it is, with the new trusts
		image, director = y.e.Trusted()
		if director.Targets[0].Version != 2 || full && image.Targets[0].Version != 2 {
			t.Error("Keep with the new trusts")
		}
		was := look(y.e)
		must(t, y.e.Boot(), api.OK)
		if !same(look(y.e), was) {
			t.Error("not kept")
		}
		y.publish("b", b, 3)
		must(t, y.offer(b), api.OK)
		y.runs("b", b, 3, 0)
	}
}

// P19.3: another name or counter of the same bytes is another image.
func TestOfferOfTheSameBytes(t *testing.T) {
	y := newYard(t, true)
	y.publish("a", factory, 0)
	must(t, y.offer(factory), api.OK)
	y.runs("a", factory, 0, 1)
	y.publish("a", factory, 1)
	must(t, y.offer(factory), api.OK)
	y.runs("a", factory, 1, 0)
	y.publish("b", factory, 1)
	must(t, y.offer(factory), api.OK)
	y.runs("b", factory, 1, 1)
	y.publish("b", []byte("other"), 1) // and so are other bytes of the same name and counter
	must(t, y.offer([]byte("other")), api.OK)
	y.runs("b", []byte("other"), 1, 0)
}

// P19.3: data must have the Size that is told, though the Sum is theirs.
func TestOfferOfAnotherSize(t *testing.T) {
	y := newYard(t, true)
	data := []byte("data")
	v := target("a", data, 1)
	v.Size++
	must(t, y.images.Publish(v), api.OK)
	must(t, y.director.Assign("e0", v), api.OK)
	y.sign(0, 9)
	y.stays("another size", api.ErrSum, func() api.Errno { return y.offer(data) })
}

// P19.3: errors, in their order.
func TestErrorsOfOffer(t *testing.T) {
	y := newYard(t, true)
	data := []byte("data")
	none := api.Bundle{}
	offer := func(d, i api.Bundle, b []byte) func() api.Errno {
		return func() api.Errno { return y.e.Offer(d, i, b) }
	}
	y.stays("nothing", api.ErrSigned, offer(none, none, nil))
	must(t, y.images.Sign(0, 10), api.OK)
	must(t, y.director.Repo().Sign(0, 10), api.OK)
	y.stays("none is assigned", api.ErrNone, offer(y.director.Repo().Bundle(), none, data))
	must(t, y.director.Assign("e0", target("a", data, 4)), api.OK)
	must(t, y.director.Repo().Sign(0, 10), api.OK)
	d := y.director.Repo().Bundle()
	y.stays("the images' bundle is none", api.ErrSigned, offer(d, none, nil))
	y.stays("the images have it not", api.ErrNone, offer(d, y.images.Bundle(), nil))
	for i, change := range []func(v *api.Target){
		func(v *api.Target) { v.Size++ }, func(v *api.Target) { v.Sum[0]++ }, func(v *api.Target) { v.Hardware = "h1" }, func(v *api.Target) { v.Counter++ },
	} {
		v := target("a", data, 4)
		change(&v)
		if i == 0 {
			must(t, y.images.Rotate(), api.OK)
		}
		must(t, y.images.Publish(v), api.OK)
		must(t, y.images.Sign(0, 10), api.OK)
		y.stays(i, api.ErrSum, offer(d, y.images.Bundle(), data))
	}
	v := target("a", data, 4)
	v.Ecu = "e7" // for whom it is does not count with the images
	must(t, y.images.Rotate(), api.OK)
	must(t, y.images.Remove("a", ""), api.OK)
	must(t, y.images.Publish(v), api.OK)
	must(t, y.images.Sign(0, 10), api.OK)
	i := y.images.Bundle()
	for k, b := range [][]byte{nil, data[1:], append(data[:4:4], 0), []byte("date"), []byte("dat")} {
		y.stays(k, api.ErrSum, offer(d, i, b))
	}
	forged := y.director.Repo().Bundle()
	forged.Targets[0].Body[9]++
	y.stays("forged", api.ErrSigned, offer(forged, none, nil))
	must(t, y.time(10), api.OK)
	y.stays("expired", api.ErrExpired, offer(d, none, nil))
	must(t, y.director.Repo().Sign(10, 5), api.OK)
	d = y.director.Repo().Bundle()
	y.stays("the images' is expired", api.ErrExpired, offer(d, i, nil))
	must(t, y.images.Sign(10, 1), api.OK)
	must(t, y.e.Offer(d, y.images.Bundle(), data), api.OK)
	y.runs("a", data, 4, 1)
	y.stays("an elder one", api.ErrOld, offer(forged, none, nil))
}

// P19.3: the target is the one for this ECU, of its hardware.
func TestWhoseTarget(t *testing.T) {
	y := newYard(t, false)
	data := []byte("data")
	v := target("a", data, 4)
	v.Ecu = "e1"
	must(t, y.director.Repo().Publish(v), api.OK)
	v.Ecu = ""
	must(t, y.director.Repo().Publish(v), api.OK)
	must(t, y.director.Repo().Sign(0, 10), api.OK)
	y.stays("another's", api.ErrNone, func() api.Errno { return y.offer(data) })
	v.Ecu, v.Hardware = "e0", "h1"
	must(t, y.director.Repo().Publish(v), api.OK)
	must(t, y.director.Repo().Sign(0, 10), api.OK)
	y.stays("another's hardware", api.ErrNone, func() api.Errno { return y.offer(data) })
	v.Hardware = "h0"
	must(t, y.director.Repo().Publish(v), api.OK)
	must(t, y.director.Repo().Sign(0, 10), api.OK)
	must(t, y.offer(data), api.OK) // it is not full: the images' repository is not asked
	y.runs("a", data, 4, 1)
	if image, _ := y.e.Trusted(); image.Set {
		t.Error("the images' trust is changed")
	}
}

// P19.3: counters do not fall: what Install answers is told.
func TestOfferOfAnElderCounter(t *testing.T) {
	y := newYard(t, true)
	a, b := []byte("a"), []byte("b")
	y.publish("a", a, 5)
	must(t, y.offer(a), api.OK)
	y.publish("b", b, 4)
	y.stays("an elder counter", api.ErrOld, func() api.Errno { return y.offer(b) })
	y.publish("b", b, 5)
	must(t, y.offer(b), api.OK)
	y.runs("b", b, 5, 0)
}

// P19.3: a mind that is too long is not kept, and nothing that is known is changed.
func TestOfferOfTooMuch(t *testing.T) {
	y := newYard(t, true)
	data := []byte("data")
	for i := range api.MaxList {
		v := target("abcdefghijk"+string(rune('a'+i)), data, api.MaxNumber)
		v.Hardware = "abcdefghijkl"
		must(t, y.images.Publish(v), api.OK)
		if i > 1 {
			v.Ecu = "abcdefghijkl"
			must(t, y.director.Repo().Publish(v), api.OK)
		}
	}
	must(t, y.images.Remove("abcdefghijka", ""), api.OK)
	y.publish("a", data, 1)
	y.stays("too much", api.ErrLong, func() api.Errno { return y.offer(data) })
}

// P19.4: what runs, signed by the next leaf, sixteen times.
func TestReport(t *testing.T) {
	y := newYard(t, true)
	data := []byte("data")
	for i := range api.Leaves {
		if i == 3 {
			y.publish("a", data, 2)
			must(t, y.offer(data), api.OK)
		}
		if i%5 == 1 {
			must(t, y.e.Boot(), api.OK)
		}
		if i%3 == 2 {
			if _, err := y.e.Nonce(); err != api.OK {
				t.Error(err)
			}
		}
		e, err := y.e.Report()
		must(t, err, api.OK)
		want := api.Report{Ecu: "e0", Sum: digest.Sum(factory), Nonce: (i + 1) / 3}
		if i >= 3 {
			want = api.Report{Ecu: "e0", Name: "a", Sum: digest.Sum(data), Counter: 2, Nonce: (i + 1) / 3}
		}
		if got, err := wire.DecodeReport(e.Body); err != api.OK || got != want {
			t.Error(got, want, err)
		}
		if len(e.Marks) != 1 || e.Marks[0].Sig.Leaf != i || !quorum.Meets(e, api.Keys{Keys: []api.Hash{y.e.Public()}, Need: 1}) {
			t.Error(i, "not signed")
		}
		s, _ := y.e.Running()
		image, director := y.e.Trusted()
		if !bytes.Equal(s.Mind, mindOf(t, image, director, 0, (i+1)/3, i+1)) {
			t.Error("mind")
		}
	}
	for range 2 {
		y.stays("used up", api.ErrUsed, func() api.Errno {
			e, err := y.e.Report()
			if !reflect.DeepEqual(e, api.Envelope{}) {
				t.Error(e)
			}
			return err
		})
	}
}

// noTrust is a mind whose first trust is none.
func noTrust(t *testing.T, director api.Trusted) []byte {
	t.Helper()
	b, err := tuf.Encode(director)
	must(t, err, api.OK)
	var w octet.Writer
	w.Bytes([]byte{1, 2}, b)
	w.Nums(1, 2, 3)
	return w.Out()
}

// P19.4: Boot: the bank's errors, a mind that is none; what ran goes on.
func TestErrorsOfBoot(t *testing.T) {
	y := newYard(t, true)
	image, director := y.e.Trusted()
	good := mindOf(t, image, director, 1, 2, 3)
	was := look(y.e)
	for i, b := range [][]byte{nil, good[1:], good[:len(good)-1], append(good[:len(good):len(good)], 0), mindOf(t, image, director, 1, 2, 17),
		mindOf(t, image, director, api.MaxNumber+1, 2, 3), mindOf(t, image, director, 1, api.MaxNumber+1, 3), noTrust(t, director)} {
		must(t, bank.Keep(y.e.Flash(), b), api.OK)
		must(t, y.e.Boot(), api.ErrForm)
		if !same(look(y.e), was) {
			t.Error(i, "changed")
		}
	}
	must(t, bank.Keep(y.e.Flash(), mindOf(t, image, director, api.MaxNumber, api.MaxNumber, 16)), api.OK)
	must(t, y.e.Boot(), api.OK)
	if y.e.Now() != api.MaxNumber {
		t.Error(y.e.Now())
	}
	must(t, bank.Keep(y.e.Flash(), good), api.OK)
	must(t, y.e.Boot(), api.OK)
	if y.e.Now() != 1 {
		t.Error(y.e.Now())
	}
	if n, err := y.e.Nonce(); n != 3 || err != api.OK {
		t.Error(n, err)
	}
	if e, err := y.e.Report(); err != api.OK || e.Marks[0].Sig.Leaf != 3 {
		t.Error(err)
	}
	was = look(y.e)
	must(t, y.e.Flash().Erase(2*api.SlotPages), api.OK)
	must(t, y.e.Boot(), api.ErrSum)
	if _, err := y.e.Nonce(); err != api.ErrSum {
		t.Error(err)
	}
	for i := range 2 * api.SlotPages {
		must(t, y.e.Flash().Erase(i), api.OK)
	}
	must(t, y.e.Boot(), api.ErrNone)
	if _, err := y.e.Report(); err != api.ErrNone {
		t.Error(err)
	}
	if !same(look(y.e), was) {
		t.Error("changed")
	}
}

// P19.1: what is done with the Flash is done in it; a dead one, ahead of all other errors.
func TestDead(t *testing.T) {
	y := newYard(t, true)
	data := []byte("data")
	y.publish("a", data, 1)
	n, _ := y.e.Nonce()
	a, _ := y.clock.Attest(n, 5)
	y.e.Flash().Fuse(0, 0)
	y.e.Flash().Erase(95)
	was := look(y.e)
	for range 2 {
		if n, err := y.e.Nonce(); n != 0 || err != api.ErrDead {
			t.Error(n, err)
		}
		must(t, y.e.SetTime(a), api.ErrDead)
		must(t, y.e.SetTime(api.Envelope{}), api.ErrDead)
		must(t, y.offer(data), api.ErrDead)
		must(t, y.e.Offer(api.Bundle{}, api.Bundle{}, nil), api.ErrDead)
		if e, err := y.e.Report(); err != api.ErrDead || !reflect.DeepEqual(e, api.Envelope{}) {
			t.Error(err)
		}
		if !same(look(y.e), was) {
			t.Error("changed")
		}
	}
	must(t, y.e.Boot(), api.OK)
	if y.e.Flash().Dead() || !same(look(y.e), was) {
		t.Error("Boot")
	}
	must(t, y.e.SetTime(a), api.OK)
	must(t, y.offer(data), api.OK)
}

// deed is what is done while the power goes off; it begins with a new yard.
type deed struct {
	what  string
	ready func(y *yard)
	do    func(y *yard) api.Errno
}

var image = bytes.Repeat([]byte("image"), 30)

func deeds() []deed {
	return []deed{
		{"Nonce", func(y *yard) {}, func(y *yard) api.Errno {
			n, err := y.e.Nonce()
			if (n == 0) != (err != api.OK) {
				y.t.Error("Nonce with an error, or none without", n, err)
			}
			return err
		}},
		{"SetTime", func(y *yard) { y.e.Nonce() }, func(y *yard) api.Errno {
			a, _ := y.clock.Attest(1, 9)
			return y.e.SetTime(a)
		}},
		{"Report", func(y *yard) {}, func(y *yard) api.Errno {
			e, err := y.e.Report()
			if (len(e.Marks) == 0) != (err != api.OK) {
				y.t.Error("a report with an error, or none without", err)
			}
			return err
		}},
		{"Offer", func(y *yard) { y.publish("a", image, 1) }, func(y *yard) api.Errno { return y.offer(image) }},
		{"Offer of what runs", func(y *yard) {
			y.publish("a", image, 1)
			must(y.t, y.offer(image), api.OK)
			y.sign(1, 9)
		}, func(y *yard) api.Errno { return y.offer(image) }},
	}
}

// P19.5: wherever the power goes off, behind Boot all is as it was, or as it was to be.
func TestCrashes(t *testing.T) {
	for _, d := range deeds() {
		begin := func() *yard {
			y := newYard(t, true)
			d.ready(y)
			return y
		}
		y := begin()
		before := look(y.e)
		must(t, d.do(y), api.OK)
		after := look(y.e)
		for n := 0; ; n++ {
			done := false
			for _, tear := range []int{0, 5, 33, 64} {
				done = crash(t, d, begin(), n, tear, before, after) || done
			}
			if done {
				break
			}
		}
	}
}

func crash(t *testing.T, d deed, y *yard, n, tear int, before, after seen) (done bool) {
	t.Helper()
	y.e.Flash().Fuse(n, tear)
	err := d.do(y)
	if err == api.OK {
		if !same(look(y.e), after) {
			t.Error(d.what, "is another one")
		}
		return true
	}
	must(t, err, api.ErrDead)
	if !same(look(y.e), before) {
		t.Error(d.what, n, tear, "is known, and not kept")
	}
	for range 2 { // booted twice it is booted once
		must(t, y.e.Boot(), api.OK)
		if got := look(y.e); !same(got, before) && !same(got, after) {
			t.Fatal(d.what, n, tear, "neither")
		}
	}
	must(t, d.do(y), api.OK)
	return false
}

// P19.5: no leaf signs twice, wherever the power goes off.
func TestNoLeafSignsTwice(t *testing.T) {
	y := newYard(t, false)
	seen := map[int]string{}
	for i := range 60 {
		y.e.Flash().Fuse(i%23, i*11%70)
		e, err := y.e.Report()
		if err == api.OK {
			if was, ok := seen[e.Marks[0].Sig.Leaf]; ok {
				t.Error("twice", was)
			}
			seen[e.Marks[0].Sig.Leaf] = string(e.Body)
		}
		must(t, y.e.Boot(), api.OK)
		y.e.Nonce()
	}
	if len(seen) < 5 {
		t.Error(len(seen))
	}
	if _, err := y.e.Report(); err != api.ErrUsed {
		t.Error(err)
	}
}

// P0.2, P19.3: what is trusted, what runs, what is known never falls.
func TestNothingFalls(t *testing.T) {
	y := newYard(t, true)
	var l []func() api.Errno
	for i := 1; i <= 4; i++ {
		data := []byte(strings.Repeat("x", i))
		y.publish("n"+string(rune('0'+i)), data, i)
		d, im := y.director.Repo().Bundle(), y.images.Bundle()
		l = append(l, func() api.Errno { return y.e.Offer(d, im, data) })
	}
	was := look(y.e)
	for _, i := range []int{1, 0, 1, 3, 2, 0, 1, 3} {
		l[i]()
		now := look(y.e)
		if now.state.Counter < was.state.Counter || now.now < was.now || now.director.Time.Version < was.director.Time.Version || now.trust.Snap.Version < was.trust.Snap.Version {
			t.Error("falls", i)
		}
		was = now
	}
	y.runs("n4", []byte("xxxx"), 4, 0)
}

// W6: what is answered is new, what is handed in is neither changed nor kept.
func TestNothingIsShared(t *testing.T) {
	y := newYard(t, true)
	c := y.config(true)
	c.Factory = bytes.Clone(factory)
	e, _ := ecu.New(c)
	y.e = e
	clear(c.Image.Roles[0].Keys)
	clear(c.Director.Roles[1].Keys)
	clear(c.Factory)
	e, _ = ecu.New(y.config(true))
	was := look(e)
	if !same(look(y.e), was) {
		t.Error("kept")
	}
	s, b := e.Running()
	clear(s.Mind)
	clear(b)
	if !same(look(e), was) {
		t.Error("shared")
	}
	data := []byte("data and room")[:4]
	y.e = e
	y.publish("a", data, 1)
	d, im := y.director.Repo().Bundle(), y.images.Bundle()
	must(t, e.Offer(d, im, data), api.OK)
	if !reflect.DeepEqual(d, y.director.Repo().Bundle()) || !reflect.DeepEqual(im, y.images.Bundle()) || string(data[:13]) != "data and room" {
		t.Error("changed")
	}
	was = look(e)
	clear(d.Targets[0].Body)
	clear(im.Targets[0].Body)
	clear(data)
	v := look(e)
	clear(v.trust.Targets[0].L)
	clear(v.director.Snap.Pins)
	clear(v.trust.Root.Roles[0].Keys)
	if !same(look(e), was) {
		t.Error("shared")
	}
}

// P19.5, W8: a nil Ecu.
func TestNilEcu(t *testing.T) {
	var e *ecu.Ecu
	if n, err := e.Nonce(); n != 0 || err != api.ErrArg {
		t.Error(n, err)
	}
	must(t, e.SetTime(api.Envelope{}), api.ErrArg)
	must(t, e.Offer(api.Bundle{}, api.Bundle{}, nil), api.ErrArg)
	if r, err := e.Report(); err != api.ErrArg || !reflect.DeepEqual(r, api.Envelope{}) {
		t.Error(err)
	}
	must(t, e.Boot(), api.ErrArg)
	if e.Flash() != nil || e.Public() != (api.Hash{}) || !same(look(e), seen{}) {
		t.Error("a nil Ecu has something")
	}
	zero := &ecu.Ecu{}
	zero.Nonce()
	zero.Boot()
	zero.Running()
	zero.Trusted()
}
