package clock_test

import (
	"bytes"
	"math"
	"reflect"
	"testing"

	"ostler/api"
	"ostler/clock"
	"ostler/key"
	"ostler/octet"
)

var seed = api.Hash{3}

func body(v ...int) []byte {
	var w octet.Writer
	w.Nums(v...)
	return w.Out()
}

func seal(b []byte) api.Envelope {
	k := key.New(seed, 0)
	s, _ := k.Sign(b)
	return api.Envelope{Body: b, Marks: []api.Mark{{Key: k.Public(), Sig: s}}}
}

func checks(t *testing.T, public api.Hash, e api.Envelope, nonce, want int, fails api.Errno) {
	t.Helper()
	if got, err := clock.Check(public, e, nonce); got != want || err != fails {
		t.Error(nonce, got, err, "not", want, fails)
	}
}

// P18.1: the body, signed by the key, sixteen times.
func TestAttest(t *testing.T) {
	c := clock.New(seed)
	public := key.New(seed, 0).Public()
	if c.Public() != public || clock.New(api.Hash{}).Public() == public {
		t.Error("Public")
	}
	for i := range api.Leaves {
		nonce, now := i*1000, 40-i
		e, err := c.Attest(nonce, now)
		if err != api.OK || !bytes.Equal(e.Body, body(7, nonce, now)) || len(e.Marks) != 1 || e.Marks[0].Key != public || e.Marks[0].Sig.Leaf != i {
			t.Fatal(i, err)
		}
		checks(t, public, e, nonce, now, api.OK)
	}
	for range 2 {
		if e, err := c.Attest(1, 1); err != api.ErrUsed || !reflect.DeepEqual(e, api.Envelope{}) {
			t.Error(err)
		}
	}
	if _, err := c.Attest(-1, 1); err != api.ErrArg {
		t.Error("ErrArg is asked ahead", err)
	}
	if c.Public() != public {
		t.Error("Public")
	}
}

// P18.1: numbers, their edges; what errs uses no leaf.
func TestNumbers(t *testing.T) {
	c := clock.New(seed)
	for _, n := range []int{-1, math.MinInt, api.MaxNumber + 1, math.MaxInt} {
		for _, p := range [][2]int{{n, 0}, {0, n}, {n, n}} {
			if e, err := c.Attest(p[0], p[1]); err != api.ErrArg || !reflect.DeepEqual(e, api.Envelope{}) {
				t.Error(p, err)
			}
		}
	}
	for i, p := range [][2]int{{0, 0}, {api.MaxNumber, 0}, {0, api.MaxNumber}, {api.MaxNumber, api.MaxNumber}} {
		e, err := c.Attest(p[0], p[1])
		if err != api.OK || e.Marks[0].Sig.Leaf != i {
			t.Fatal(p, err)
		}
		checks(t, c.Public(), e, p[0], p[1], api.OK)
	}
}

// P18.2: ErrSigned, then ErrForm, then ErrOld; the chapter's example.
func TestCheck(t *testing.T) {
	c := clock.New(seed)
	e, _ := c.Attest(5, 9)
	checks(t, c.Public(), e, 5, 9, api.OK)
	for _, n := range []int{6, 4, -1, 0, math.MaxInt, math.MinInt} {
		checks(t, c.Public(), e, n, 0, api.ErrOld)
	}
	checks(t, api.Hash{}, e, 5, 0, api.ErrSigned)
	checks(t, clock.New(api.Hash{}).Public(), e, 5, 0, api.ErrSigned)
	checks(t, c.Public(), api.Envelope{Body: e.Body}, 5, 0, api.ErrSigned)
	checks(t, c.Public(), api.Envelope{}, 5, 0, api.ErrSigned)
	o := api.Envelope{Body: bytes.Clone(e.Body), Marks: e.Marks}
	o.Body[2]++
	checks(t, c.Public(), o, 5, 0, api.ErrSigned)
	checks(t, c.Public(), api.Envelope{Body: o.Body[:1], Marks: e.Marks}, 5, 0, api.ErrSigned)
	// Among other marks the one counts.
	o = api.Envelope{Body: e.Body, Marks: append([]api.Mark{{Key: api.Hash{1}}, {Key: c.Public()}}, e.Marks...)}
	checks(t, c.Public(), o, 5, 9, api.OK)
}

// P18.2: bodies that are none, though the key signed them.
func TestOtherBodies(t *testing.T) {
	public := key.New(seed, 0).Public()
	for i, b := range [][]byte{
		nil, body(7), body(7, 5), body(7, 5, 9, 0), body(6, 5, 9), body(8, 5, 9), body(0, 5, 9), append(body(7, 5), 0x89, 0),
		body(7, 5, api.MaxNumber+1), body(7, api.MaxNumber+1, 9), body(7, 5, 1<<62), body(7, 5, 9)[:2], append(body(7, 5, 9), 0),
	} {
		if got, err := clock.Check(public, seal(b), 5); err != api.ErrForm || got != 0 {
			t.Error(i, got, err)
		}
		checks(t, api.Hash{7}, seal(b), 5, 0, api.ErrSigned)
	}
	checks(t, public, seal(body(7, api.MaxNumber+1, 9)), api.MaxNumber+1, 0, api.ErrForm)
	checks(t, public, seal(body(7, 5, 0)), 5, 0, api.OK)
}

// W6: what is answered is new.
func TestNothingIsShared(t *testing.T) {
	c := clock.New(seed)
	a, _ := c.Attest(1, 2)
	clear(a.Body)
	clear(a.Marks[0].Sig.Path)
	clear(a.Marks[0].Sig.Chains)
	b, err := c.Attest(1, 2)
	if err != api.OK {
		t.Error(err)
	}
	checks(t, c.Public(), b, 1, 2, api.OK)
	checks(t, c.Public(), b, 1, 2, api.OK)
}

// P18.3, W8: a nil Clock.
func TestNilClock(t *testing.T) {
	var c *clock.Clock
	if e, err := c.Attest(1, 1); err != api.ErrArg || !reflect.DeepEqual(e, api.Envelope{}) || c.Public() != (api.Hash{}) {
		t.Error(err)
	}
	zero := &clock.Clock{}
	if _, err := zero.Attest(1, 1); err == api.OK {
		t.Error("one without a key signs")
	}
}
