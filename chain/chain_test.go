package chain_test

import (
	"math"
	"reflect"
	"slices"
	"testing"

	"ostler/api"
	"ostler/chain"
	"ostler/key"
	"ostler/wire"
)

// house is keys by number; each root is told by the numbers of its root keys.
type house struct {
	t *testing.T
	k [8]*key.Key
}

func newHouse(t *testing.T) *house {
	h := &house{t: t}
	for i := range h.k {
		h.k[i] = key.New(api.Hash{7, byte(i)}, 0)
	}
	return h
}

func (h *house) root(version, need int, keys ...int) api.Root {
	r := api.Root{Version: version, Expires: 50}
	for _, i := range keys {
		r.Roles[api.RoleRoot].Keys = append(r.Roles[api.RoleRoot].Keys, h.k[i].Public())
	}
	r.Roles[api.RoleRoot].Need = need
	for role := 1; role < api.Roles; role++ {
		r.Roles[role] = api.Keys{Keys: []api.Hash{h.k[7].Public()}, Need: 1}
	}
	return r
}

func (h *house) sealed(r api.Root, by ...int) api.Envelope {
	b, err := wire.EncodeRoot(r)
	if err != api.OK {
		h.t.Fatal(err)
	}
	return h.sign(b, by...)
}

func (h *house) sign(b []byte, by ...int) api.Envelope {
	e := api.Envelope{Body: b}
	for _, i := range by {
		s, err := h.k[i].Sign(b)
		if err != api.OK {
			h.t.Fatal(err)
		}
		e.Marks = append(e.Marks, api.Mark{Key: h.k[i].Public(), Sig: s})
	}
	return e
}

// P8.1: the next one; versions; the elder one's keys and its own.
func TestNext(t *testing.T) {
	h := newHouse(t)
	one := h.root(3, 1, 0)
	two := h.root(3, 2, 0, 1, 2)
	for i, c := range []struct {
		from api.Root
		to   api.Root
		by   []int
		want api.Errno
	}{
		{one, h.root(4, 1, 0), []int{0}, api.OK},
		{one, h.root(4, 1, 1), []int{0, 1}, api.OK},
		{one, h.root(4, 1, 1), []int{1, 0}, api.OK},
		{one, h.root(4, 1, 1), []int{0}, api.ErrSigned}, // not by the new one's
		{one, h.root(4, 1, 1), []int{1}, api.ErrSigned}, // not by the elder one's
		{one, h.root(4, 1, 0), nil, api.ErrSigned},
		{one, h.root(4, 1, 0), []int{7}, api.ErrSigned}, // by another role's
		{two, h.root(4, 1, 0), []int{0, 1}, api.OK},
		{two, h.root(4, 1, 0), []int{0}, api.ErrSigned},
		{two, h.root(4, 1, 0), []int{0, 0}, api.ErrSigned},
		{two, h.root(4, 2, 3, 4), []int{0, 2, 3, 4}, api.OK},
		{two, h.root(4, 2, 3, 4), []int{0, 2, 3}, api.ErrSigned},
		{one, h.root(5, 1, 0), []int{0}, api.ErrVersion}, // the chapter's example
		{one, h.root(3, 1, 0), []int{0}, api.ErrVersion},
		{one, h.root(2, 1, 0), []int{0}, api.ErrVersion},
		{one, h.root(5, 1, 0), nil, api.ErrVersion}, // ahead of ErrSigned
		{with(one, 0), h.root(1, 1, 0), []int{0}, api.OK},
		{with(one, api.MaxNumber-1), h.root(api.MaxNumber, 1, 0), []int{0}, api.OK},
		{with(one, math.MaxInt), h.root(1, 1, 0), []int{0}, api.ErrVersion},
		{with(one, math.MinInt), h.root(1, 1, 0), []int{0}, api.ErrVersion},
	} {
		got, err := chain.Next(c.from, newHouse(t).sealed(c.to, c.by...))
		want := c.to
		if c.want != api.OK {
			want = api.Root{}
		}
		if err != c.want || !reflect.DeepEqual(got, want) {
			t.Error(i, err, c.want)
		}
	}
}

func with(r api.Root, version int) api.Root {
	r.Version = version
	return r
}

// P8.1: a Body that is no Root, ahead of all else.
func TestNextOfNoRoot(t *testing.T) {
	h := newHouse(t)
	r := h.root(3, 1, 0)
	b, _ := wire.EncodeRoot(h.root(4, 1, 0))
	o, _ := wire.EncodeTime(api.Time{Version: 4, Snap: 1})
	for i, body := range [][]byte{nil, {1}, b[1:], b[:len(b)-1], append(b[:len(b):len(b)], 0), o} {
		if got, err := chain.Next(r, h.sign(body, 0)); err != api.ErrForm || !reflect.DeepEqual(got, api.Root{}) {
			t.Error(i, err)
		}
	}
	e := h.sign(b, 0)
	e.Marks[0].Sig.Chains[0][0] ^= 1
	if _, err := chain.Next(r, e); err != api.ErrSigned {
		t.Error(err)
	}
	if _, err := chain.Next(api.Root{Version: 3}, h.sign(b, 0)); err != api.ErrSigned {
		t.Error("keys that may not be", err)
	}
}

// P8.1, P8.2: up to the first error; what is trusted then, and how many were taken.
func TestFollow(t *testing.T) {
	h := newHouse(t)
	first := h.root(1, 1, 0)
	r2, r3, r4 := h.root(2, 1, 1), h.root(3, 1, 1), h.root(4, 1, 2)
	e2, e3, e4 := h.sealed(r2, 0, 1), h.sealed(r3, 1), h.sealed(r4, 1, 2)
	for i, c := range []struct {
		l     []api.Envelope
		want  api.Root
		taken int
		err   api.Errno
	}{
		{nil, first, 0, api.OK},
		{[]api.Envelope{e2}, r2, 1, api.OK},
		{[]api.Envelope{e2, e3, e4}, r4, 3, api.OK},
		{[]api.Envelope{e3}, first, 0, api.ErrVersion},
		{[]api.Envelope{e2, e4, e3}, r2, 1, api.ErrVersion},
		{[]api.Envelope{e2, e2}, r2, 1, api.ErrVersion},
		{[]api.Envelope{e2, e3, {}, e4}, r3, 2, api.ErrForm},
		{[]api.Envelope{e2, h.sealed(r3, 0), e4}, r2, 1, api.ErrSigned},
	} {
		got, n, err := chain.Follow(first, c.l...)
		if err != c.err || n != c.taken || !reflect.DeepEqual(got, c.want) {
			t.Error(i, n, err, got.Version)
		}
	}
}

// P8.1: Expires is above now.
func TestFresh(t *testing.T) {
	for _, c := range []struct {
		expires, now int
		want         bool
	}{{5, 4, true}, {5, 5, false}, {5, 6, false}, {0, 0, false}, {0, -1, true}, {math.MaxInt, math.MinInt, true}, {math.MinInt, math.MaxInt, false}} {
		if chain.Fresh(api.Root{Expires: c.expires}, c.now) != c.want {
			t.Error(c)
		}
	}
}

// P8.2: what is handed in is left alone, what is answered is new.
func TestNothingIsShared(t *testing.T) {
	h := newHouse(t)
	first := h.root(1, 1, 0, 3)
	keys := slices.Clone(first.Roles[0].Keys)
	first.Roles[0].Keys = first.Roles[0].Keys[:1]
	got, _, _ := chain.Follow(first)
	_ = append(got.Roles[0].Keys, api.Hash{})
	clear(got.Roles[0].Keys)
	clear(got.Roles[1].Keys)
	if !slices.Equal(first.Roles[0].Keys[:2], keys) || first.Roles[1].Keys[0] != h.k[7].Public() {
		t.Error("Follow of none shares")
	}
	if got, n, err := chain.Follow(first, api.Envelope{}); n != 0 || err != api.ErrForm || !reflect.DeepEqual(got, first) {
		t.Error(n, err)
	} else {
		clear(got.Roles[0].Keys)
	}
	if first.Roles[0].Keys[0] != keys[0] {
		t.Error("Follow with an error shares")
	}
	e := h.sealed(h.root(2, 1, 0), 0)
	body := slices.Clone(e.Body)
	next, err := chain.Next(first, e)
	clear(e.Body)
	if err != api.OK || !reflect.DeepEqual(next, h.root(2, 1, 0)) {
		t.Error("kept", err)
	}
	if b, _ := wire.EncodeRoot(next); !slices.Equal(b, body) {
		t.Error("changed")
	}
}
