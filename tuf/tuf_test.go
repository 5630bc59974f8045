package tuf_test

import (
	"bytes"
	"math"
	"reflect"
	"slices"
	"strconv"
	"testing"

	"ostler/api"
	"ostler/digest"
	"ostler/key"
	"ostler/octet"
	"ostler/tuf"
	"ostler/wire"
)

// publics keeps what is dear: the public of key i.
var publics = map[int]api.Hash{}

func public(i int) api.Hash {
	h, ok := publics[i]
	if !ok {
		h = seedKey(i).Public()
		publics[i] = h
	}
	return h
}

func seedKey(i int) *key.Key { return key.New(api.Hash{9, byte(i)}, 0) }

func keys(need int, l ...int) api.Keys {
	k := api.Keys{Need: need}
	for _, i := range l {
		k.Keys = append(k.Keys, public(i))
	}
	return k
}

func seal(b []byte, err api.Errno, by ...int) api.Envelope {
	if err != api.OK {
		panic(err)
	}
	e := api.Envelope{Body: b}
	for _, i := range by {
		s, _ := seedKey(i).Sign(b)
		e.Marks = append(e.Marks, api.Mark{Key: public(i), Sig: s})
	}
	return e
}

// The keys of the first root: 0 for the root, 1, 2 and 3 for the others.
func rootOf(version int) api.Root {
	return api.Root{Version: version, Expires: 100, Roles: [api.Roles]api.Keys{keys(1, 0), keys(1, 1), keys(1, 2), keys(1, 3)}}
}

// plan is a bundle that is not signed yet, and who signs it.
type plan struct {
	roots    []api.Root
	rootBy   []int
	time     api.Time
	timeBy   []int
	snap     api.Snap
	snapBy   []int
	targets  []api.Targets
	targetBy [][]int
	sum      func(api.Hash) api.Hash // of the snap, as Time tells it
}

// fresh is a plan of one version: a top, and two more that it delegates to.
func fresh(version int) *plan {
	return &plan{
		time: api.Time{Version: version, Expires: 100, Snap: version}, timeBy: []int{1},
		snap:   api.Snap{Version: version, Expires: 100, Pins: []api.Pin{{Name: "da", Version: version}, {Name: "db", Version: version}, {Name: "top", Version: version}}},
		snapBy: []int{2},
		targets: []api.Targets{
			{Name: "top", Version: version, Expires: 100, L: []api.Target{{Name: "t", Hardware: "h", Counter: version}},
				D: []api.Dele{{Name: "da", Keys: keys(1, 4), Prefix: "a"}}},
			{Name: "da", Version: version, Expires: 100, D: []api.Dele{{Name: "db", Keys: keys(2, 5, 6)}, {Name: "da", Keys: keys(1, 7)}}},
			{Name: "db", Version: version, Expires: 100},
		},
		targetBy: [][]int{{3}, {4}, {5, 6}},
		sum:      func(h api.Hash) api.Hash { return h },
	}
}

func (p *plan) bundle() api.Bundle {
	var b api.Bundle
	for _, r := range p.roots {
		x, err := wire.EncodeRoot(r)
		b.Roots = append(b.Roots, seal(x, err, p.rootBy...))
	}
	x, err := wire.EncodeSnap(p.snap)
	b.Snap = seal(x, err, p.snapBy...)
	t := p.time
	t.Sum = p.sum(digest.Sum(x))
	x, err = wire.EncodeTime(t)
	b.Time = seal(x, err, p.timeBy...)
	for i, v := range p.targets {
		x, err := wire.EncodeTargets(v)
		b.Targets = append(b.Targets, seal(x, err, p.targetBy[i]...))
	}
	return b
}

// trusts is what is trusted behind the plan.
func (p *plan) trusts(r api.Root) api.Trusted {
	t := api.Trusted{Root: r, Set: true, Time: p.time, Snap: p.snap, Targets: p.targets}
	x, _ := wire.EncodeSnap(p.snap)
	t.Time.Sum = digest.Sum(x)
	return t
}

func start() api.Trusted { return api.Trusted{Root: rootOf(1)} }

func same(t *testing.T, got, want api.Trusted) {
	t.Helper()
	if !tuf.Same(got, want) || !reflect.DeepEqual(got, want) {
		t.Errorf("trusted:\n%+v\nnot\n%+v", got, want)
	}
}

// mustErr updates, wants the error, and what was trusted as it was.
func mustErr(t *testing.T, what any, was api.Trusted, b api.Bundle, now int, want api.Errno) {
	t.Helper()
	got, err := tuf.Update(was, b, now)
	if err != want {
		t.Errorf("%v: %v, not %v", what, err, want)
	}
	if want != api.OK {
		same(t, got, was)
	}
}

func mustOK(t *testing.T, was api.Trusted, b api.Bundle, now int) api.Trusted {
	t.Helper()
	got, err := tuf.Update(was, b, now)
	if err != api.OK {
		t.Fatal(err)
	}
	return got
}

// P9.1: all that is new is trusted; again, and behind it.
func TestUpdate(t *testing.T) {
	for now := range []int{0, 50, 99} {
		got := mustOK(t, start(), fresh(3).bundle(), now)
		same(t, got, fresh(3).trusts(rootOf(1)))
		same(t, mustOK(t, got, fresh(3).bundle(), now), got)
		same(t, mustOK(t, got, fresh(5).bundle(), now), fresh(5).trusts(rootOf(1)))
	}
}

// change is one thing that is other than in a fresh plan of version 3, and what that answers.
type change struct {
	what string
	do   func(p *plan)
	want api.Errno
}

func try(t *testing.T, was func() api.Trusted, l []change) {
	t.Helper()
	for _, c := range l {
		p := fresh(3)
		c.do(p)
		mustErr(t, c.what, was(), p.bundle(), 50, c.want)
	}
}

func renewed(version int, rootKey, time int) api.Root {
	r := rootOf(version)
	r.Roles[api.RoleRoot] = keys(1, rootKey)
	r.Roles[api.RoleTime] = keys(1, time)
	return r
}

// P9.1, 1: roots that follow, that are passed over, that expire.
func TestRoots(t *testing.T) {
	late := rootOf(2)
	late.Expires = 50
	gone := rootOf(3)
	gone.Expires = 51
	try(t, start, []change{
		{"none", func(p *plan) {}, api.OK},
		{"the next one", func(p *plan) { p.roots, p.rootBy = []api.Root{rootOf(2)}, []int{0} }, api.OK},
		{"another key for Time", func(p *plan) { p.roots, p.rootBy = []api.Root{renewed(2, 0, 8)}, []int{0} }, api.ErrSigned},
		{"another key for Time, that signed", func(p *plan) { p.roots, p.rootBy, p.timeBy = []api.Root{renewed(2, 0, 8)}, []int{0}, []int{8} }, api.OK},
		{"not signed", func(p *plan) { p.roots = []api.Root{rootOf(2)} }, api.ErrSigned},
		{"one left out", func(p *plan) { p.roots, p.rootBy = []api.Root{rootOf(3)}, []int{0} }, api.ErrVersion},
		{"one left out behind one", func(p *plan) { p.roots, p.rootBy = []api.Root{rootOf(2), rootOf(4)}, []int{0} }, api.ErrVersion},
		{"the trusted one, not signed", func(p *plan) { p.roots = []api.Root{rootOf(1)} }, api.OK},
		{"one behind the other, one twice", func(p *plan) {
			p.roots, p.rootBy = []api.Root{rootOf(1), rootOf(2), rootOf(2), rootOf(1), rootOf(3)}, []int{0}
		}, api.OK},
		{"expired", func(p *plan) { p.roots, p.rootBy = []api.Root{late}, []int{0} }, api.ErrExpired},
		{"expired, ahead of Time", func(p *plan) { p.roots, p.rootBy, p.timeBy = []api.Root{late}, []int{0}, nil }, api.ErrExpired},
		{"expired on the way", func(p *plan) { p.roots, p.rootBy = []api.Root{late, gone}, []int{0} }, api.OK},
	})
	p := fresh(3)
	p.roots, p.rootBy, p.timeBy = []api.Root{renewed(2, 8, 8), renewed(3, 8, 7)}, []int{0, 8}, []int{7}
	got := mustOK(t, start(), p.bundle(), 50)
	same(t, got, p.trusts(renewed(3, 8, 7)))
	// Whoever trusts 3 passes over 2 and 3, though 2 is signed by keys that it does not know.
	same(t, mustOK(t, got, p.bundle(), 50), got)
	b := p.bundle()
	b.Roots[0].Marks = nil
	mustErr(t, "passed over, not signed", got, b, 50, api.OK)
	b.Roots[0].Body[0] = 9
	mustErr(t, "no Root is not passed over", got, b, 50, api.ErrForm)
	b = p.bundle()
	b.Roots = append(b.Roots[:1], append([]api.Envelope{{}}, b.Roots[1:]...)...)
	mustErr(t, "no Root", start(), b, 50, api.ErrForm)
}

// P9.1, 1: the trusted root expires by now.
func TestRootExpires(t *testing.T) {
	p := fresh(3)
	for now, want := range map[int]api.Errno{99: api.OK, math.MinInt: api.OK, -1: api.OK, 100: api.ErrExpired, 101: api.ErrExpired, math.MaxInt: api.ErrExpired} {
		mustErr(t, now, start(), p.bundle(), now, want)
	}
}

func set() api.Trusted { return fresh(3).trusts(rootOf(1)) }

func both(t *testing.T, l []change) {
	t.Helper()
	try(t, start, l)
	try(t, set, l)
}

// P9.1, 2: Time.
func TestTime(t *testing.T) {
	other := func(p *plan) { p.snap.Pins[0].Version++ } // the Snap is other than Time tells: what comes behind
	both(t, []change{
		{"as it is", func(p *plan) {}, api.OK},
		{"not signed", func(p *plan) { p.timeBy = nil; p.time.Expires = 50 }, api.ErrSigned},
		{"by another key", func(p *plan) { p.timeBy = []int{2} }, api.ErrSigned},
		{"expired", func(p *plan) { p.time.Expires = 50; p.snapBy = nil }, api.ErrExpired},
		{"not expired", func(p *plan) { p.time.Expires = 51 }, api.OK},
		{"ahead of Snap", func(p *plan) { p.timeBy = nil; other(p) }, api.ErrSigned},
	})
	b := fresh(3).bundle()
	x, _ := wire.EncodeSnap(fresh(3).snap)
	for i, body := range [][]byte{nil, x, b.Time.Body[1:], append(slices.Clone(b.Time.Body), 0)} {
		b.Time = seal(body, api.OK, 1)
		mustErr(t, i, start(), b, 50, api.ErrForm)
		mustErr(t, i, set(), b, 50, api.ErrForm)
		b.Time.Marks = nil
		mustErr(t, i, set(), b, 50, api.ErrSigned)
	}
	try(t, set, []change{
		{"an older Time", func(p *plan) { p.time.Version = 2 }, api.ErrOld},
		{"an older Time, expired", func(p *plan) { p.time.Version = 2; p.time.Expires = 0 }, api.ErrOld},
		{"an older Snap", func(p *plan) { p.time.Version, p.time.Snap = 9, 2 }, api.ErrOld},
		{"a newer Time of the same Snap", func(p *plan) { p.time.Version = 9 }, api.OK},
		{"a newer Snap than is there", func(p *plan) { p.time.Snap = 4 }, api.ErrVersion},
	})
	unset := set()
	unset.Set = false
	p := fresh(3)
	p.time.Version = 1
	same(t, mustOK(t, unset, p.bundle(), 50), p.trusts(rootOf(1)))
	p.time.Snap, p.snap.Version, p.snap.Pins[0].Version, p.targets[1].Version = 2, 2, 1, 1
	same(t, mustOK(t, unset, p.bundle(), 50), p.trusts(rootOf(1)))
}

// P9.1, 3: Snap.
func TestSnap(t *testing.T) {
	both(t, []change{
		{"another Sum", func(p *plan) { p.sum = func(h api.Hash) api.Hash { h[31]++; return h } }, api.ErrSum},
		{"another Sum, not signed", func(p *plan) { p.sum = func(h api.Hash) api.Hash { h[0]++; return h }; p.snapBy = nil }, api.ErrSum},
		{"not signed", func(p *plan) { p.snapBy = nil; p.snap.Version = 9 }, api.ErrSigned},
		{"by another key", func(p *plan) { p.snapBy = []int{1} }, api.ErrSigned},
		{"another version", func(p *plan) { p.snap.Version = 4; p.snap.Pins[2].Version = 1 }, api.ErrVersion},
		{"an elder version", func(p *plan) { p.snap.Version = 2 }, api.ErrVersion},
		{"expired", func(p *plan) { p.snap.Expires = 50; p.targets = nil }, api.ErrExpired},
		{"not expired", func(p *plan) { p.snap.Expires = 51 }, api.OK},
	})
	b := fresh(3).bundle()
	for i, body := range [][]byte{nil, b.Time.Body, append(slices.Clone(b.Snap.Body), 0)} {
		b.Snap = seal(body, api.OK, 2)
		x, _ := wire.EncodeTime(api.Time{Version: 3, Expires: 100, Snap: 3, Sum: digest.Sum(body)})
		b.Time = seal(x, api.OK, 1)
		mustErr(t, i, set(), b, 50, api.ErrForm)
		b.Snap.Marks = nil
		mustErr(t, i, set(), b, 50, api.ErrSigned)
	}
	try(t, set, []change{
		{"a pin is gone", func(p *plan) { p.snap.Pins = p.snap.Pins[1:]; p.snap.Expires = 0 }, api.ErrOld},
		{"all pins are gone", func(p *plan) { p.snap.Pins = nil }, api.ErrOld},
		{"a pin falls", func(p *plan) { p.snap.Pins[1].Version = 2 }, api.ErrOld},
		{"the last pin falls", func(p *plan) { p.snap.Pins[2].Version = 2 }, api.ErrOld},
		{"another name", func(p *plan) { p.snap.Pins[0].Name = "aa" }, api.ErrOld},
		{"one pin more", func(p *plan) { p.snap.Pins = append([]api.Pin{{Name: "aa", Version: 1}}, p.snap.Pins...) }, api.OK},
		{"a pin rises", func(p *plan) { p.snap.Pins[1].Version, p.targets[2].Version = 4, 4 }, api.OK},
	})
	try(t, start, []change{{"fewer pins, at first", func(p *plan) {
		p.snap.Pins = p.snap.Pins[2:]
		p.targets = p.targets[:1]
	}, api.OK}})
}

// P9.1, 4: Targets.
func TestTargets(t *testing.T) {
	both(t, []change{
		{"none", func(p *plan) { p.targets = nil }, api.ErrNone},
		{"the top alone", func(p *plan) { p.targets = p.targets[:1] }, api.OK},
		{"not the top", func(p *plan) { p.targets = p.targets[1:] }, api.ErrForm},
		{"another first", func(p *plan) { p.targets[0], p.targets[1] = p.targets[1], p.targets[0] }, api.ErrForm},
		{"the top twice", func(p *plan) { p.targets[1] = p.targets[0]; p.targetBy[1] = []int{3} }, api.ErrForm},
		{"one twice", func(p *plan) { p.targets[2] = p.targets[1]; p.targetBy[2] = []int{4} }, api.ErrForm},
		{"one twice, not signed", func(p *plan) { p.targets[2] = p.targets[1]; p.targetBy[2] = nil }, api.ErrForm},
		{"not delegated", func(p *plan) { p.targets[0].D = nil; p.targetBy[1] = nil }, api.ErrNone},
		{"delegated by one behind it", func(p *plan) {
			p.targets[1], p.targets[2] = p.targets[2], p.targets[1]
			p.targetBy = [][]int{{3}, {5, 6}, {4}}
		}, api.ErrNone},
		{"the top not signed", func(p *plan) { p.targetBy[0] = nil }, api.ErrSigned},
		{"the top by another key", func(p *plan) { p.targetBy[0] = []int{2} }, api.ErrSigned},
		{"one by the top's key", func(p *plan) { p.targetBy[1] = []int{3} }, api.ErrSigned},
		{"one by too few", func(p *plan) { p.targetBy[2] = []int{5} }, api.ErrSigned},
		{"one by the keys of its own delegation", func(p *plan) { p.targetBy[1] = []int{7} }, api.ErrSigned},
		{"the first delegation decides", func(p *plan) {
			p.targets[0].D = append(p.targets[0].D, api.Dele{Name: "db", Keys: keys(1, 8)})
		}, api.ErrSigned},
		{"the first delegation's keys", func(p *plan) {
			p.targets[0].D = append(p.targets[0].D, api.Dele{Name: "db", Keys: keys(1, 8)})
			p.targetBy[2] = []int{8}
		}, api.OK},
		{"another version", func(p *plan) { p.targets[2].Version = 4; p.targets[2].Expires = 0 }, api.ErrVersion},
		{"another version of the top", func(p *plan) { p.targets[0].Version = 2 }, api.ErrVersion},
		{"another version, not signed", func(p *plan) { p.targets[0].Version = 2; p.targetBy[0] = nil }, api.ErrSigned},
		{"expired", func(p *plan) { p.targets[1].Expires = 50 }, api.ErrExpired},
		{"the top is not expired", func(p *plan) { p.targets[0].Expires = 51 }, api.OK},
		{"the first error", func(p *plan) { p.targets[1].Expires = 50; p.targetBy[2] = nil }, api.ErrExpired},
	})
	try(t, start, []change{
		{"not in Snap's Pins", func(p *plan) { p.snap.Pins = p.snap.Pins[1:]; p.targets[1].Version = 9 }, api.ErrNone},
		{"not in Snap's Pins, not signed", func(p *plan) { p.snap.Pins = p.snap.Pins[1:]; p.targetBy[1] = nil }, api.ErrSigned},
		{"the last one not in Snap's Pins", func(p *plan) { p.snap.Pins = []api.Pin{p.snap.Pins[0], p.snap.Pins[2]} }, api.ErrNone},
		{"no top in Snap's Pins", func(p *plan) { p.snap.Pins = p.snap.Pins[:2] }, api.ErrNone},
	})
	for i := range 3 {
		b := fresh(3).bundle()
		b.Targets[i] = seal(b.Time.Body, api.OK, 3, 4, 5, 6)
		mustErr(t, i, start(), b, 50, api.ErrForm)
	}
}

// P9.1, 4: MaxList Targets, and one more.
func TestManyTargets(t *testing.T) {
	p := fresh(1)
	p.targets, p.targetBy, p.snap.Pins = p.targets[:1], p.targetBy[:1], nil
	p.targets[0].D = nil
	for i := range api.MaxList - 1 {
		name := "d" + string(rune('a'+i))
		p.targets[0].D = append(p.targets[0].D, api.Dele{Name: name, Keys: keys(1, 4)})
		p.targets = append(p.targets, api.Targets{Name: name, Version: 1, Expires: 100})
		p.targetBy = append(p.targetBy, []int{4})
		p.snap.Pins = append(p.snap.Pins, api.Pin{Name: name, Version: 1})
	}
	p.snap.Pins = append(p.snap.Pins, api.Pin{Name: "top", Version: 1})
	got := mustOK(t, start(), p.bundle(), 0)
	same(t, got, p.trusts(rootOf(1)))
	b := p.bundle()
	b.Targets = append(b.Targets, api.Envelope{})
	mustErr(t, "17", start(), b, 0, api.ErrForm)
	b.Targets[0].Marks = nil
	mustErr(t, "17, and not signed", start(), b, 0, api.ErrForm)
	b.Targets = b.Targets[:16]
	mustErr(t, "16, and not signed", start(), b, 0, api.ErrSigned)
	b = fresh(1).bundle()
	b.Targets = append(b.Targets, slices.Repeat([]api.Envelope{{}}, 20)...)
	b.Targets[0].Marks = nil
	mustErr(t, "too many, and not signed", start(), b, 0, api.ErrForm)
}

// P9.3: versions never fall, whatever is offered in whatever order.
func TestVersionsNeverFall(t *testing.T) {
	var l []api.Bundle
	for v := 1; v <= 4; v++ {
		l = append(l, fresh(v).bundle())
	}
	got := start()
	for _, i := range []int{1, 0, 2, 1, 0, 3, 2, 1, 0, 3} {
		next, err := tuf.Update(got, l[i], 10)
		if (err == api.OK) != (i+1 >= got.Time.Version) || err != api.OK && err != api.ErrOld {
			t.Error(i, err)
		}
		if next.Time.Version < got.Time.Version || next.Snap.Version < got.Snap.Version {
			t.Error("falls", i)
		}
		for j, one := range next.Targets {
			if got.Set && one.Version < got.Targets[j].Version {
				t.Error("falls", i, j)
			}
		}
		got = next
	}
	if got.Time.Version != 4 {
		t.Error(got.Time.Version)
	}
}

// P9.1: parts of two bundles that are each signed are not one.
func TestMixed(t *testing.T) {
	a, b := fresh(3).bundle(), fresh(4).bundle()
	for i, c := range []struct {
		b    api.Bundle
		want api.Errno
	}{
		{api.Bundle{Time: a.Time, Snap: b.Snap, Targets: a.Targets}, api.ErrSum},
		{api.Bundle{Time: b.Time, Snap: a.Snap, Targets: b.Targets}, api.ErrSum},
		{api.Bundle{Time: b.Time, Snap: b.Snap, Targets: a.Targets}, api.ErrVersion},
		{api.Bundle{Time: a.Time, Snap: a.Snap, Targets: b.Targets}, api.ErrVersion},
		{api.Bundle{Time: a.Time, Snap: a.Snap, Targets: []api.Envelope{a.Targets[0], b.Targets[1], a.Targets[2]}}, api.ErrVersion},
		{api.Bundle{}, api.ErrSigned},
	} {
		mustErr(t, i, start(), c.b, 0, c.want)
	}
}

// P9.2: the bytes, and back.
func TestEncode(t *testing.T) {
	v := set()
	var w octet.Writer
	part := func(b []byte, err api.Errno) {
		if err != api.OK {
			t.Fatal(err)
		}
		w.Bytes(b)
	}
	part(wire.EncodeRoot(v.Root))
	w.Nums(1)
	part(wire.EncodeTime(v.Time))
	part(wire.EncodeSnap(v.Snap))
	w.Nums(3)
	for _, x := range v.Targets {
		part(wire.EncodeTargets(x))
	}
	b, err := tuf.Encode(v)
	if err != api.OK || !bytes.Equal(b, w.Out()) {
		t.Error(err)
	}
	got, err := tuf.Decode(b)
	if err != api.OK {
		t.Error(err)
	}
	same(t, got, v)
	w = octet.Writer{}
	part(wire.EncodeRoot(v.Root))
	w.Nums(0)
	v.Set = false
	short, err := tuf.Encode(v)
	if err != api.OK || !bytes.Equal(short, w.Out()) {
		t.Error(err)
	}
	got, err = tuf.Decode(short)
	if err != api.OK {
		t.Error(err)
	}
	same(t, got, start())
}

// P9.2: any number of Targets is Encoded: what may be is asked of each part alone.
func TestEncodeOfAnyTargets(t *testing.T) {
	v := set()
	for _, n := range []int{0, 1, 2, 20, 200} {
		v.Targets = slices.Repeat([]api.Targets{{Name: "x", Version: 1}}, n)
		b, err := tuf.Encode(v)
		if err != api.OK {
			t.Error(n, err)
		}
		if got, err := tuf.Decode(b); err != api.OK || len(got.Targets) != n || !tuf.Same(got, v) {
			t.Error(n, err)
		}
	}
}

// P9.2: parts that may not be.
func TestEncodeOfWhatMayNotBe(t *testing.T) {
	for i, change := range []func(v *api.Trusted){
		func(v *api.Trusted) { v.Root = api.Root{} },
		func(v *api.Trusted) { v.Root.Version = 0 },
		func(v *api.Trusted) { v.Time.Version = 0 },
		func(v *api.Trusted) { v.Snap.Expires = -1 },
		func(v *api.Trusted) { v.Snap.Pins[0].Name = "" },
		func(v *api.Trusted) { v.Targets[0].Name = "" },
		func(v *api.Trusted) { v.Targets[2].Version = 0 },
	} {
		v := set()
		change(&v)
		if b, err := tuf.Encode(v); err != api.ErrArg || len(b) != 0 {
			t.Error(i, err)
		}
		if tuf.Same(v, v) || tuf.Same(v, set()) || tuf.Same(set(), v) {
			t.Error(i, "Same")
		}
		v.Set = false
		if _, err := tuf.Encode(v); (err == api.OK) != (i > 1) {
			t.Error(i, "not Set", err)
		}
	}
}

// P9.2: bytes of no one.
func TestDecodeOfOthers(t *testing.T) {
	b, _ := tuf.Encode(set())
	short, _ := tuf.Encode(start())
	root, _ := wire.EncodeRoot(rootOf(1))
	var two, cut, many octet.Writer
	two.Bytes(root)
	two.Nums(2)
	cut.Bytes(root)
	cut.Nums(1)
	many.Raw(b[:len(b)-1]...)
	bad := [][]byte{nil, {0}, root, two.Out(), cut.Out(), many.Out(), append(slices.Clone(b), 0), append(slices.Clone(short), 0), append(slices.Clone(short), 1), short[:len(short)-1]}
	for n := range b {
		if n != len(b) {
			bad = append(bad, b[:n])
		}
	}
	time, _ := wire.EncodeTime(fresh(3).time)
	snap, _ := wire.EncodeSnap(fresh(3).snap)
	var huge octet.Writer
	huge.Bytes(root)
	huge.Nums(1)
	huge.Bytes(time, snap)
	huge.Nums(1 << 62)
	bad = append(bad, huge.Out())
	var turned octet.Writer
	turned.Bytes(root)
	turned.Nums(1)
	turned.Bytes(snap, time)
	turned.Nums(0)
	bad = append(bad, turned.Out())
	for i, x := range bad {
		if got, err := tuf.Decode(x); err != api.ErrForm || !reflect.DeepEqual(got, api.Trusted{}) {
			t.Error(i, err)
		}
	}
}

// P9.2: whatever byte is turned, what is Decoded is Encoded as just these bytes.
func TestDecodeIsOfOneRowAlone(t *testing.T) {
	b, _ := tuf.Encode(set())
	for i := range b {
		for _, x := range []byte{1, 2, 0x80, 0xff} {
			b[i] ^= x
			if v, err := tuf.Decode(b); err == api.OK {
				if o, err := tuf.Encode(v); err != api.OK || !bytes.Equal(o, b) {
					t.Fatal(i, x)
				}
			}
			b[i] ^= x
		}
	}
}

// P9.2: Same.
func TestSame(t *testing.T) {
	a, b := set(), set()
	if !tuf.Same(a, b) {
		t.Error("alike")
	}
	b.Targets[0].L[0].Counter++
	if tuf.Same(a, b) {
		t.Error("another Counter")
	}
	a.Set, b.Set = false, false
	if !tuf.Same(a, b) || !tuf.Same(a, start()) {
		t.Error("parts that are not Set count")
	}
	b.Set = true
	if tuf.Same(a, b) || tuf.Same(b, a) {
		t.Error("Set")
	}
	b = start()
	b.Root.Expires++
	if tuf.Same(a, b) || tuf.Same(api.Trusted{}, api.Trusted{}) {
		t.Error("another root, or none")
	}
}

// P9.3: what is handed in is left alone, what is answered is new.
func TestNothingIsShared(t *testing.T) {
	old := set()
	old.Root.Roles[0].Keys = append(old.Root.Roles[0].Keys, public(5))[:1]
	b := fresh(4).bundle()
	want := fresh(4).trusts(rootOf(1))
	got := mustOK(t, old, b, 0)
	wipe(b)
	same(t, got, want)
	for i := range got.Root.Roles {
		_ = append(got.Root.Roles[i].Keys, api.Hash{})
		clear(got.Root.Roles[i].Keys)
	}
	same(t, old, set())
	if old.Root.Roles[0].Keys[:2][1] != public(5) {
		t.Error("spare room")
	}
	got, err := tuf.Update(old, api.Bundle{}, 0)
	if err != api.ErrSigned {
		t.Error(err)
	}
	clear(got.Root.Roles[3].Keys)
	clear(got.Snap.Pins)
	clear(got.Targets[0].L)
	clear(got.Targets[1].D[0].Keys.Keys)
	clear(got.Targets[0].D)
	clear(got.Targets)
	same(t, old, set())
}

func wipe(b api.Bundle) {
	clear(b.Time.Body)
	clear(b.Snap.Body)
	for i := range b.Targets {
		clear(b.Targets[i].Body)
	}
}

// W1: whatever is trusted and offered, it ends.
func TestWhatMayNotBe(t *testing.T) {
	for i := range 20 {
		v := api.Trusted{Set: i%2 == 0, Snap: api.Snap{Pins: []api.Pin{{Name: strconv.Itoa(i)}}}}
		for _, n := range []int{math.MinInt, 0, math.MaxInt} {
			tuf.Update(v, fresh(1).bundle(), n)
			tuf.Update(v, api.Bundle{}, n)
		}
		tuf.Encode(v)
	}
}
