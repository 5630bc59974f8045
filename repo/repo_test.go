package repo_test

import (
	"crypto/sha256"
	"math"
	"reflect"
	"slices"
	"testing"

	"ostler/api"
	"ostler/digest"
	"ostler/key"
	"ostler/quorum"
	"ostler/repo"
	"ostler/tuf"
	"ostler/wire"
)

var seed = api.Hash{1, 2, 3}

func public(generation byte) api.Hash {
	return key.New(sha256.Sum256(append(seed[:len(seed):len(seed)], generation)), 0).Public()
}

func one(h api.Hash) api.Keys { return api.Keys{Keys: []api.Hash{h}, Need: 1} }

func rootOf(version int) api.Root {
	o := one(public(byte(version)))
	return api.Root{Version: version, Expires: api.MaxNumber, Roles: [api.Roles]api.Keys{one(public(0)), o, o, o}}
}

func target(name, ecu string, counter int) api.Target {
	return api.Target{Name: name, Size: 5, Sum: api.Hash{byte(counter)}, Hardware: "h0", Counter: counter, Ecu: ecu}
}

func must(t *testing.T, err, want api.Errno) {
	t.Helper()
	if err != want {
		t.Errorf("%v, not %v", err, want)
	}
}

func used(t *testing.T, r *repo.Repo, root, online int) {
	t.Helper()
	if a, b := r.Used(); a != root || b != online {
		t.Errorf("used %d, %d; not %d, %d", a, b, root, online)
	}
}

// P16.1: the keys, the first root, nothing else.
func TestNew(t *testing.T) {
	r := repo.New(seed)
	if got := r.Root(); !reflect.DeepEqual(got, rootOf(1)) {
		t.Error(got)
	}
	if len(r.Targets()) != 0 || len(r.Ledger()) != 0 || !reflect.DeepEqual(r.Bundle(), api.Bundle{}) {
		t.Error("something is there")
	}
	used(t, r, 0, 0)
	if reflect.DeepEqual(repo.New(api.Hash{}).Root(), r.Root()) {
		t.Error("another seed")
	}
}

// P16.2: in order of Name, then Ecu; one of both names is replaced.
func TestPublishAndRemove(t *testing.T) {
	r := repo.New(seed)
	for i, s := range [][2]string{{"b", ""}, {"a", "e1"}, {"a", ""}, {"c", "e0"}, {"a", "e0"}, {"-", "z"}} {
		must(t, r.Publish(target(s[0], s[1], i)), api.OK)
	}
	want := []api.Target{target("-", "z", 5), target("a", "", 2), target("a", "e0", 4), target("a", "e1", 1), target("b", "", 0), target("c", "e0", 3)}
	if got := r.Targets(); !slices.Equal(got, want) {
		t.Error(got)
	}
	must(t, r.Publish(target("a", "e0", 77)), api.OK)
	want[2].Counter, want[2].Sum = 77, api.Hash{77}
	if got := r.Targets(); !slices.Equal(got, want) {
		t.Error(got)
	}
	for _, s := range [][2]string{{"a", "e2"}, {"b", "e0"}, {"", ""}, {"zz", ""}, {"c", ""}} {
		must(t, r.Remove(s[0], s[1]), api.ErrNone)
	}
	must(t, r.Remove("a", ""), api.OK)
	must(t, r.Remove("a", ""), api.ErrNone)
	must(t, r.Remove("c", "e0"), api.OK)
	if got := r.Targets(); !slices.Equal(got, []api.Target{want[0], want[2], want[3], want[4]}) {
		t.Error(got)
	}
	if len(r.Ledger()) != 0 || len(r.Bundle().Targets) != 0 {
		t.Error("something is signed")
	}
	used(t, r, 0, 0)
}

// P16.2: ErrArg, then ErrFull.
func TestErrorsOfPublish(t *testing.T) {
	r := repo.New(seed)
	for i := range api.MaxList {
		must(t, r.Publish(target("n"+string(rune('a'+i)), "", i)), api.OK)
	}
	was := r.Targets()
	for _, change := range []func(*api.Target){
		func(v *api.Target) { v.Name = "" }, func(v *api.Target) { v.Name = "A" }, func(v *api.Target) { v.Size = -1 }, func(v *api.Target) { v.Size = 513 },
		func(v *api.Target) { v.Hardware = "" }, func(v *api.Target) { v.Counter = -1 }, func(v *api.Target) { v.Counter = api.MaxNumber + 1 }, func(v *api.Target) { v.Ecu = "E" },
	} {
		v := target("na", "", 0)
		change(&v)
		must(t, r.Publish(v), api.ErrArg)
		must(t, repo.New(seed).Publish(v), api.ErrArg)
	}
	must(t, r.Publish(target("zz", "", 0)), api.ErrFull)
	must(t, r.Publish(target("na", "e0", 0)), api.ErrFull)
	if !slices.Equal(r.Targets(), was) {
		t.Error("changed")
	}
	must(t, r.Publish(target("na", "", 9)), api.OK)
	must(t, r.Remove("nb", ""), api.OK)
	must(t, r.Publish(target("zz", "", 0)), api.OK)
	must(t, r.Sign(0, 9), api.OK)
	if len(r.Ledger()) != api.MaxList {
		t.Error(len(r.Ledger()))
	}
}

// signed wants a bundle of that version, signed by that generation, of these targets.
func signed(t *testing.T, b api.Bundle, generation byte, version, expires int, l []api.Target) {
	t.Helper()
	if len(b.Targets) != 1 {
		t.Fatal(len(b.Targets))
	}
	by := one(public(generation))
	for i, e := range []api.Envelope{b.Targets[0], b.Snap, b.Time} {
		if len(e.Marks) != 1 || !quorum.Meets(e, by) {
			t.Error(i, "is not signed")
		}
	}
	top, err := wire.DecodeTargets(b.Targets[0].Body)
	must(t, err, api.OK)
	if top.Name != "top" || top.Version != version || top.Expires != expires || len(top.D) != 0 || !slices.Equal(top.L, l) {
		t.Error(top)
	}
	snap, err := wire.DecodeSnap(b.Snap.Body)
	must(t, err, api.OK)
	if !reflect.DeepEqual(snap, api.Snap{Version: version, Expires: expires, Pins: []api.Pin{{Name: "top", Version: version}}}) {
		t.Error(snap)
	}
	time, err := wire.DecodeTime(b.Time.Body)
	must(t, err, api.OK)
	if time != (api.Time{Version: version, Expires: expires, Snap: version, Sum: digest.Sum(b.Snap.Body)}) {
		t.Error(time)
	}
}

// P16.3: Targets, Snap, Time, in this order; the ledger.
func TestSign(t *testing.T) {
	r := repo.New(seed)
	must(t, r.Sign(0, 0), api.OK)
	signed(t, r.Bundle(), 1, 1, 0, nil)
	var ledger []api.Target
	for i := 2; i <= 5; i++ {
		must(t, r.Publish(target("n", "", i)), api.OK)
		must(t, r.Publish(target("m"+string(rune('0'+i)), "", i)), api.OK)
		must(t, r.Sign(10*i, i), api.OK)
		ledger = append(ledger, r.Targets()...)
		b := r.Bundle()
		signed(t, b, 1, i, 11*i, r.Targets())
		for j, e := range []api.Envelope{b.Targets[0], b.Snap, b.Time} {
			if e.Marks[0].Sig.Leaf != 3*(i-1)+j {
				t.Error("leaves", i, j)
			}
		}
		if !slices.Equal(r.Ledger(), ledger) || len(b.Roots) != 0 {
			t.Error(i)
		}
		used(t, r, 0, 3*i)
	}
	was := r.Bundle()
	for range 2 { // the chapter's example: the sixth
		must(t, r.Sign(100, 1), api.ErrUsed)
	}
	used(t, r, 0, 15)
	if !reflect.DeepEqual(r.Bundle(), was) || !slices.Equal(r.Ledger(), ledger) {
		t.Error("changed")
	}
	for _, c := range [][2]int{{-1, 1}, {api.MaxNumber + 1, 0}, {api.MaxNumber, 1}, {1, api.MaxNumber}, {1, -1}} {
		must(t, r.Sign(c[0], c[1]), api.ErrArg) // ahead of ErrUsed
	}
}

// P16.3: which times may be.
func TestErrorsOfSign(t *testing.T) {
	const most = api.MaxNumber
	r := repo.New(seed)
	for _, c := range [][2]int{{-1, 0}, {0, -1}, {most + 1, 0}, {0, most + 1}, {most, 1}, {1, most}, {math.MinInt, 0}, {math.MaxInt, math.MaxInt}, {0, math.MinInt}, {math.MinInt, math.MaxInt}, {5, math.MaxInt}, {5, -1}, {5, -5}, {-1, 5}, {-5, 5}, {most + 1, -5}, {most + 5, -5}, {-5, most + 1}} {
		must(t, r.Sign(c[0], c[1]), api.ErrArg)
	}
	used(t, r, 0, 0)
	for i, c := range [][2]int{{most, 0}, {0, most}, {most / 2, most / 2}, {0, 0}} {
		must(t, r.Sign(c[0], c[1]), api.OK)
		signed(t, r.Bundle(), 1, i+1, c[0]+c[1], nil)
	}
}

// P16.3, P16.4: the next key; what was signed ahead is what is handed out till the next Sign.
func TestRotate(t *testing.T) {
	r := repo.New(seed)
	must(t, r.Publish(target("n", "", 1)), api.OK)
	must(t, r.Sign(0, 9), api.OK)
	was := r.Bundle()
	must(t, r.Rotate(), api.OK)
	used(t, r, 1, 0)
	b := r.Bundle()
	if len(b.Roots) != 1 || !reflect.DeepEqual(b.Time, was.Time) || !reflect.DeepEqual(b.Snap, was.Snap) || !reflect.DeepEqual(b.Targets, was.Targets) {
		t.Error("signed anew", len(b.Roots))
	}
	if _, err := tuf.Update(api.Trusted{Root: r.Root()}, b, 0); err != api.ErrSigned {
		t.Error(err)
	}
	must(t, r.Sign(1, 9), api.OK)
	signed(t, r.Bundle(), 2, 2, 10, r.Targets())
	used(t, r, 1, 3)
	for i := 3; i <= 17; i++ {
		must(t, r.Rotate(), api.OK)
	}
	used(t, r, 16, 0)
	for range 2 {
		must(t, r.Rotate(), api.ErrUsed)
	}
	b = r.Bundle()
	if len(b.Roots) != 16 {
		t.Fatal(len(b.Roots))
	}
	for i, e := range b.Roots {
		got, err := wire.DecodeRoot(e.Body)
		if err != api.OK || !reflect.DeepEqual(got, rootOf(i+2)) || len(e.Marks) != 1 || e.Marks[0].Sig.Leaf != i || !quorum.Meets(e, one(public(0))) {
			t.Error(i, err)
		}
	}
	must(t, r.Sign(2, 9), api.OK)
	signed(t, r.Bundle(), 17, 3, 11, r.Targets())
	if !reflect.DeepEqual(r.Root(), rootOf(1)) {
		t.Error("Root is the first one always")
	}
	got, err := tuf.Update(api.Trusted{Root: r.Root()}, r.Bundle(), 10)
	if err != api.OK || got.Root.Version != 17 || got.Targets[0].Version != 3 {
		t.Error(err)
	}
}

// P16.3: Rotate ahead of any Sign: roots alone.
func TestRotateAheadOfSign(t *testing.T) {
	r := repo.New(seed)
	must(t, r.Rotate(), api.OK)
	b := r.Bundle()
	if len(b.Roots) != 1 {
		t.Error(len(b.Roots))
	}
	b.Roots = nil
	if !reflect.DeepEqual(b, api.Bundle{}) {
		t.Error(b)
	}
	must(t, r.Sign(0, 1), api.OK)
	signed(t, r.Bundle(), 2, 1, 1, nil)
}

// P16.3: a key that was used up goes on behind a Rotate.
func TestUsedUpAndRotated(t *testing.T) {
	r := repo.New(seed)
	for range 5 {
		must(t, r.Sign(0, 1), api.OK)
	}
	must(t, r.Sign(0, 1), api.ErrUsed)
	must(t, r.Rotate(), api.OK)
	for i := range 5 {
		must(t, r.Sign(0, 1), api.OK)
		signed(t, r.Bundle(), 2, 6+i, 1, nil)
	}
	must(t, r.Sign(0, 1), api.ErrUsed)
}

// P16.5: no leaf signs twice.
func TestNoLeafSignsTwice(t *testing.T) {
	r := repo.New(seed)
	type leaf struct {
		key api.Hash
		n   int
	}
	seen := map[leaf]string{}
	look := func(e api.Envelope) {
		for _, m := range e.Marks {
			l := leaf{m.Key, m.Sig.Leaf}
			if was, ok := seen[l]; ok && was != string(e.Body) {
				t.Error("twice", l.n)
			}
			seen[l] = string(e.Body)
		}
	}
	for i := range 40 {
		if i%4 == 3 {
			r.Rotate()
		} else {
			r.Sign(i, 5)
		}
		b := r.Bundle()
		look(b.Time)
		look(b.Snap)
		for _, e := range append(b.Targets, b.Roots...) {
			look(e)
		}
	}
	if len(seen) != 10+3*30 {
		t.Error(len(seen))
	}
}

// flat is a bundle's envelopes as texts: nothing of it is shared with the bundle.
func flat(t *testing.T, b api.Bundle) []string {
	t.Helper()
	var l []string
	for _, e := range slices.Concat(b.Roots, []api.Envelope{b.Time, b.Snap}, b.Targets) {
		x, err := wire.EncodeEnvelope(e)
		must(t, err, api.OK)
		l = append(l, string(x))
	}
	return l
}

// P16.5: what is answered is new.
func TestNothingIsShared(t *testing.T) {
	r := repo.New(seed)
	must(t, r.Publish(target("n", "", 1)), api.OK)
	must(t, r.Publish(target("m", "", 1)), api.OK)
	must(t, r.Rotate(), api.OK)
	must(t, r.Sign(0, 9), api.OK)
	was := flat(t, r.Bundle())
	b := r.Bundle()
	for _, e := range append([]api.Envelope{b.Time, b.Snap}, append(b.Targets, b.Roots...)...) {
		clear(e.Body)
		_ = append(e.Body, 1)
		clear(e.Marks[0].Sig.Chains)
		clear(e.Marks[0].Sig.Path)
		clear(e.Marks)
	}
	clear(b.Targets)
	clear(b.Roots)
	clear(r.Targets())
	_ = append(r.Targets()[:1], api.Target{})
	clear(r.Ledger())
	clear(r.Root().Roles[0].Keys)
	if !slices.Equal(flat(t, r.Bundle()), was) || r.Targets()[0].Name != "m" || r.Ledger()[1].Name != "n" || !reflect.DeepEqual(r.Root(), rootOf(1)) {
		t.Error("shared")
	}
	root := r.Root()
	_ = append(root.Roles[1].Keys, api.Hash{})
	if !reflect.DeepEqual(root, rootOf(1)) {
		t.Error("lists of one answer share")
	}
	l := r.Targets()
	must(t, r.Remove("m", ""), api.OK)
	must(t, r.Publish(target("a", "", 1)), api.OK)
	if l[0].Name != "m" || l[1].Name != "n" || r.Ledger()[0].Name != "m" {
		t.Error("what was answered changes")
	}
}

// P16.5, W8: a nil Repo, and one that no one made.
func TestNilRepo(t *testing.T) {
	var r *repo.Repo
	must(t, r.Publish(target("n", "", 1)), api.ErrArg)
	must(t, r.Remove("n", ""), api.ErrArg)
	must(t, r.Sign(0, 1), api.ErrArg)
	must(t, r.Rotate(), api.ErrArg)
	if !reflect.DeepEqual(r.Root(), api.Root{}) || !reflect.DeepEqual(r.Bundle(), api.Bundle{}) || len(r.Targets()) != 0 || len(r.Ledger()) != 0 {
		t.Error("a nil Repo has something")
	}
	used(t, r, 0, 0)
	zero := &repo.Repo{}
	zero.Root()
	zero.Bundle()
	if zero.Sign(0, 1) == api.OK || zero.Rotate() == api.OK || len(zero.Bundle().Roots) != 0 {
		t.Error("one without keys signs")
	}
}
