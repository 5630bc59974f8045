package director_test

import (
	"reflect"
	"slices"
	"testing"

	"ostler/api"
	"ostler/director"
	"ostler/key"
	"ostler/repo"
	"ostler/wire"
)

var seed = api.Hash{5}

func keyOf(ecu string) *key.Key { return key.New(api.Hash{9, ecu[len(ecu)-1]}, 0) }

func must(t *testing.T, err, want api.Errno) {
	t.Helper()
	if err != want {
		t.Errorf("%v, not %v", err, want)
	}
}

func newDirector(t *testing.T, ecus ...string) *director.Director {
	t.Helper()
	d := director.New(seed)
	for _, e := range ecus {
		must(t, d.Enroll(e, "h0", keyOf(e).Public()), api.OK)
	}
	return d
}

func target(name string) api.Target { return api.Target{Name: name, Size: 3, Hardware: "h0"} }

func of(name, ecu string) api.Target {
	t := target(name)
	t.Ecu = ecu
	return t
}

func assigned(t *testing.T, d *director.Director, ecu, want string) {
	t.Helper()
	got, ok := d.Assigned(ecu)
	if ok != (want != "") || ok && got != of(want, ecu) || !ok && got != (api.Target{}) {
		t.Error(ecu, got, ok)
	}
}

// P17.1: a Repo of the seed, no ECUs.
func TestNew(t *testing.T) {
	d := director.New(seed)
	if !reflect.DeepEqual(d.Repo().Root(), repo.New(seed).Root()) || d.Repo() != d.Repo() || len(d.Repo().Targets()) != 0 || len(d.Inventory()) != 0 {
		t.Error("New")
	}
	must(t, d.Assign("e0", target("n")), api.ErrNone)
	assigned(t, d, "e0", "")
}

// P17.1: ErrArg, ErrFull; enrolled anew.
func TestEnroll(t *testing.T) {
	d := newDirector(t, "e3", "e1", "e0", "e2")
	for _, c := range [][2]string{{"", "h"}, {"E", "h"}, {"e", ""}, {"e", "H"}, {"abcdefghijklm", "h"}, {"e", "abcdefghijklm"}} {
		must(t, d.Enroll(c[0], c[1], api.Hash{}), api.ErrArg)
		must(t, director.New(seed).Enroll(c[0], c[1], api.Hash{}), api.ErrArg)
	}
	must(t, d.Enroll("e4", "h0", api.Hash{}), api.ErrFull)
	must(t, d.Assign("e4", target("n")), api.ErrNone)
	must(t, d.Assign("e3", target("n")), api.OK)
	must(t, d.Enroll("e3", "h1", keyOf("e3").Public()), api.OK)
	must(t, d.Assign("e3", target("n")), api.ErrArg)
	assigned(t, d, "e3", "n")
	v := target("m")
	v.Hardware = "h1"
	must(t, d.Assign("e3", v), api.OK)
	if got, ok := d.Assigned("e3"); !ok || got.Name != "m" || got.Hardware != "h1" || got.Ecu != "e3" {
		t.Error(got)
	}
}

// P17.1: the elder one goes, the new one is Published.
func TestAssign(t *testing.T) {
	d := newDirector(t, "e0", "e1")
	must(t, d.Assign("e0", target("b")), api.OK)
	must(t, d.Assign("e1", target("b")), api.OK)
	assigned(t, d, "e0", "b")
	assigned(t, d, "e1", "b")
	must(t, d.Assign("e0", of("a", "e1")), api.OK) // whatever Ecu it had
	assigned(t, d, "e0", "a")
	if got := d.Repo().Targets(); !slices.Equal(got, []api.Target{of("a", "e0"), of("b", "e1")}) {
		t.Error(got)
	}
	v := target("a")
	v.Counter = 7
	must(t, d.Assign("e0", v), api.OK)
	if got, ok := d.Assigned("e0"); !ok || got.Counter != 7 || len(d.Repo().Targets()) != 2 {
		t.Error(got)
	}
	assigned(t, d, "e2", "")
	must(t, d.Repo().Remove("b", "e1"), api.OK)
	assigned(t, d, "e1", "")
}

// P17.1: ErrNone, ErrArg, ErrFull; nothing is Removed then.
func TestErrorsOfAssign(t *testing.T) {
	d := newDirector(t, "e0", "e1")
	must(t, d.Assign("e0", target("was")), api.OK)
	for _, change := range []func(*api.Target){
		func(v *api.Target) { v.Hardware = "h1" }, func(v *api.Target) { v.Hardware = "" }, func(v *api.Target) { v.Name = "" }, func(v *api.Target) { v.Name = "N" },
		func(v *api.Target) { v.Size = -1 }, func(v *api.Target) { v.Size = 513 }, func(v *api.Target) { v.Counter = -1 }, func(v *api.Target) { v.Counter = api.MaxNumber + 1 },
	} {
		v := target("n")
		change(&v)
		must(t, d.Assign("e0", v), api.ErrArg)
		must(t, d.Assign("e9", v), api.ErrNone)
		assigned(t, d, "e0", "was")
	}
	v := target("n")
	v.Ecu = "not a name"
	must(t, d.Assign("e0", v), api.OK)
	for i := range api.MaxList - 1 {
		must(t, d.Repo().Publish(target("x"+string(rune('a'+i)))), api.OK)
	}
	was := d.Repo().Targets()
	must(t, d.Assign("e1", target("n")), api.ErrFull)
	if !slices.Equal(d.Repo().Targets(), was) {
		t.Error("changed")
	}
	must(t, d.Assign("e0", target("o")), api.OK) // the elder one makes room
	assigned(t, d, "e0", "o")
	if len(d.Repo().Targets()) != api.MaxList {
		t.Error(len(d.Repo().Targets()))
	}
	must(t, d.Repo().Remove("xa", ""), api.OK)
	must(t, d.Assign("e1", target("n")), api.OK)
}

func report(ecu string, nonce int) api.Report {
	return api.Report{Ecu: ecu, Name: "n", Sum: api.Hash{byte(nonce)}, Counter: 3, Nonce: nonce}
}

func seal(t *testing.T, by string, r api.Report) api.Envelope {
	t.Helper()
	b, err := wire.EncodeReport(r)
	must(t, err, api.OK)
	return sealBytes(by, b)
}

func sealBytes(by string, b []byte) api.Envelope {
	k := keyOf(by)
	s, _ := k.Sign(b)
	return api.Envelope{Body: b, Marks: []api.Mark{{Key: k.Public(), Sig: s}}}
}

// P17.2, P17.3: nonces rise; the chapter's example; the inventory, by name.
func TestAccept(t *testing.T) {
	d := newDirector(t, "e2", "e0", "e1")
	var want []api.Report
	for _, c := range []struct {
		ecu   string
		nonce int
		err   api.Errno
	}{
		{"e1", 0, api.OK}, {"e1", 0, api.ErrOld}, {"e2", 0, api.OK}, {"e1", 5, api.OK}, {"e1", 4, api.ErrOld}, {"e1", 5, api.ErrOld},
		{"e0", 3, api.OK}, {"e1", 6, api.OK}, {"e2", 1, api.OK}, {"e2", 0, api.ErrOld}, {"e1", 0, api.ErrOld},
	} {
		e := seal(t, c.ecu, report(c.ecu, c.nonce))
		must(t, d.Accept(e), c.err)
		must(t, d.Accept(e), api.ErrOld)
		if c.err == api.OK {
			want = slices.DeleteFunc(want, func(r api.Report) bool { return r.Ecu == c.ecu })
			want = append(want, report(c.ecu, c.nonce))
			slices.SortFunc(want, func(a, b api.Report) int { return int(a.Ecu[1]) - int(b.Ecu[1]) })
		}
		if got := d.Inventory(); !slices.Equal(got, want) {
			t.Error(c, got)
		}
	}
}

// P17.2: ErrForm, ErrNone, ErrSigned, ErrOld, in this order.
func TestErrorsOfAccept(t *testing.T) {
	d := newDirector(t, "e0", "e1")
	must(t, d.Accept(seal(t, "e0", report("e0", 7))), api.OK)
	good, _ := wire.EncodeReport(report("e0", 8))
	time, _ := wire.EncodeTime(api.Time{Version: 1, Snap: 1})
	for _, b := range [][]byte{nil, time, good[:len(good)-1], append(slices.Clone(good), 0)} {
		must(t, d.Accept(sealBytes("e0", b)), api.ErrForm)
		must(t, d.Accept(api.Envelope{Body: b}), api.ErrForm)
	}
	must(t, d.Accept(seal(t, "e2", report("e2", 8))), api.ErrNone)
	must(t, d.Accept(seal(t, "e0", report("e9", 8))), api.ErrNone)
	for _, nonce := range []int{1, 8} {
		must(t, d.Accept(seal(t, "e1", report("e0", nonce))), api.ErrSigned)
		e := seal(t, "e0", report("e0", nonce))
		e.Marks[0].Sig.Path[0][0] ^= 1
		must(t, d.Accept(e), api.ErrSigned)
		e = seal(t, "e0", report("e0", nonce))
		e.Body[len(e.Body)-1]++
		must(t, d.Accept(e), api.ErrSigned)
		e.Marks = nil
		must(t, d.Accept(e), api.ErrSigned)
	}
	if got := d.Inventory(); !slices.Equal(got, []api.Report{report("e0", 7)}) {
		t.Error(got)
	}
	must(t, d.Accept(seal(t, "e0", report("e0", 8))), api.OK)
}

// P17.1, P17.2: enrolled anew: its report and nonce stay, its key is the new one.
func TestEnrolledAnew(t *testing.T) {
	d := newDirector(t, "e0")
	must(t, d.Accept(seal(t, "e0", report("e0", 7))), api.OK)
	must(t, d.Enroll("e0", "h0", keyOf("x").Public()), api.OK)
	if got := d.Inventory(); !slices.Equal(got, []api.Report{report("e0", 7)}) {
		t.Error(got)
	}
	must(t, d.Accept(seal(t, "e0", report("e0", 8))), api.ErrSigned)
	must(t, d.Accept(seal(t, "x", report("e0", 7))), api.ErrOld)
	must(t, d.Accept(seal(t, "x", report("e0", 8))), api.OK)
}

// P17.2: the first nonce may be 0, and what is not named stays as it was told.
func TestFirstReport(t *testing.T) {
	d := newDirector(t, "e0")
	r := api.Report{Ecu: "e0", Nonce: 0}
	must(t, d.Accept(seal(t, "e0", r)), api.OK)
	if got := d.Inventory(); !slices.Equal(got, []api.Report{r}) {
		t.Error(got)
	}
}

// W6: what is answered is new, what is handed in is left alone.
func TestNothingIsShared(t *testing.T) {
	d := newDirector(t, "e0", "e1")
	e := seal(t, "e0", report("e0", 1))
	was := seal(t, "e0", report("e0", 1))
	must(t, d.Accept(e), api.OK)
	if !reflect.DeepEqual(e, was) {
		t.Error("changed")
	}
	clear(e.Body)
	must(t, d.Accept(seal(t, "e1", report("e1", 1))), api.OK)
	l := d.Inventory()
	_ = append(l[:1], api.Report{})
	clear(l)
	if got := d.Inventory(); !slices.Equal(got, []api.Report{report("e0", 1), report("e1", 1)}) {
		t.Error(got)
	}
}

// P17.3, W8: a nil Director.
func TestNilDirector(t *testing.T) {
	var d *director.Director
	must(t, d.Enroll("e0", "h0", api.Hash{}), api.ErrArg)
	must(t, d.Assign("e0", target("n")), api.ErrArg)
	must(t, d.Accept(seal(t, "e0", report("e0", 1))), api.ErrArg)
	assigned(t, d, "e0", "")
	if d.Repo() != nil || len(d.Inventory()) != 0 {
		t.Error("a nil Director has something")
	}
	zero := &director.Director{}
	must(t, zero.Enroll("e0", "h0", api.Hash{}), api.OK)
	must(t, zero.Assign("e0", target("n")), api.ErrArg)
	assigned(t, zero, "e0", "")
}
