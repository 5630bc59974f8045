package find_test

import (
	"reflect"
	"strconv"
	"strings"
	"testing"

	"ostler/api"
	"ostler/find"
)

// of is a Targets in short: its name, its targets, its delegations: `name`,
// `name:prefix`, with `!` behind it for a Last one.
func of(name, own, deles string) api.Targets {
	t := api.Targets{Name: name}
	for i, s := range strings.Fields(own) {
		t.L = append(t.L, api.Target{Name: s, Hardware: name, Counter: i})
	}
	for _, s := range strings.Fields(deles) {
		s, last := strings.CutSuffix(s, "!")
		n, prefix, _ := strings.Cut(s, ":")
		t.D = append(t.D, api.Dele{Name: n, Prefix: prefix, Last: last})
	}
	return t
}

type list = []api.Targets

// P10.1, P10.3: who tells it; nobody, if that is empty.
func TestFind(t *testing.T) {
	for i, c := range []struct {
		l    list
		name string
		want string
	}{
		{nil, "x", ""},
		{list{of("top", "", "")}, "x", ""},
		{list{of("top", "x", "")}, "x", "top"},
		{list{of("top", "a b x", "")}, "x", "top"},
		{list{of("any", "x", "")}, "x", "any"},
		{list{of("", "x", "")}, "x", ""},
		{list{of("top", "a", ""), of("b", "x", "")}, "x", ""},      // not delegated
		{list{of("top", "a", "b"), of("b", "x", "")}, "x", "b"},    // any name
		{list{of("top", "x", "b"), of("b", "x", "")}, "x", "top"},  // its own ahead
		{list{of("top", "x", "b!"), of("b", "x", "")}, "x", "top"}, // its own ahead of a Last one
		{list{of("top", "", "b c"), of("b", "x", ""), of("c", "x", "")}, "x", "b"},
		{list{of("top", "", "c b"), of("b", "x", ""), of("c", "x", "")}, "x", "c"},
		{list{of("top", "", "b c"), of("b", "", ""), of("c", "x", "")}, "x", "c"},
		{list{of("top", "", "b"), of("b", "", ""), of("b", "x", "")}, "x", ""}, // the first that bears it
		{list{of("top", "", "b"), of("b", "x", ""), of("b", "", "")}, "x", "b"},
		// Prefixes.
		{list{of("top", "", "b:a-"), of("b", "a-x", "")}, "a-x", "b"},
		{list{of("top", "", "b:a-x"), of("b", "a-x", "")}, "a-x", "b"},
		{list{of("top", "", "b:a-xy"), of("b", "a-x", "")}, "a-x", ""},
		{list{of("top", "", "b:-x"), of("b", "a-x", "")}, "a-x", ""},
		{list{of("top", "", "b:z c:a"), of("b", "a-x", ""), of("c", "a-x", "")}, "a-x", "c"},
		{list{of("top", "", "b:z! c:a"), of("b", "a-x", ""), of("c", "a-x", "")}, "a-x", "c"}, // a Last one of other names
		{list{of("top", "", "b:a"), of("b", "", "c:b"), of("c", "a-x", "")}, "a-x", ""},
		// The last one: the chapter's example first.
		{list{of("top", "", "a! b"), of("a", "", ""), of("b", "x", "")}, "x", ""},
		{list{of("top", "", "a! b"), of("a", "x", ""), of("b", "x", "")}, "x", "a"},
		{list{of("top", "", "a! b"), of("b", "x", "")}, "x", ""},                                          // none bears the name
		{list{of("top", "", "top! b"), of("b", "x", "")}, "x", ""},                                        // was asked ahead
		{list{of("top", "", "a a! b"), of("a", "", ""), of("b", "x", "")}, "x", ""},                       // was asked ahead
		{list{of("top", "", "a b"), of("a", "", "c!"), of("b", "x", ""), of("c", "", "")}, "x", ""},       // anywhere
		{list{of("top", "", "a b"), of("a", "", "c:y!"), of("b", "x", ""), of("c", "", "")}, "x", "b"},    // not followed
		{list{of("top", "", "a! b"), of("a", "", "c"), of("b", "x", ""), of("c", "x", "")}, "x", "c"},     // what lies below is asked
		{list{of("top", "", "a! b"), of("a", "", "c:y"), of("b", "x", ""), of("c", "x", "")}, "x", ""},    // asked, tells none
		{list{of("top", "", "a b"), of("a", "", "c d!"), of("b", "x", ""), of("c", "x", "")}, "x", "c"},   // told ahead of it
		{list{of("top", "", "a b!"), of("a", "", ""), of("b", "", "c"), of("c", "x", "")}, "x", "c"},      // the last of the list
		{list{of("top", "", "a"), of("a", "", "b! c"), of("b", "", "c"), of("c", "x", "")}, "x", "c"},     // found below the last one
		{list{of("top", "", "a c"), of("a", "", "b"), of("b", "", "nobody!"), of("c", "x", "")}, "x", ""}, // two deep
		{list{of("top", "", "a"), of("a", "", "top b"), of("b", "x", "")}, "x", "b"},                      // the first is not asked again
		{list{of("top", "", "top a"), of("a", "", "a b"), of("b", "x", "")}, "x", "b"},                    // nor one of itself
		{list{of("top", "", "a b"), of("a", "", "b"), of("b", "", "a c"), of("c", "x", "")}, "x", "c"},    // in a ring
		{list{of("top", "", "a! b"), of("a", "", "top"), of("top", "x", ""), of("b", "x", "")}, "x", ""},  // the first of that name
		{list{of("top", "", "a b"), of("a", "", ""), of("b", "", "a! c"), of("c", "x", "")}, "x", ""},     // asked ahead, elsewhere
		{list{of("top", "", "a"), of("a", "", "b"), of("b", "", "c"), of("c", "x", "")}, "x", "c"},        // at MaxDepth
		{list{of("top", "", "a"), of("a", "", "b"), of("b", "", "c"), of("c", "", "d"), of("d", "x", "")}, "x", ""},
		{list{of("top", "", "a e"), of("a", "", "b"), of("b", "", "c"), of("c", "", "d!"), of("e", "x", "")}, "x", ""}, // too deep, and Last
		{list{of("top", "", "a e"), of("a", "", "b"), of("b", "", "c"), of("c", "", "d"), of("e", "x", "")}, "x", "e"},
		// Too deep is not asked: it may be asked later on.
		{list{of("top", "", "a d"), of("a", "", "b"), of("b", "", "c"), of("c", "", "d"), of("d", "x", "")}, "x", "d"},
		// Who was asked deep is not asked again, though its own would be near enough then.
		{list{of("top", "", "a c"), of("a", "", "b"), of("b", "", "c"), of("c", "", "d"), of("d", "x", "")}, "x", ""},
	} {
		got, who, ok := find.Find(c.l, c.name)
		if c.name == "x" && i == 5 { // one without a name tells it all the same
			if !ok || got.Name != "x" {
				t.Error(i)
			}
			continue
		}
		if who != c.want || ok != (c.want != "") || ok && (got.Name != c.name || got.Hardware != c.want) || !ok && got != (api.Target{}) {
			t.Error(i, c.name, got, who, ok)
		}
	}
}

// P10.1: of several of that name the first; the whole target is told.
func TestFirstOfAName(t *testing.T) {
	a := api.Target{Name: "x", Size: 3, Sum: api.Hash{1}, Hardware: "h", Counter: 7, Ecu: "e0"}
	b := a
	b.Ecu = "e1"
	if got, _, ok := find.Find(list{{Name: "top", L: []api.Target{a, b}}}, "x"); !ok || got != a {
		t.Error(got)
	}
	if got, _, ok := find.Find(list{{Name: "top", L: []api.Target{b, a}}}, "x"); !ok || got != b {
		t.Error(got)
	}
	if _, _, ok := find.Find(list{{Name: "top", L: []api.Target{b, a}}}, ""); ok {
		t.Error("no name")
	}
	if got, who, ok := find.Find(list{of("top", "", "b:"), {Name: "b", L: []api.Target{{Counter: 4}}}}, ""); !ok || who != "b" || got.Counter != 4 {
		t.Error("the empty name", got, who, ok)
	}
}

// P10.2: of the first of all alone.
func TestForEcu(t *testing.T) {
	a, b, c := api.Target{Name: "a"}, api.Target{Name: "b", Ecu: "e0", Counter: 1}, api.Target{Name: "c", Ecu: "e0"}
	d := api.Target{Name: "d", Ecu: "e1"}
	l := list{{Name: "top", L: []api.Target{a, b, c}, D: []api.Dele{{Name: "x"}}}, {Name: "x", L: []api.Target{d}}}
	for ecu, want := range map[string]api.Target{"e0": b, "e1": {}, "": {}, "e": {}, "e00": {}} {
		if got, ok := find.ForEcu(l, ecu); got != want || ok != (want.Name != "") {
			t.Error(ecu, got, ok)
		}
	}
	for _, l := range []list{nil, {}, {{}}} {
		if got, ok := find.ForEcu(l, "e0"); ok || got != (api.Target{}) {
			t.Error(got)
		}
	}
}

// Ways: one that was asked is not asked again: many that name one another are asked once each.
func TestManyThatNameOneAnother(t *testing.T) {
	var l list
	names := ""
	for i := range 400 {
		names += " n" + strconv.Itoa(i)
	}
	for i := range 400 {
		l = append(l, of("n"+strconv.Itoa(i), "", names))
	}
	if _, _, ok := find.Find(l, "x"); ok {
		t.Error("found")
	}
	l[399].L = append(l[399].L, api.Target{Name: "x"})
	if _, who, ok := find.Find(l, "x"); !ok || who != "n399" {
		t.Error(who, ok)
	}
}

// W6: what is handed in is left alone.
func TestHandedInIsLeftAlone(t *testing.T) {
	make := func() list { return list{of("top", "a b", "b c!"), of("b", "x", "c"), of("c", "y", "")} }
	l := make()
	find.Find(l, "y")
	find.Find(l, "z")
	find.ForEcu(l, "e")
	if !reflect.DeepEqual(l, make()) {
		t.Error("changed")
	}
}
