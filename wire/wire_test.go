package wire_test

import (
	"bytes"
	"math"
	"reflect"
	"slices"
	"strings"
	"testing"

	"ostler/api"
	"ostler/key"
	"ostler/octet"
	"ostler/wire"
)

func hash(b byte) api.Hash { return api.Hash{0: b, 31: b + 1} }

func keys(need int, l ...byte) api.Keys {
	k := api.Keys{Need: need}
	for _, b := range l {
		k.Keys = append(k.Keys, hash(b))
	}
	return k
}

func root() api.Root {
	return api.Root{Version: 3, Expires: 300, Roles: [api.Roles]api.Keys{keys(1, 1), keys(2, 1, 2), keys(1, 3), keys(4, 4, 5, 6, 7)}}
}

func time() api.Time { return api.Time{Version: 1, Expires: 0, Snap: 200, Sum: hash(9)} }

func snap() api.Snap {
	return api.Snap{Version: 7, Expires: 8, Pins: []api.Pin{{Name: "-", Version: 1}, {Name: "a", Version: 300}, {Name: "ab", Version: 2}, {Name: "b", Version: 1}}}
}

func target(name, ecu string) api.Target {
	return api.Target{Name: name, Size: 512, Sum: hash(3), Hardware: "h0", Counter: 129, Ecu: ecu}
}

func targets() api.Targets {
	return api.Targets{
		Name: "top", Version: 2, Expires: 1 << 30,
		L: []api.Target{target("a", ""), target("a", "e0"), target("a", "e1"), target("b", "")},
		D: []api.Dele{{Name: "zed", Keys: keys(1, 8), Prefix: "a-"}, {Name: "c", Keys: keys(2, 8, 9), Last: true}},
	}
}

func report() api.Report {
	return api.Report{Ecu: "e1", Name: "", Sum: hash(4), Counter: 5, Nonce: 1 << 30}
}

func envelope() api.Envelope {
	s := api.Sig{Leaf: 15, Chains: make([]api.Hash, api.Chains), Path: make([]api.Hash, api.Height)}
	s.Chains[35] = hash(7)
	s.Path[3] = hash(6)
	o := api.Sig{Chains: make([]api.Hash, api.Chains), Path: make([]api.Hash, api.Height)}
	return api.Envelope{Body: []byte("body"), Marks: []api.Mark{{Key: hash(1), Sig: s}, {Key: hash(1), Sig: o}}}
}

// bytesOf is rows of numbers, texts and digests as chapter 1 lays them.
func bytesOf(parts ...any) []byte {
	var w octet.Writer
	for _, p := range parts {
		switch x := p.(type) {
		case int:
			w.Nums(x)
		case string:
			w.Bytes([]byte(x))
		case []byte:
			w.Bytes(x)
		case api.Hash:
			w.Raw(x[:]...)
		}
	}
	return w.Out()
}

// kind is how one kind of records is Encoded and Decoded, its values told as any.
type kind struct {
	name   string
	number byte
	encode func(v any) ([]byte, api.Errno)
	decode func(b []byte) (any, api.Errno)
}

func kindOf[T any](name string, number byte, enc func(T) ([]byte, api.Errno), dec func([]byte) (T, api.Errno)) kind {
	return kind{name, number,
		func(v any) ([]byte, api.Errno) { return enc(v.(T)) },
		func(b []byte) (any, api.Errno) { return dec(b) }}
}

var (
	roots     = kindOf("Root", 1, wire.EncodeRoot, wire.DecodeRoot)
	times     = kindOf("Time", 2, wire.EncodeTime, wire.DecodeTime)
	snaps     = kindOf("Snap", 3, wire.EncodeSnap, wire.DecodeSnap)
	tops      = kindOf("Targets", 4, wire.EncodeTargets, wire.DecodeTargets)
	reports   = kindOf("Report", 5, wire.EncodeReport, wire.DecodeReport)
	envelopes = kindOf("Envelope", 6, wire.EncodeEnvelope, wire.DecodeEnvelope)
)

var samples = []struct {
	k kind
	v any
}{{roots, root()}, {times, time()}, {snaps, snap()}, {tops, targets()}, {reports, report()}, {envelopes, envelope()}}

// P6.1: the bytes, field by field.
func TestEncodeLaysFields(t *testing.T) {
	e := envelope()
	s0, _ := key.Encode(e.Marks[0].Sig)
	s1, _ := key.Encode(e.Marks[1].Sig)
	want := [][]byte{
		bytesOf(1, 3, 300, 1, hash(1), 1, 2, hash(1), hash(2), 2, 1, hash(3), 1, 4, hash(4), hash(5), hash(6), hash(7), 4),
		bytesOf(2, 1, 0, 200, hash(9)),
		bytesOf(3, 7, 8, 4, "-", 1, "a", 300, "ab", 2, "b", 1),
		bytesOf(4, "top", 2, 1<<30, 4,
			"a", 512, hash(3), "h0", 129, "", "a", 512, hash(3), "h0", 129, "e0",
			"a", 512, hash(3), "h0", 129, "e1", "b", 512, hash(3), "h0", 129, "",
			2, "zed", 1, hash(8), 1, "a-", 0, "c", 2, hash(8), hash(9), 2, "", 1),
		bytesOf(5, "e1", "", hash(4), 5, 1<<30),
		bytesOf(6, "body", 2, hash(1), s0, hash(1), s1),
	}
	for i, c := range samples {
		b, err := c.k.encode(c.v)
		if err != api.OK || !bytes.Equal(b, want[i]) || b[0] != c.k.number {
			t.Errorf("%s: %v % x", c.k.name, err, b)
		}
	}
}

// P6.2: Decode of Encode is it.
func TestDecodeOfEncode(t *testing.T) {
	for _, c := range samples {
		b, _ := c.k.encode(c.v)
		if got, err := c.k.decode(b); err != api.OK || !reflect.DeepEqual(got, c.v) {
			t.Error(c.k.name, err, got)
		}
	}
}

func mustForm(t *testing.T, k kind, what any, b []byte) {
	t.Helper()
	v, err := k.decode(b)
	if err != api.ErrForm || !reflect.ValueOf(v).IsZero() {
		t.Error(k.name, what, err)
	}
}

// P6.1: bytes of another kind, too few, too many.
func TestDecodeOfOthers(t *testing.T) {
	for i, c := range samples {
		b, _ := c.k.encode(c.v)
		for j, o := range samples {
			if i != j {
				mustForm(t, o.k, c.k.name, b)
			}
		}
		mustForm(t, c.k, "nothing", nil)
		for n := range b[:min(len(b), 200)] {
			mustForm(t, c.k, n, b[:n])
		}
		mustForm(t, c.k, "one less", b[:len(b)-1])
		mustForm(t, c.k, "one more", append(slices.Clone(b), 0))
		mustForm(t, c.k, "a kind with a nought behind", append([]byte{b[0] | 0x80, 0}, b[1:]...))
		mustForm(t, c.k, "kind 0", append([]byte{0}, b[1:]...))
		mustForm(t, c.k, "kind 7", append([]byte{7}, b[1:]...))
	}
}

// P6.1: whatever one byte is turned to, what is Decoded is Encoded as just these bytes.
func TestDecodeIsOfOneRowAlone(t *testing.T) {
	for _, c := range samples {
		b, _ := c.k.encode(c.v)
		for i := range b[:min(len(b), 120)] {
			for x := 1; x < 256; x++ {
				b[i] ^= byte(x)
				v, err := c.k.decode(b)
				if err == api.OK {
					if o, err := c.k.encode(v); err != api.OK || !bytes.Equal(o, b) {
						t.Fatal(c.k.name, i, x)
					}
				} else if err != api.ErrForm || !reflect.ValueOf(v).IsZero() {
					t.Fatal(c.k.name, i, x, err)
				}
				b[i] ^= byte(x)
			}
		}
	}
}

func mayNot(t *testing.T, k kind, what any, v any) {
	t.Helper()
	if b, err := k.encode(v); err != api.ErrArg || len(b) != 0 {
		t.Error(k.name, what, "may be", err)
	}
}

func may(t *testing.T, k kind, what any, v any) {
	t.Helper()
	b, err := k.encode(v)
	if err != api.OK {
		t.Error(k.name, what, "may not be", err)
	}
	if d, err := k.decode(b); err != api.OK || !reflect.DeepEqual(d, v) {
		t.Error(k.name, what, "is another one", err)
	}
}

// with is a value, changed in one place.
func with[T any](v T, change func(*T)) T {
	change(&v)
	return v
}

// numbers tries a field at the edges: least is the least that it may be.
func numbers[T any](t *testing.T, k kind, what string, make func() T, field func(*T) *int, least int) {
	t.Helper()
	at := func(n int) T { return with(make(), func(v *T) { *field(v) = n }) }
	for _, n := range []int{least, least + 1, 127, 128, api.MaxNumber} {
		may(t, k, what, at(n))
	}
	for _, n := range []int{least - 1, -1, math.MinInt, api.MaxNumber + 1, math.MaxInt} {
		mayNot(t, k, what, at(n))
	}
}

// P6.1: numbers, versions.
func TestNumbers(t *testing.T) {
	numbers(t, roots, "Version", root, func(v *api.Root) *int { return &v.Version }, 1)
	numbers(t, roots, "Expires", root, func(v *api.Root) *int { return &v.Expires }, 0)
	numbers(t, times, "Version", time, func(v *api.Time) *int { return &v.Version }, 1)
	numbers(t, times, "Expires", time, func(v *api.Time) *int { return &v.Expires }, 0)
	numbers(t, times, "Snap", time, func(v *api.Time) *int { return &v.Snap }, 1)
	numbers(t, snaps, "Version", snap, func(v *api.Snap) *int { return &v.Version }, 1)
	numbers(t, snaps, "Expires", snap, func(v *api.Snap) *int { return &v.Expires }, 0)
	numbers(t, snaps, "a Pin's Version", snap, func(v *api.Snap) *int { return &v.Pins[3].Version }, 1)
	numbers(t, tops, "Version", targets, func(v *api.Targets) *int { return &v.Version }, 1)
	numbers(t, tops, "Expires", targets, func(v *api.Targets) *int { return &v.Expires }, 0)
	numbers(t, tops, "Counter", targets, func(v *api.Targets) *int { return &v.L[2].Counter }, 0)
	numbers(t, reports, "Counter", report, func(v *api.Report) *int { return &v.Counter }, 0)
	numbers(t, reports, "Nonce", report, func(v *api.Report) *int { return &v.Nonce }, 0)
	size := func(n int) api.Targets { return with(targets(), func(v *api.Targets) { v.L[3].Size = n }) }
	for _, n := range []int{0, 1, api.MaxImage} {
		may(t, tops, "Size", size(n))
	}
	for _, n := range []int{-1, math.MinInt, api.MaxImage + 1, math.MaxInt} {
		mayNot(t, tops, "Size", size(n))
	}
}

var (
	goodNames = []string{"a", "z", "0", "9", "-", "abcdefghij-9", "--"}
	badNames  = []string{"A", "a b", "a_", "ä", "\x00", "`", "{", "/", ":", ",", ".", "abcdefghijklm", strings.Repeat("a", 1000), "a\xff"}
)

// P6.1: Name.
func TestName(t *testing.T) {
	for _, s := range goodNames {
		if !wire.Name(s) {
			t.Errorf("%q", s)
		}
	}
	for _, s := range append(badNames, "") {
		if wire.Name(s) {
			t.Errorf("%q", s)
		}
	}
	for b := range 256 {
		want := strings.Contains("abcdefghijklmnopqrstuvwxyz0123456789-", string([]byte{byte(b)}))
		if wire.Name(string([]byte{byte(b)})) != want || wire.Name("a"+string([]byte{byte(b)})) != want {
			t.Error(b)
		}
	}
}

// P6.1: where a name stands, or a name or nothing.
func TestNamesInRecords(t *testing.T) {
	for what, c := range map[string]struct {
		k     kind
		at    func(s string) any
		empty bool
	}{
		"Pin":      {snaps, func(s string) any { return api.Snap{Version: 1, Pins: []api.Pin{{Name: s, Version: 1}}} }, false},
		"Targets":  {tops, func(s string) any { return with(targets(), func(v *api.Targets) { v.Name = s }) }, false},
		"Target":   {tops, func(s string) any { return api.Targets{Name: "n", Version: 1, L: []api.Target{target(s, "")}} }, false},
		"Hardware": {tops, func(s string) any { return with(targets(), func(v *api.Targets) { v.L[1].Hardware = s }) }, false},
		"Ecu":      {tops, func(s string) any { return with(targets(), func(v *api.Targets) { v.L[3].Ecu = s }) }, true},
		"Dele":     {tops, func(s string) any { return with(targets(), func(v *api.Targets) { v.D[1].Name = s }) }, false},
		"Prefix":   {tops, func(s string) any { return with(targets(), func(v *api.Targets) { v.D[1].Prefix = s }) }, true},
		"of":       {reports, func(s string) any { return with(report(), func(v *api.Report) { v.Ecu = s }) }, false},
		"image":    {reports, func(s string) any { return with(report(), func(v *api.Report) { v.Name = s }) }, true},
	} {
		for _, s := range goodNames {
			may(t, c.k, what+" "+s, c.at(s))
		}
		for _, s := range badNames {
			mayNot(t, c.k, what+" "+s, c.at(s))
		}
		if c.empty {
			may(t, c.k, what+" empty", c.at(""))
		} else {
			mayNot(t, c.k, what+" empty", c.at(""))
		}
	}
}

// P6.1: which Keys may be.
func TestKeys(t *testing.T) {
	good := []api.Keys{keys(1, 1), keys(1, 1, 2), keys(2, 1, 2), keys(4, 1, 2, 3, 4), keys(3, 9, 2, 3, 4)}
	bad := []api.Keys{{}, {Need: 1}, keys(0, 1), keys(-1, 1), keys(2, 1), keys(5, 1, 2, 3, 4), keys(1, 1, 1), keys(1, 1, 2, 3, 1), keys(1, 1, 2, 3, 4, 5), keys(math.MinInt, 1), keys(math.MaxInt, 1)}
	for role := range api.Roles {
		at := func(k api.Keys) api.Root { return with(root(), func(v *api.Root) { v.Roles[role] = k }) }
		for i, k := range good {
			may(t, roots, i, at(k))
		}
		for i, k := range bad {
			mayNot(t, roots, i, at(k))
		}
	}
	at := func(k api.Keys) api.Targets { return with(targets(), func(v *api.Targets) { v.D[1].Keys = k }) }
	for i, k := range good {
		may(t, tops, i, at(k))
	}
	for i, k := range bad {
		mayNot(t, tops, i, at(k))
	}
}

// letters is so many names that rise.
func letters(n int) []string {
	var l []string
	for i := range n {
		l = append(l, "n"+string(rune('a'+i)))
	}
	return l
}

// P6.1: how many there may be, and in which order.
func TestLists(t *testing.T) {
	pins := func(l ...string) (v api.Snap) {
		v.Version = 1
		for _, s := range l {
			v.Pins = append(v.Pins, api.Pin{Name: s, Version: 1})
		}
		return v
	}
	of := func(l ...string) (v api.Targets) {
		v.Name, v.Version = "n", 1
		for _, s := range l {
			name, ecu, _ := strings.Cut(s, " ")
			v.L = append(v.L, target(name, ecu))
		}
		return v
	}
	deles := func(l ...string) (v api.Targets) {
		v.Name, v.Version = "n", 1
		for _, s := range l {
			v.D = append(v.D, api.Dele{Name: s, Keys: keys(1, 1)})
		}
		return v
	}
	for _, n := range []int{0, 1, 2, 15, 16} {
		may(t, snaps, n, pins(letters(n)...))
		may(t, tops, n, of(letters(n)...))
		may(t, tops, n, deles(letters(n)...))
	}
	for _, n := range []int{17, 18, 20} {
		mayNot(t, snaps, n, pins(letters(n)...))
		mayNot(t, tops, n, of(letters(n)...))
		mayNot(t, tops, n, deles(letters(n)...))
	}
	mayNot(t, snaps, "alike", pins("a", "a"))
	mayNot(t, snaps, "falls", pins("a", "c", "b"))
	mayNot(t, snaps, "a longer one ahead", pins("ab", "a"))
	mayNot(t, tops, "alike", of("a", "a"))
	mayNot(t, tops, "alike, of one ECU", of("a e", "a e"))
	mayNot(t, tops, "ECUs fall", of("a e1", "a e0"))
	mayNot(t, tops, "no ECU behind one", of("a e", "a"))
	mayNot(t, tops, "falls", of("b", "a"))
	mayNot(t, tops, "falls, ECUs rise", of("b a", "a b"))
	may(t, tops, "the ECU is asked last", of("a z", "b a"))
	may(t, tops, "bytes, not letters", of("-", "0", "a", "a-", "a0", "aa"))
	mayNot(t, tops, "alike", deles("a", "b", "a"))
	may(t, tops, "delegations in any order", deles("c", "a", "b", "n"))
}

// P6.1: counts that tell more than there may be, in bytes.
func TestDecodeOfLists(t *testing.T) {
	long := bytesOf(3, 1, 1, 17)
	for _, s := range letters(17) {
		long = append(long, bytesOf(s, 1)...)
	}
	mustForm(t, snaps, "17 pins", long)
	mustForm(t, snaps, "2^62 pins", bytesOf(3, 1, 1, 1<<62))
	mustForm(t, tops, "2^62 targets", bytesOf(4, "n", 1, 1, 1<<62, 0))
	mustForm(t, envelopes, "2^62 marks", bytesOf(6, "", 1<<62))
	mustForm(t, envelopes, "a body longer than told", bytesOf(6, 1<<62, 0))
	mustForm(t, tops, "Last is 2", bytesOf(4, "n", 1, 1, 0, 1, "d", 1, hash(1), 1, "", 2))
	if v, err := wire.DecodeTargets(bytesOf(4, "n", 1, 1, 0, 1, "d", 1, hash(1), 1, "", 1)); err != api.OK || !v.D[0].Last {
		t.Error("Last is 1", err)
	}
}

// P6.1: Envelopes.
func TestEnvelopes(t *testing.T) {
	body := func(n int) api.Envelope {
		return with(envelope(), func(v *api.Envelope) { v.Body = bytes.Repeat([]byte{7}, n) })
	}
	for _, n := range []int{1, 127, 128, api.MaxBody} {
		may(t, envelopes, n, body(n))
	}
	mayNot(t, envelopes, "a Body too long", body(api.MaxBody+1))
	long := bytesOf(6, make([]byte, api.MaxBody+1), 0)
	mustForm(t, envelopes, "a Body too long", long)
	if b, err := wire.EncodeEnvelope(api.Envelope{}); err != api.OK || !bytes.Equal(b, []byte{6, 0, 0}) {
		t.Error("nothing", b, err)
	}
	m := envelope().Marks[0]
	marks := func(n int) api.Envelope { return api.Envelope{Body: []byte{1}, Marks: slices.Repeat([]api.Mark{m}, n)} }
	for n := 1; n <= 4; n++ {
		may(t, envelopes, n, marks(n))
	}
	mayNot(t, envelopes, "five marks", marks(5))
	sig := func(change func(*api.Sig)) api.Envelope {
		return with(envelope(), func(v *api.Envelope) { change(&v.Marks[1].Sig) })
	}
	mayNot(t, envelopes, "a leaf", sig(func(s *api.Sig) { s.Leaf = 16 }))
	mayNot(t, envelopes, "chains", sig(func(s *api.Sig) { s.Chains = s.Chains[1:] }))
	mayNot(t, envelopes, "a path", sig(func(s *api.Sig) { s.Path = nil }))
	b, _ := key.Encode(m.Sig)
	mustForm(t, envelopes, "a mark that is cut", bytesOf(6, "", 1, hash(1), b[:len(b)-1]))
	mustForm(t, envelopes, "a mark that is longer", bytesOf(6, "", 1, hash(1), append(b, 1)))
}

// P6.2: what is handed in is left alone, what is answered is new.
func TestNothingIsShared(t *testing.T) {
	for i, c := range samples {
		room := make([]byte, 0, 9000)
		b, _ := c.k.encode(c.v)
		b = append(room, b...)
		was := slices.Clone(b[:cap(b)])
		v, _ := c.k.decode(b)
		if !bytes.Equal(b[:cap(b)], was) {
			t.Error(c.k.name, "changed")
		}
		clear(b)
		if !reflect.DeepEqual(v, c.v) {
			t.Error(c.k.name, "kept")
		}
		if o, err := c.k.encode(v); err != api.OK || !bytes.Equal(o, was[:len(o)]) {
			t.Error(i, err)
		}
	}
	room := targets()
	room.L = append(room.L, target("q", ""))[:4]
	room.D[0].Keys.Keys = append(room.D[0].Keys.Keys, hash(77))[:1]
	wire.EncodeTargets(room)
	if room.L[:5][4].Name != "q" || room.D[0].Keys.Keys[:2][1] != hash(77) {
		t.Error("the room behind a list's end is changed")
	}
	b, _ := wire.EncodeRoot(root())
	r, _ := wire.DecodeRoot(b)
	for i := range r.Roles {
		_ = append(r.Roles[i].Keys, hash(50))
	}
	if !reflect.DeepEqual(r, root()) {
		t.Error("lists of one answer share")
	}
}
