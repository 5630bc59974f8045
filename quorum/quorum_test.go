package quorum_test

import (
	"math"
	"slices"
	"testing"

	"ostler/api"
	"ostler/key"
	"ostler/quorum"
)

const body = "what is signed"

// signers is keys a to f, by their number.
type signers [6]*key.Key

func newSigners() *signers {
	var s signers
	for i := range s {
		s[i] = key.New(api.Hash{byte(i)}, 0)
	}
	return &s
}

func (s *signers) publics(l ...int) (out []api.Hash) {
	for _, i := range l {
		out = append(out, s[i].Public())
	}
	return out
}

func (s *signers) keys(need int, l ...int) api.Keys {
	return api.Keys{Keys: s.publics(l...), Need: need}
}

func (s *signers) mark(i int, m string) api.Mark {
	sig, err := s[i].Sign([]byte(m))
	if err != api.OK {
		panic(err)
	}
	return api.Mark{Key: s[i].Public(), Sig: sig}
}

// by is the body, signed by these in order.
func (s *signers) by(l ...int) api.Envelope {
	e := api.Envelope{Body: []byte(body)}
	for _, i := range l {
		e.Marks = append(e.Marks, s.mark(i, body))
	}
	return e
}

// P7.1: which Keys may be.
func TestIs(t *testing.T) {
	s := newSigners()
	for i, k := range []api.Keys{s.keys(1, 0), s.keys(1, 0, 1), s.keys(2, 1, 0), s.keys(3, 0, 1, 2), s.keys(4, 3, 2, 1, 0), s.keys(1, 0, 1, 2, 3)} {
		if !quorum.Is(k) {
			t.Error(i, "may not be")
		}
	}
	for i, k := range []api.Keys{{}, {Need: 1}, s.keys(0, 0), s.keys(-1, 0), s.keys(2, 0), s.keys(5, 0, 1, 2, 3), s.keys(1, 0, 0), s.keys(2, 0, 1, 2, 0),
		s.keys(1, 0, 1, 2, 3, 4), s.keys(5, 0, 1, 2, 3, 4), s.keys(math.MaxInt, 0), s.keys(math.MinInt, 0)} {
		if quorum.Is(k) || quorum.Meets(s.by(0, 1, 2, 3), k) {
			t.Error(i, "may be")
		}
	}
}

// P7.1, P7.2: those of the keys that signed, in their order, each once.
func TestWho(t *testing.T) {
	for i, c := range []struct {
		keys, marks, want []int
	}{
		{[]int{0, 1, 2}, []int{2, 0}, []int{0, 2}},
		{[]int{2, 1, 0}, []int{0, 1, 2}, []int{2, 1, 0}},
		{[]int{0, 1}, []int{0, 0}, []int{0}},
		{[]int{0, 0, 1, 0, 1}, []int{0, 1}, []int{0, 1}},
		{[]int{0, 1}, []int{3, 4}, nil},
		{[]int{0, 1}, nil, nil},
		{nil, []int{0}, nil},
		{[]int{0, 1, 2, 3, 4, 5}, []int{4, 5}, []int{4, 5}},
		{[]int{0}, []int{1, 2, 3, 0}, []int{0}},
		{[]int{0}, []int{1, 2, 3, 4, 0}, nil},
		{[]int{0, 1, 2, 3, 4}, []int{0, 1, 2, 3, 4}, []int{0, 1, 2, 3}},
	} {
		s := newSigners()
		got := quorum.Who(s.by(c.marks...), s.keys(1, c.keys...))
		if !slices.Equal(got, s.publics(c.want...)) {
			t.Error(i, len(got), c)
		}
	}
}

// P7.1: a mark counts if it Verifies the Body: any of those of its key.
func TestMarksThatDoNotVerify(t *testing.T) {
	s := newSigners()
	k := s.keys(1, 0, 1)
	good := s.mark(0, body)
	torn := s.mark(0, body)
	torn.Sig.Chains[5][5] ^= 1
	other := s.mark(0, "what is not signed")
	under := s.mark(1, body)
	under.Key = good.Key
	for i, c := range []struct {
		marks []api.Mark
		want  []api.Hash
	}{
		{[]api.Mark{good}, s.publics(0)},
		{[]api.Mark{torn}, nil},
		{[]api.Mark{other}, nil},
		{[]api.Mark{under}, nil},
		{[]api.Mark{{Key: good.Key}}, nil},
		{[]api.Mark{torn, other, under, good}, s.publics(0)},
		{[]api.Mark{torn, other, under, {}, good}, nil},
	} {
		e := api.Envelope{Body: []byte(body), Marks: c.marks}
		if got := quorum.Who(e, k); !slices.Equal(got, c.want) {
			t.Error(i, got)
		}
		if quorum.Meets(e, k) != (len(c.want) > 0) {
			t.Error(i, "Meets")
		}
		e.Body = []byte("What is signed")
		if len(quorum.Who(e, k)) != 0 {
			t.Error(i, "another body")
		}
	}
}

// P7.1, P7.2: at least Need of them; the chapter's example.
func TestMeets(t *testing.T) {
	for i, c := range []struct {
		need  int
		keys  []int
		marks []int
		want  bool
	}{
		{1, []int{0}, []int{0}, true},
		{1, []int{0}, []int{1}, false},
		{1, []int{0}, nil, false},
		{2, []int{0, 1}, []int{0, 0}, false}, // two of one key
		{2, []int{0, 1}, []int{0, 1}, true},
		{2, []int{0, 1}, []int{0, 2, 3}, false}, // of other keys
		{2, []int{0, 1, 2}, []int{2, 0}, true},
		{2, []int{0, 1, 2}, []int{2, 1, 0}, true}, // more than enough
		{4, []int{0, 1, 2, 3}, []int{3, 2, 1, 0}, true},
		{4, []int{0, 1, 2, 3}, []int{3, 2, 1, 4}, false},
		{2, []int{0, 1}, []int{0, 2, 3, 4, 1}, false}, // the fifth mark
		{0, []int{0}, []int{0}, false},                // these may not be
		{1, []int{0, 0}, []int{0}, false},
		{3, []int{0, 1}, []int{0, 1}, false},
		{1, []int{0, 1, 2, 3, 4}, []int{0}, false},
	} {
		s := newSigners()
		if got := quorum.Meets(s.by(c.marks...), s.keys(c.need, c.keys...)); got != c.want {
			t.Error(i, got, c)
		}
	}
}

// A Body longer than what may be sent is signed as any other.
func TestNothingAndMuch(t *testing.T) {
	s := newSigners()
	for _, n := range []int{0, api.MaxBody + 1} {
		m := string(make([]byte, n))
		e := api.Envelope{Body: []byte(m), Marks: []api.Mark{s.mark(0, m)}}
		if !quorum.Meets(e, s.keys(1, 0)) {
			t.Error(n)
		}
	}
	if quorum.Meets(api.Envelope{}, api.Keys{}) || len(quorum.Who(api.Envelope{}, api.Keys{})) != 0 {
		t.Error("nothing")
	}
}

// Ways: each key is asked once, however often it stands there.
func TestManyAlikeKeys(t *testing.T) {
	s := newSigners()
	e := s.by(1, 1, 1, 1)
	for i := range e.Marks {
		e.Marks[i].Sig.Path[0][0] ^= 1
	}
	k := api.Keys{Keys: slices.Repeat(s.publics(1), 1<<20), Need: 1}
	if len(quorum.Who(e, k)) != 0 || quorum.Meets(e, k) {
		t.Error("Who")
	}
}

// W6: what is handed in is left alone, what is answered is new.
func TestNothingIsShared(t *testing.T) {
	s := newSigners()
	e, k := s.by(0, 1), s.keys(1, 0, 1, 2)
	k.Keys = k.Keys[:2]
	got := quorum.Who(e, k)
	_ = append(got, api.Hash{})
	clear(got)
	if !slices.Equal(k.Keys[:3], s.publics(0, 1, 2)) || len(quorum.Who(e, k)) != 2 {
		t.Error("changed")
	}
}
