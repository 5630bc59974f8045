package seg_test

import (
	"bytes"
	"math"
	"reflect"
	"testing"

	"ostler/api"
	"ostler/seg"
)

func row(n, from int) []byte {
	p := make([]byte, n)
	for i := range p {
		p[i] = byte(i*7 + i/256 + from)
	}
	return p
}

func frame(id int, data ...byte) api.Frame { return api.Frame{ID: id, Data: data} }

func split(t *testing.T, id int, m []byte) []api.Frame {
	t.Helper()
	l, err := seg.Split(id, m)
	if err != api.OK {
		t.Fatal(err)
	}
	return l
}

// P15.1: one frame of at most seven bytes; the frames of more.
func TestSplit(t *testing.T) {
	for n := 1; n <= api.MaxMessage; n++ {
		m := row(n, n)
		var want []api.Frame
		if n <= 7 {
			want = append(want, frame(5, append([]byte{byte(n)}, m...)...))
		} else {
			want = append(want, frame(5, append([]byte{16 + byte(n/256), byte(n % 256)}, m[:6]...)...))
			for at, k := 6, 1; at < n; at, k = at+7, k+1 {
				want = append(want, frame(5, append([]byte{32 + byte(k%16)}, m[at:min(at+7, n)]...)...))
			}
		}
		if got := split(t, 5, m); !reflect.DeepEqual(got, want) {
			t.Fatal(n, got)
		}
	}
	if got := split(t, 0, row(8, 0)); len(got) != 2 { // the chapter's example
		t.Error(got)
	}
	if got := split(t, api.MaxID, row(1, 9)); !reflect.DeepEqual(got, []api.Frame{frame(api.MaxID, 1, 9)}) {
		t.Error(got)
	}
}

// P15.1: ErrArg, then ErrLong.
func TestErrorsOfSplit(t *testing.T) {
	for _, c := range []struct {
		id   int
		m    []byte
		want api.Errno
	}{
		{-1, row(3, 0), api.ErrArg}, {api.MaxID + 1, row(3, 0), api.ErrArg}, {math.MinInt, row(3, 0), api.ErrArg}, {math.MaxInt, row(3, 0), api.ErrArg},
		{3, nil, api.ErrArg}, {3, []byte{}, api.ErrArg}, {-1, row(601, 0), api.ErrArg},
		{3, row(601, 0), api.ErrLong}, {3, row(5000, 0), api.ErrLong},
	} {
		if l, err := seg.Split(c.id, c.m); err != c.want || len(l) != 0 {
			t.Error(c.id, len(c.m), err)
		}
	}
}

// P15.2, P15.3: each frame of Split, in order, tells the message at the last one.
func TestTakeOfSplit(t *testing.T) {
	j := seg.New()
	now := 0
	for n := 1; n <= api.MaxMessage; n++ {
		m := row(n, n)
		l := split(t, 9, m)
		for i, f := range l {
			got, ok := j.Take(f, now)
			now += api.MaxWait
			if last := i == len(l)-1; ok != last || ok && !bytes.Equal(got, m) || !ok && len(got) != 0 || j.Open() != 1-b2i(last) {
				t.Fatal(n, i, ok, j.Open())
			}
		}
	}
	if j.Errors() != 0 || j.Open() != 0 {
		t.Error(j.Errors(), j.Open())
	}
}

func b2i(b bool) int {
	if b {
		return 1
	}
	return 0
}

// P15.3: whatever comes of other IDs between.
func TestOtherIDs(t *testing.T) {
	j := seg.New()
	ids := []int{0, 1, 2, api.MaxID, -7, 1 << 40} // each ID by itself, whatever it is
	ms := map[int][]byte{}
	fs := map[int][]api.Frame{}
	for i, id := range ids {
		ms[id] = row(200+i, i)
		fs[id] = split(t, 1, ms[id])
		for k := range fs[id] {
			fs[id][k].ID = id
		}
	}
	for k := range 40 {
		for _, id := range ids {
			if k >= len(fs[id]) {
				continue
			}
			got, ok := j.Take(fs[id][k], k)
			if ok != (k == len(fs[id])-1) || ok && !bytes.Equal(got, ms[id]) {
				t.Fatal(k, id, ok)
			}
			j.Take(frame(77, 0xff), k)
			j.Take(frame(78), k)
			j.Take(frame(79, 0x21, 1), k)
			j.Take(frame(80, 1, 5), k)
		}
	}
	if j.Open() != 0 {
		t.Error(j.Open())
	}
}

// step is a frame of ID 1, when it comes, and what is behind it.
type step struct {
	now    int
	data   []byte
	told   []byte
	errors int
	open   int
}

var (
	start = []byte{0x10, 20, 1, 2, 3, 4, 5, 6} // a first frame of 20 bytes
	one   = []byte{0x21, 7, 8, 9, 10, 11, 12, 13}
	two   = []byte{0x22, 14, 15, 16, 17, 18, 19, 20}
	all   = []byte{1, 2, 3, 4, 5, 6, 7, 8, 9, 10, 11, 12, 13, 14, 15, 16, 17, 18, 19, 20}
	whole = []byte{2, 50, 51} // a message of two bytes
)

func run(t *testing.T, what string, l ...step) {
	t.Helper()
	j := seg.New()
	for i, s := range l {
		got, ok := j.Take(api.Frame{ID: 1, Data: s.data}, s.now)
		if ok != (s.told != nil) || !bytes.Equal(got, s.told) || j.Errors() != s.errors || j.Open() != s.open {
			t.Error(what, i, got, ok, j.Errors(), j.Open())
		}
	}
}

// P15.2: frames of the first kind.
func TestSingles(t *testing.T) {
	run(t, "singles",
		step{0, whole, whole[1:], 0, 0},
		step{0, []byte{1, 9}, []byte{9}, 0, 0},
		step{0, []byte{7, 1, 2, 3, 4, 5, 6, 7}, []byte{1, 2, 3, 4, 5, 6, 7}, 0, 0},
		step{0, []byte{0}, nil, 1, 0},
		step{0, []byte{0, 1}, nil, 2, 0},
		step{0, []byte{1}, nil, 3, 0},
		step{0, []byte{1, 2, 3}, nil, 4, 0},
		step{0, []byte{7, 1, 2, 3, 4, 5, 6}, nil, 5, 0},
		step{0, []byte{8, 1, 2, 3, 4, 5, 6, 7}, nil, 6, 0},
		step{0, nil, nil, 7, 0},
		step{0, []byte{}, nil, 8, 0},
	)
	// As many as follow are told: nothing else is asked of them.
	run(t, "a frame that no bus sends", step{0, append([]byte{15}, row(15, 0)...), row(15, 0), 0, 0})
	run(t, "a single one drops an open one",
		step{0, start, nil, 0, 1},
		step{0, whole, whole[1:], 1, 0},
		step{0, one, nil, 2, 0})
	run(t, "a bad single one does not",
		step{0, start, nil, 0, 1},
		step{0, []byte{3, 1}, nil, 1, 1},
		step{0, nil, nil, 2, 1},
		step{0, []byte{0}, nil, 3, 1},
		step{0, one, nil, 3, 1},
		step{0, two, all, 3, 0})
}

func first(n int) []byte { return []byte{0x10 + byte(n/256), byte(n % 256), 1, 2, 3, 4, 5, 6} }

// P15.2: first frames.
func TestFirsts(t *testing.T) {
	for n, good := range map[int]bool{8: true, 9: true, 255: true, 256: true, 599: true, 600: true, 0: false, 1: false, 7: false, 601: false, 4095: false} {
		run(t, "how many", step{0, first(n), nil, 1 - b2i(good), b2i(good)})
	}
	for n := range 12 {
		if n == 7 {
			continue
		}
		data := append([]byte{0x10}, row(n, 20)...)
		run(t, "not 8 bytes", step{0, data, nil, 1, 0})
	}
	run(t, "a first one drops an open one",
		step{0, first(30), nil, 0, 1},
		step{0, start, nil, 1, 1},
		step{0, one, nil, 1, 1},
		step{0, two, all, 1, 0})
	run(t, "a bad first one does not",
		step{0, start, nil, 0, 1},
		step{0, first(7), nil, 1, 1},
		step{0, start[:7], nil, 2, 1},
		step{0, append(start[:8:8], 9), nil, 3, 1},
		step{0, one, nil, 3, 1},
		step{0, []byte{0x10}, nil, 4, 1},
		step{0, two, all, 4, 0})
}

// P15.2: further frames.
func TestFurther(t *testing.T) {
	run(t, "none is open", step{0, one, nil, 1, 0}, step{0, two, nil, 2, 0})
	run(t, "whole, and then none is open", step{0, start, nil, 0, 1}, step{0, one, nil, 0, 1}, step{0, two, all, 0, 0}, step{0, two, nil, 1, 0})
	run(t, "one twice", step{0, start, nil, 0, 1}, step{0, one, nil, 0, 1}, step{0, one, nil, 1, 0}, step{0, two, nil, 2, 0})
	run(t, "one left out", step{0, start, nil, 0, 1}, step{0, two, nil, 1, 0})
	run(t, "number 0", step{0, start, nil, 0, 1}, step{0, append([]byte{0x20}, one[1:]...), nil, 1, 0})
	run(t, "one byte less", step{0, start, nil, 0, 1}, step{0, one[:7], nil, 1, 0})
	run(t, "one byte more", step{0, start, nil, 0, 1}, step{0, append(one[:8:8], 5), nil, 1, 0})
	run(t, "no byte", step{0, start, nil, 0, 1}, step{0, one[:1], nil, 1, 0})
	run(t, "the last one shorter", step{0, first(10), nil, 0, 1}, step{0, []byte{0x21, 7, 8, 9}, nil, 1, 0})
	run(t, "the last one longer", step{0, first(10), nil, 0, 1}, step{0, []byte{0x21, 7, 8, 9, 10, 11}, nil, 1, 0})
	run(t, "the last one", step{0, first(10), nil, 0, 1}, step{0, []byte{0x21, 7, 8, 9, 10}, all[:10], 0, 0})
	for k := 3; k < 16; k++ {
		run(t, "other kinds",
			step{0, []byte{byte(k << 4), 1, 2}, nil, 1, 0},
			step{0, start, nil, 1, 1},
			step{0, []byte{byte(k<<4) | 1, 1, 2, 3, 4, 5, 6, 7}, nil, 2, 1},
			step{0, one, nil, 2, 1},
			step{0, two, all, 2, 0})
	}
}

// P15.2: what comes too late, or too early.
func TestWaits(t *testing.T) {
	const far = 1 << 60
	run(t, "just in time", step{5, start, nil, 0, 1}, step{15, one, nil, 0, 1}, step{25, two, all, 0, 0})
	run(t, "too late", step{5, start, nil, 0, 1}, step{16, one, nil, 2, 0})
	run(t, "too late for the last one", step{5, start, nil, 0, 1}, step{15, one, nil, 0, 1}, step{26, two, nil, 2, 0})
	run(t, "too early", step{5, start, nil, 0, 1}, step{4, one, nil, 2, 0})
	run(t, "too early for the last one", step{5, start, nil, 0, 1}, step{9, one, nil, 0, 1}, step{8, two, nil, 2, 0})
	run(t, "far", step{0, start, nil, 0, 1}, step{far, one, nil, 2, 0})
	run(t, "far behind", step{far, start, nil, 0, 1}, step{0, one, nil, 2, 0})
	run(t, "a single one too late", step{0, start, nil, 0, 1}, step{11, whole, whole[1:], 1, 0})
	run(t, "a first one too late", step{0, start, nil, 0, 1}, step{11, start, nil, 1, 1}, step{11, one, nil, 1, 1}, step{11, two, all, 1, 0})
	run(t, "nothing, too late", step{0, start, nil, 0, 1}, step{11, nil, nil, 2, 0})
	run(t, "another kind, too late", step{0, start, nil, 0, 1}, step{11, []byte{0xff}, nil, 2, 0})
	run(t, "what is none does not wait longer", step{0, start, nil, 0, 1}, step{9, nil, nil, 1, 1}, step{9, first(1), nil, 2, 1}, step{11, one, nil, 4, 0})
	run(t, "all of time", step{far, start, nil, 0, 1}, step{far, one, nil, 0, 1}, step{far, two, all, 0, 0})
	run(t, "outside of time", step{math.MinInt, start, nil, 0, 1}, step{math.MaxInt, one, nil, 2, 0})
	run(t, "outside of time, behind", step{math.MaxInt, start, nil, 0, 1}, step{math.MinInt, one, nil, 2, 0})
	j := seg.New()
	j.Take(frame(1, start...), 0)
	j.Take(frame(2, whole...), 500)
	if j.Open() != 1 || j.Errors() != 0 {
		t.Error("another ID's frame drops it", j.Open(), j.Errors())
	}
}

// P15.3, W6: what is handed in is neither changed nor kept, what is answered is new.
func TestNothingIsShared(t *testing.T) {
	room := row(30, 1)
	l := split(t, 1, room[:20])
	if !bytes.Equal(room, row(30, 1)) {
		t.Error("changed")
	}
	clear(room)
	for _, f := range l {
		_ = append(f.Data, 99, 98, 97)
	}
	if !reflect.DeepEqual(l, split(t, 1, row(30, 1)[:20])) {
		t.Error("frames share")
	}
	j := seg.New()
	data := append([]byte{}, start...)
	j.Take(api.Frame{ID: 1, Data: data}, 0)
	clear(data)
	data = append(data[:0], one...)
	j.Take(api.Frame{ID: 1, Data: data}, 0)
	clear(data)
	j.Take(frame(2, start...), 0)
	got, ok := j.Take(frame(1, two...), 0)
	if !ok || !bytes.Equal(got, all) {
		t.Error(got)
	}
	_ = append(got, 1)
	single := []byte{2, 5, 6}
	got, _ = j.Take(frame(1, single...), 0)
	clear(got)
	if !bytes.Equal(single, []byte{2, 5, 6}) {
		t.Error("shared")
	}
}

// P15.3, W8: a nil Join, and one that is as it begins.
func TestNilJoin(t *testing.T) {
	var j *seg.Join
	if got, ok := j.Take(frame(1, whole...), 0); ok || len(got) != 0 || j.Errors() != 0 || j.Open() != 0 {
		t.Error("a nil Join has something")
	}
	zero := &seg.Join{}
	zero.Take(frame(1, start...), 0)
	if zero.Open() != 1 {
		t.Error(zero.Open())
	}
}
