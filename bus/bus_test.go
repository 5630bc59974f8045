package bus_test

import (
	"bytes"
	"math"
	"reflect"
	"testing"

	"ostler/api"
	"ostler/bus"
)

func frame(id int, data ...byte) api.Frame { return api.Frame{ID: id, Data: data} }

func same(a, b api.Frame) bool { return a.ID == b.ID && bytes.Equal(a.Data, b.Data) }

func send(t *testing.T, b *bus.Bus, f api.Frame) {
	t.Helper()
	if err := b.Send(f); err != api.OK {
		t.Fatal(f, err)
	}
}

// tells wants these frames, by List, and one by one by Next.
func tells(t *testing.T, b *bus.Bus, want ...api.Frame) {
	t.Helper()
	list := b.List()
	if b.Len() != len(want) || len(list) != len(want) {
		t.Fatal(b.Len(), len(list), len(want))
	}
	for i, w := range want {
		got, ok := b.Next()
		if !ok || !same(got, w) || !same(list[i], w) || b.Len() != len(want)-i-1 {
			t.Fatal(i, got, list[i], w)
		}
	}
	if got, ok := b.Next(); ok || !reflect.DeepEqual(got, api.Frame{}) || b.Len() != 0 || len(b.List()) != 0 {
		t.Error("one more", got)
	}
}

// P14.1: the lowest ID; the chapter's example.
func TestNext(t *testing.T) {
	b := bus.New()
	tells(t, b)
	send(t, b, frame(5))
	send(t, b, frame(3, 1))
	send(t, b, frame(3, 2))
	tells(t, b, frame(3, 1), frame(3, 2), frame(5))
	send(t, b, frame(api.MaxID, 1, 2, 3, 4, 5, 6, 7, 8))
	send(t, b, frame(0))
	tells(t, b, frame(0), frame(api.MaxID, 1, 2, 3, 4, 5, 6, 7, 8))
}

// P14.1: of alike ones the first that came, also when others came and went.
func TestFirstOfAlikeOnes(t *testing.T) {
	b := bus.New()
	model := []api.Frame{}
	at := uint32(7)
	for i := range 3000 {
		at = at*1664525 + 1013904223
		if at>>16%5 < 3 && len(model) < api.MaxQueue {
			f := frame(int(at>>20%4), byte(i), byte(i>>8))
			send(t, b, f)
			model = append(model, f)
			continue
		}
		best := -1
		for j, f := range model {
			if best < 0 || f.ID < model[best].ID {
				best = j
			}
		}
		got, ok := b.Next()
		if ok != (best >= 0) || ok && !same(got, model[best]) {
			t.Fatal(i, got, ok)
		}
		if ok {
			model = append(model[:best], model[best+1:]...)
		}
		if b.Len() != len(model) {
			t.Fatal(i, b.Len())
		}
	}
}

// P14.1: List is in the order of Next, and takes nothing away.
func TestList(t *testing.T) {
	b := bus.New()
	var want []api.Frame
	for i := range api.MaxQueue {
		send(t, b, frame(i*37%8, byte(i)))
	}
	for id := range 8 {
		for i := range api.MaxQueue {
			if i*37%8 == id {
				want = append(want, frame(id, byte(i)))
			}
		}
	}
	for range 2 {
		if got := b.List(); !reflect.DeepEqual(got, want) {
			t.Fatal(got)
		}
	}
	tells(t, b, want...)
}

// P14.1: what may not be sent; MaxQueue.
func TestErrors(t *testing.T) {
	b := bus.New()
	bad := []api.Frame{frame(-1), frame(api.MaxID + 1), frame(math.MinInt), frame(math.MaxInt), frame(1, make([]byte, 9)...), frame(1, make([]byte, 100)...)}
	for _, f := range bad {
		if err := b.Send(f); err != api.ErrArg || b.Len() != 0 {
			t.Error(f, err)
		}
	}
	for i := range api.MaxQueue {
		send(t, b, frame(9, byte(i)))
	}
	for range 2 {
		if err := b.Send(frame(0)); err != api.ErrFull || b.Len() != api.MaxQueue {
			t.Error(err)
		}
	}
	for _, f := range bad {
		if err := b.Send(f); err != api.ErrArg {
			t.Error(f, err)
		}
	}
	b.Next()
	send(t, b, frame(0))
	if err := b.Send(frame(0)); err != api.ErrFull {
		t.Error(err)
	}
	if f, ok := b.Next(); !ok || f.ID != 0 {
		t.Error(f)
	}
}

// P14.2: what is handed in is not kept, what is answered is new.
func TestNothingIsShared(t *testing.T) {
	b := bus.New()
	room := []byte{1, 2, 3}
	send(t, b, frame(1, room[:2]...))
	send(t, b, api.Frame{ID: 2, Data: room[:2]})
	room[0], room[1] = 9, 9
	l := b.List()
	clear(l[0].Data)
	_ = append(l[1].Data, 77)
	clear(l[1].Data)
	l[0].ID = 5
	tells(t, b, frame(1, 1, 2), frame(2, 1, 2))
	if room[2] != 3 {
		t.Error(room)
	}
}

// P14.2, W8: a nil Bus, and one that is as it begins.
func TestNilBus(t *testing.T) {
	var b *bus.Bus
	if err := b.Send(frame(1)); err != api.ErrArg {
		t.Error(err)
	}
	if f, ok := b.Next(); ok || !reflect.DeepEqual(f, api.Frame{}) || b.Len() != 0 || len(b.List()) != 0 {
		t.Error("a nil Bus has something")
	}
	zero := &bus.Bus{}
	send(t, zero, frame(4))
	tells(t, zero, frame(4))
}
