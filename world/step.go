package world

import (
	"slices"

	"ostler/api"
	"ostler/digest"
	"ostler/repo"
)

// Whom a step's M names.
const (
	nobody = iota
	anEcu
	aRepo // 0 the images', 1 the director's
)

// way is how steps of a kind are done.
type way struct {
	whom int
	do   func(w *World, s Step) api.Errno
}

func wayOf(kind int) (way, bool) {
	ways := [...]way{
		StepPublish: {nobody, (*World).publish},
		StepAssign:  {anEcu, (*World).assign},
		StepSign:    {aRepo, (*World).sign},
		StepRotate:  {aRepo, (*World).rotate},
		StepTick:    {nobody, (*World).tick},
		StepTime:    {anEcu, (*World).time},
		StepOffer:   {anEcu, (*World).offer},
		StepForge:   {anEcu, (*World).forge},
		StepKeep:    {nobody, (*World).keep},
		StepReplay:  {anEcu, (*World).replay},
		StepFuse:    {anEcu, (*World).fuse},
		StepBoot:    {anEcu, (*World).boot},
		StepReport:  {anEcu, (*World).report},
		StepAgain:   {nobody, (*World).again},
	}
	if kind < StepPublish || kind >= len(ways) {
		return way{}, false
	}
	return ways[kind], true
}

// Do does a step.
func (w *World) Do(s Step) api.Errno {
	if w == nil {
		return api.ErrArg
	}
	y, ok := wayOf(s.Kind)
	if !ok || !w.names(y.whom, s.M) {
		return api.ErrArg
	}
	return y.do(w, s)
}

func (w *World) names(whom, m int) bool {
	switch whom {
	case anEcu:
		return w.has(m)
	case aRepo:
		return m == 0 || m == 1
	}
	return true
}

func (w *World) publish(s Step) api.Errno {
	if len(s.Data) > api.MaxImage || s.M < 0 {
		return api.ErrArg
	}
	t := api.Target{Name: s.Name, Size: len(s.Data), Sum: digest.Sum(s.Data), Hardware: hardwareOf(s.M), Counter: s.N}
	if err := w.images.Publish(t); err != api.OK {
		return err
	}
	w.blobs[s.Name] = slices.Clone(s.Data)
	return api.OK
}

func (w *World) assign(s Step) api.Errno {
	for _, t := range w.images.Targets() {
		if t.Name == s.Name && t.Ecu == "" {
			return w.director.Assign(w.Name(s.M), t)
		}
	}
	return api.ErrNone
}

func (w *World) repo(m int) *repo.Repo {
	if m == 0 {
		return w.images
	}
	return w.director.Repo()
}

func (w *World) sign(s Step) api.Errno { return w.repo(s.M).Sign(w.now, s.N) }

func (w *World) rotate(s Step) api.Errno { return w.repo(s.M).Rotate() }

func (w *World) tick(s Step) api.Errno {
	if s.N < 0 || s.N > api.MaxNumber-w.now {
		return api.ErrArg
	}
	w.now += s.N
	return api.OK
}

func (w *World) time(s Step) api.Errno {
	e := w.Ecu(s.M)
	nonce, err := e.Nonce()
	if err != api.OK {
		return err
	}
	t, err := w.clock.Attest(nonce, w.now)
	if err != api.OK {
		return err
	}
	return e.SetTime(t)
}

// handed is what is handed out to an ECU.
type handed struct {
	director, images api.Bundle
	data             []byte
}

// out is what is handed out now, in new memory.
func (w *World) out(i int) handed {
	h := handed{director: w.director.Repo().Bundle(), images: w.images.Bundle()}
	if t, ok := w.director.Assigned(w.Name(i)); ok {
		h.data, _ = w.Blob(t.Name)
	}
	return h
}

func (w *World) hand(i int, h handed) api.Errno {
	return w.Ecu(i).Offer(h.director, h.images, h.data)
}

func (w *World) offer(s Step) api.Errno { return w.hand(s.M, w.out(s.M)) }

func (w *World) forge(s Step) api.Errno {
	h := w.out(s.M)
	// The language's rest of a number below 0 is below 0.
	which := (s.N%7 + 7) % 7
	switch {
	case which == 0:
		turn(h.data, s)
	case which <= 3:
		turn(body(h.director, which), s)
	default:
		turn(body(h.images, which-3), s)
	}
	return w.hand(s.M, h)
}

// body is that of the Time, the Snap, the first Targets: 1 to 3.
func body(b api.Bundle, which int) []byte {
	switch {
	case which == 1:
		return b.Time.Body
	case which == 2:
		return b.Snap.Body
	case len(b.Targets) > 0:
		return b.Targets[0].Body
	}
	return nil
}

func turn(b []byte, s Step) {
	if len(b) > 0 {
		b[max(s.At, 0)%len(b)] ^= s.By
	}
}

func (w *World) keep(Step) api.Errno {
	w.kept = nil
	for i := range w.ecus {
		w.kept = append(w.kept, w.out(i))
	}
	return api.OK
}

func (w *World) replay(s Step) api.Errno {
	if s.M >= len(w.kept) {
		return api.ErrNone
	}
	return w.hand(s.M, w.kept[s.M])
}

func (w *World) fuse(s Step) api.Errno {
	w.Ecu(s.M).Flash().Fuse(s.N, s.At)
	return api.OK
}

func (w *World) boot(s Step) api.Errno { return w.Ecu(s.M).Boot() }

func (w *World) report(s Step) api.Errno {
	e, err := w.Ecu(s.M).Report()
	if err != api.OK {
		return err
	}
	w.last, w.reported = e, true
	return w.director.Accept(e)
}

func (w *World) again(Step) api.Errno {
	if !w.reported {
		return api.ErrNone
	}
	return w.director.Accept(w.last)
}
