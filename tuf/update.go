package tuf

import (
	"ostler/api"
	"ostler/chain"
	"ostler/digest"
	"ostler/quorum"
	"ostler/wire"
)

// top is the name of the Targets that the root's own keys sign.
const top = "top"

// update is what was trusted, and what is to be: each step checks one part of a
// bundle by those ahead of it, and adds it.
type update struct {
	old, new api.Trusted
	now      int
}

func (u *update) expired(expires int) bool { return expires <= u.now }

func (u *update) root(b api.Bundle) api.Errno {
	last := u.old.Root
	for _, e := range b.Roots {
		if passedOver(last, e) {
			continue
		}
		next, err := chain.Next(last, e)
		if err != api.OK {
			return err
		}
		last = next
	}
	if !chain.Fresh(last, u.now) {
		return api.ErrExpired
	}
	// Follow of none is a copy: the elder root's lists are not handed on.
	u.new.Root, _, _ = chain.Follow(last)
	return api.OK
}

// passedOver tells whether a root is one that was trusted long ago: a bundle
// has all of them, whatever its reader knows by now.
func passedOver(last api.Root, e api.Envelope) bool {
	r, err := wire.DecodeRoot(e.Body)
	return err == api.OK && r.Version <= last.Version
}

func (u *update) time(b api.Bundle) api.Errno {
	if !quorum.Meets(b.Time, u.new.Root.Roles[api.RoleTime]) {
		return api.ErrSigned
	}
	t, err := wire.DecodeTime(b.Time.Body)
	if err != api.OK {
		return api.ErrForm
	}
	if u.old.Set && (t.Version < u.old.Time.Version || t.Snap < u.old.Time.Snap) {
		return api.ErrOld
	}
	if u.expired(t.Expires) {
		return api.ErrExpired
	}
	u.new.Time = t
	return api.OK
}

func (u *update) snap(b api.Bundle) api.Errno {
	if digest.Sum(b.Snap.Body) != u.new.Time.Sum {
		return api.ErrSum
	}
	if !quorum.Meets(b.Snap, u.new.Root.Roles[api.RoleSnap]) {
		return api.ErrSigned
	}
	s, err := wire.DecodeSnap(b.Snap.Body)
	if err != api.OK {
		return api.ErrForm
	}
	if s.Version != u.new.Time.Snap {
		return api.ErrVersion
	}
	if u.old.Set && fall(u.old.Snap.Pins, s.Pins) {
		return api.ErrOld
	}
	if u.expired(s.Expires) {
		return api.ErrExpired
	}
	u.new.Snap = s
	return api.OK
}

// fall tells whether a pin is gone, or is lower than it was.
func fall(was, is []api.Pin) bool {
	for _, p := range was {
		if v, ok := pinned(is, p.Name); !ok || v < p.Version {
			return true
		}
	}
	return false
}

func pinned(l []api.Pin, name string) (int, bool) {
	for _, p := range l {
		if p.Name == name {
			return p.Version, true
		}
	}
	return 0, false
}

func (u *update) targets(b api.Bundle) api.Errno {
	if len(b.Targets) == 0 {
		return api.ErrNone
	}
	if len(b.Targets) > api.MaxList {
		return api.ErrForm
	}
	for _, e := range b.Targets {
		t, err := u.further(e)
		if err != api.OK {
			return err
		}
		u.new.Targets = append(u.new.Targets, t)
	}
	u.new.Set = true
	return api.OK
}

// further is the next Targets behind those that were taken.
func (u *update) further(e api.Envelope) (api.Targets, api.Errno) {
	t, err := wire.DecodeTargets(e.Body)
	if err != api.OK || !u.nameFits(t.Name) {
		return api.Targets{}, api.ErrForm
	}
	keys, ok := u.keysOf(t.Name)
	if !ok {
		return api.Targets{}, api.ErrNone
	}
	if !quorum.Meets(e, keys) {
		return api.Targets{}, api.ErrSigned
	}
	version, ok := pinned(u.new.Snap.Pins, t.Name)
	if !ok {
		return api.Targets{}, api.ErrNone
	}
	if t.Version != version {
		return api.Targets{}, api.ErrVersion
	}
	if u.expired(t.Expires) {
		return api.Targets{}, api.ErrExpired
	}
	return t, api.OK
}

// nameFits: the first one is the top, and none is there twice.
func (u *update) nameFits(name string) bool {
	if len(u.new.Targets) == 0 {
		return name == top
	}
	for _, t := range u.new.Targets {
		if t.Name == name {
			return false
		}
	}
	return true
}

// keysOf is who signs the next Targets: the root says it of the first one, the
// first delegation ahead of all others.
func (u *update) keysOf(name string) (api.Keys, bool) {
	if len(u.new.Targets) == 0 {
		return u.new.Root.Roles[api.RoleTargets], true
	}
	for _, t := range u.new.Targets {
		for _, d := range t.D {
			if d.Name == name {
				return d.Keys, true
			}
		}
	}
	return api.Keys{}, false
}
