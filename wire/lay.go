package wire

import (
	"ostler/api"
	"ostler/key"
	"ostler/octet"
)

// field lays one part of a record, or several.
type field func(w *octet.Writer)

// encode lays what may be.
func encode[T any](kind int, v T, is func(T) bool, lay func(T) field) ([]byte, api.Errno) {
	if !is(v) {
		return nil, api.ErrArg
	}
	var w octet.Writer
	fields(nums(kind), lay(v))(&w)
	return w.Out(), api.OK
}

// laid is a field that one of the Writer's methods lays.
func laid[T any](lay func(*octet.Writer, ...T), v ...T) field {
	return func(w *octet.Writer) { lay(w, v...) }
}

func nums(v ...int) field { return laid((*octet.Writer).Nums, v...) }

func row(b []byte) field { return laid((*octet.Writer).Bytes, b) }

func text(s string) field { return row([]byte(s)) }

func hash(h api.Hash) field { return laid((*octet.Writer).Raw, h[:]...) }

func flag(b bool) field {
	if b {
		return nums(1)
	}
	return nums(0)
}

// fields lays one behind the other.
func fields(l ...field) field {
	return func(w *octet.Writer) {
		for _, lay := range l {
			lay(w)
		}
	}
}

// each lays all of a list, with nothing ahead.
func each[T any](l []T, lay func(T) field) field {
	return func(w *octet.Writer) {
		for _, v := range l {
			lay(v)(w)
		}
	}
}

// list lays how many there are, and all of them.
func list[T any](l []T, lay func(T) field) field { return fields(nums(len(l)), each(l, lay)) }

func layKeys(k api.Keys) field { return fields(list(k.Keys, hash), nums(k.Need)) }

// layRoot tells no number of roles: it is always the same.
func layRoot(r api.Root) field {
	return fields(nums(r.Version, r.Expires), each(r.Roles[:], layKeys))
}

func layTime(t api.Time) field {
	return fields(nums(t.Version, t.Expires, t.Snap), hash(t.Sum))
}

func laySnap(s api.Snap) field {
	return fields(nums(s.Version, s.Expires), list(s.Pins, layPin))
}

func layPin(p api.Pin) field { return fields(text(p.Name), nums(p.Version)) }

func layTargets(t api.Targets) field {
	return fields(text(t.Name), nums(t.Version, t.Expires), list(t.L, layTarget), list(t.D, layDele))
}

func layTarget(t api.Target) field {
	return fields(text(t.Name), nums(t.Size), hash(t.Sum), text(t.Hardware), nums(t.Counter), text(t.Ecu))
}

func layDele(d api.Dele) field {
	return fields(text(d.Name), layKeys(d.Keys), text(d.Prefix), flag(d.Last))
}

func layReport(r api.Report) field {
	return fields(text(r.Ecu), text(r.Name), hash(r.Sum), nums(r.Counter, r.Nonce))
}

func layEnvelope(e api.Envelope) field { return fields(row(e.Body), list(e.Marks, layMark)) }

func layMark(m api.Mark) field {
	// A Sig that may not be is never laid: it was asked ahead.
	b, _ := key.Encode(m.Sig)
	return fields(hash(m.Key), row(b))
}
