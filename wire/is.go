package wire

import (
	"cmp"
	"slices"

	"ostler/api"
	"ostler/key"
)

// Name tells whether a text is a name.
func Name(s string) bool {
	if len(s) == 0 || len(s) > api.MaxName {
		return false
	}
	for _, b := range []byte(s) {
		if !(b >= 'a' && b <= 'z' || b >= '0' && b <= '9' || b == '-') {
			return false
		}
	}
	return true
}

func nameOrEmpty(s string) bool { return s == "" || Name(s) }

func number(n int) bool { return n >= 0 && n <= api.MaxNumber }

func version(n int) bool { return n >= 1 && n <= api.MaxNumber }

func isKeys(k api.Keys) bool {
	return len(k.Keys) <= api.MaxKeys && unlike(k.Keys) && k.Need >= 1 && k.Need <= len(k.Keys)
}

// unlike is asked of short lists alone.
func unlike[T comparable](l []T) bool {
	for i, v := range l {
		if slices.Contains(l[:i], v) {
			return false
		}
	}
	return true
}

// rise tells whether each is above the one ahead of it.
func rise[T any](l []T, compare func(a, b T) int) bool {
	for i := 1; i < len(l); i++ {
		if compare(l[i-1], l[i]) >= 0 {
			return false
		}
	}
	return true
}

func all[T any](l []T, is func(T) bool) bool {
	return !slices.ContainsFunc(l, func(v T) bool { return !is(v) })
}

func isRoot(r api.Root) bool {
	return version(r.Version) && number(r.Expires) && all(r.Roles[:], isKeys)
}

func isTime(t api.Time) bool {
	return version(t.Version) && number(t.Expires) && version(t.Snap)
}

func isSnap(s api.Snap) bool {
	return version(s.Version) && number(s.Expires) &&
		len(s.Pins) <= api.MaxList && all(s.Pins, isPin) && rise(s.Pins, comparePins)
}

func isPin(p api.Pin) bool { return Name(p.Name) && version(p.Version) }

func comparePins(a, b api.Pin) int { return cmp.Compare(a.Name, b.Name) }

func isTargets(t api.Targets) bool {
	return Name(t.Name) && version(t.Version) && number(t.Expires) &&
		len(t.L) <= api.MaxList && all(t.L, isTarget) && rise(t.L, compareTargets) &&
		len(t.D) <= api.MaxList && all(t.D, isDele) && unlike(names(t.D))
}

func isTarget(t api.Target) bool {
	return Name(t.Name) && t.Size >= 0 && t.Size <= api.MaxImage && Name(t.Hardware) &&
		number(t.Counter) && nameOrEmpty(t.Ecu)
}

func compareTargets(a, b api.Target) int {
	return cmp.Or(cmp.Compare(a.Name, b.Name), cmp.Compare(a.Ecu, b.Ecu))
}

func isDele(d api.Dele) bool { return Name(d.Name) && isKeys(d.Keys) && nameOrEmpty(d.Prefix) }

func names(l []api.Dele) []string {
	var out []string
	for _, d := range l {
		out = append(out, d.Name)
	}
	return out
}

func isReport(r api.Report) bool {
	return Name(r.Ecu) && nameOrEmpty(r.Name) && number(r.Counter) && number(r.Nonce)
}

func isEnvelope(e api.Envelope) bool {
	return len(e.Body) <= api.MaxBody && len(e.Marks) <= api.MaxKeys && all(e.Marks, isMark)
}

func isMark(m api.Mark) bool { return key.Is(m.Sig) }
