package wire

import (
	"ostler/api"
	"ostler/key"
	"ostler/octet"
)

// decode takes what encode lays. Each row of bytes is taken in one way at most,
// and each value laid in one way: what is taken wholly, and may be, is Encoded
// as just these bytes.
func decode[T any](kind int, b []byte, is func(T) bool, take func(*octet.Reader) T) (T, api.Errno) {
	r := octet.NewReader(b)
	if r.Num() != kind {
		r.Bad()
	}
	v := take(r)
	if !r.Whole() || !is(v) {
		var none T
		return none, api.ErrForm
	}
	return v, api.OK
}

// taken is a list of at most so many: of more none is taken.
func taken[T any](r *octet.Reader, most int, take func(*octet.Reader) T) []T {
	n := r.Num()
	if n > most {
		r.Bad()
		return nil
	}
	var l []T
	for range n {
		l = append(l, take(r))
	}
	return l
}

func takeText(r *octet.Reader) string { return string(r.Bytes()) }

func takeHash(r *octet.Reader) api.Hash {
	var h api.Hash
	copy(h[:], r.Raw(len(h)))
	return h
}

func takeFlag(r *octet.Reader) bool {
	n := r.Num()
	if n > 1 {
		r.Bad()
	}
	return n == 1
}

func takeKeys(r *octet.Reader) api.Keys {
	return api.Keys{Keys: taken(r, api.MaxKeys, takeHash), Need: r.Num()}
}

func takeRoot(r *octet.Reader) api.Root {
	var v api.Root
	r.Nums(&v.Version, &v.Expires)
	for i := range v.Roles {
		v.Roles[i] = takeKeys(r)
	}
	return v
}

func takeTime(r *octet.Reader) api.Time {
	var v api.Time
	r.Nums(&v.Version, &v.Expires, &v.Snap)
	v.Sum = takeHash(r)
	return v
}

func takeSnap(r *octet.Reader) api.Snap {
	var v api.Snap
	r.Nums(&v.Version, &v.Expires)
	v.Pins = taken(r, api.MaxList, takePin)
	return v
}

func takePin(r *octet.Reader) api.Pin { return api.Pin{Name: takeText(r), Version: r.Num()} }

func takeTargets(r *octet.Reader) api.Targets {
	v := api.Targets{Name: takeText(r)}
	r.Nums(&v.Version, &v.Expires)
	v.L = taken(r, api.MaxList, takeTarget)
	v.D = taken(r, api.MaxList, takeDele)
	return v
}

func takeTarget(r *octet.Reader) api.Target {
	return api.Target{
		Name: takeText(r), Size: r.Num(), Sum: takeHash(r),
		Hardware: takeText(r), Counter: r.Num(), Ecu: takeText(r),
	}
}

func takeDele(r *octet.Reader) api.Dele {
	return api.Dele{Name: takeText(r), Keys: takeKeys(r), Prefix: takeText(r), Last: takeFlag(r)}
}

func takeReport(r *octet.Reader) api.Report {
	v := api.Report{Ecu: takeText(r), Name: takeText(r), Sum: takeHash(r)}
	r.Nums(&v.Counter, &v.Nonce)
	return v
}

func takeEnvelope(r *octet.Reader) api.Envelope {
	return api.Envelope{Body: r.Bytes(), Marks: taken(r, api.MaxKeys, takeMark)}
}

func takeMark(r *octet.Reader) api.Mark {
	m := api.Mark{Key: takeHash(r)}
	s, err := key.Decode(r.Bytes())
	if err != api.OK {
		r.Bad()
	}
	m.Sig = s
	return m
}
