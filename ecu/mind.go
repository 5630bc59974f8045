package ecu

import (
	"ostler/api"
	"ostler/octet"
	"ostler/tuf"
)

// mind is what an ECU knows beside what it runs.
type mind struct {
	image, director api.Trusted
	time            int
	nonce           int
	used            int // leaves of its key
}

func (m mind) encode() ([]byte, api.Errno) {
	var w octet.Writer
	for _, t := range []api.Trusted{m.image, m.director} {
		b, err := tuf.Encode(t)
		if err != api.OK {
			return nil, err
		}
		w.Bytes(b)
	}
	w.Nums(m.time, m.nonce, m.used)
	return w.Out(), api.OK
}

func decode(b []byte) (mind, bool) {
	r := octet.NewReader(b)
	m := mind{image: trusted(r), director: trusted(r)}
	r.Nums(&m.time, &m.nonce, &m.used)
	if !r.Whole() || m.time > api.MaxNumber || m.nonce > api.MaxNumber || m.used > api.Leaves {
		return mind{}, false
	}
	return m, true
}

func trusted(r *octet.Reader) api.Trusted {
	t, err := tuf.Decode(r.Bytes())
	if err != api.OK {
		r.Bad()
	}
	return t
}
