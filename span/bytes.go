package span

import (
	"mintvault/api"
	"mintvault/curve"
	"mintvault/scalar"
)

// part is a place in a proof, and how many bytes belong there.
type part struct {
	at   *[]byte
	size int
}

// partsOf are in the order in which they are written, and read.
func partsOf(p *api.Range) []part {
	i := &p.Inner
	all := []part{
		{&p.A, curve.Size}, {&p.S, curve.Size}, {&p.T1, curve.Size}, {&p.T2, curve.Size},
		{&p.Tau, scalar.Size}, {&p.Mu, scalar.Size}, {&p.T, scalar.Size},
	}
	for _, list := range [][][]byte{i.L, i.R} {
		for n := range list {
			all = append(all, part{&list[n], curve.Size})
		}
	}
	return append(all, part{&i.A, scalar.Size}, part{&i.B, scalar.Size})
}
