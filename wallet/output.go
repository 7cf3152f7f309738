package wallet

import (
	"mintvault/blind"
	"mintvault/curve"
	"mintvault/keys"
	"mintvault/scalar"
)

// output is a token that is asked for: its secret, and what hides it.
type output struct {
	amount    uint64
	secret, r []byte
	point     []byte
}

// outputs are those of a request. They are worked out when they are needed: most of what lies on a disk is done with.
func (w *Wallet) outputs(a *asked) []output {
	l := make([]output, len(a.amounts))
	for i, amount := range a.amounts {
		l[i] = w.output(a.first+uint32(i), amount)
	}
	return l
}

func (w *Wallet) output(number uint32, amount uint64) output {
	secret, _ := keys.Derive(w.seed, "token", []uint32{number})
	first, _ := keys.Scalar(w.seed, "blind", []uint32{number})
	r, point := hidden(first, func(r []byte) []byte {
		b, _ := blind.Blind(secret, r)
		return b
	})
	return output{amount, secret, r, point}
}

// hidden takes one more than r, where nothing would come of it.
func hidden(r []byte, with func(r []byte) []byte) (taken, point []byte) {
	point = with(r)
	if _, some := curve.ReadSome(point); some {
		return r, point
	}
	n, _ := scalar.Read(r)
	taken = n.Plus(scalar.Of(1)).Bytes()
	return taken, with(taken)
}
