package mint

import (
	"bytes"

	"mintvault/api"
	"mintvault/wire"
)

// moneyKind stands where a request has its Kind.
const moneyKind = 0

// written is the record of a deed.
func written(d deed) []byte {
	b, _ := wire.Print(d.item())
	return b
}

// read is the deed of which that is the record; nil, if there is none.
func read(record []byte) deed {
	i, errno := wire.Parse(record)
	if errno != api.OK {
		return nil
	}
	// Whatever the item is, it is taken for a deed: only if it is one is it written in the same way again.
	d := fromItem(i)
	if !bytes.Equal(written(d), record) {
		return nil
	}
	return d
}

func (p money) item() api.Item {
	return array(number(moneyKind), data([]byte(p.name)), number(p.amount), array(), array())
}

func (r request) item() api.Item {
	in, out := array(), array()
	for _, t := range r.In {
		in.List = append(in.List, array(number(t.Amount), data(t.Keys), data(t.Secret), data(t.Sign)))
	}
	for _, h := range r.Out {
		out.List = append(out.List, array(number(h.Amount), data(h.Point)))
	}
	return array(number(uint64(r.Kind)), data([]byte(r.Name)), number(r.Amount), in, out)
}

func array(l ...api.Item) api.Item { return api.Item{Kind: api.Array, List: l} }

func number(n uint64) api.Item { return api.Item{Kind: api.Uint, Num: n} }

func data(b []byte) api.Item { return api.Item{Kind: api.Bytes, Data: b} }

func fromItem(i api.Item) deed {
	f := fields(i, 5)
	name, amount := string(f[1].Data), f[2].Num
	if f[0].Num == moneyKind {
		return money{name, amount}
	}
	r := api.Request{Kind: int(f[0].Num), Name: name, Amount: amount}
	for _, i := range f[3].List {
		t := fields(i, 4)
		r.In = append(r.In, api.Token{Amount: t[0].Num, Keys: t[1].Data, Secret: t[2].Data, Sign: t[3].Data})
	}
	for _, i := range f[4].List {
		h := fields(i, 2)
		r.Out = append(r.Out, api.Hidden{Amount: h[0].Num, Point: h[1].Data})
	}
	return request{r}
}

// fields are the first n entries of an item, empty ones where it has none.
func fields(i api.Item, n int) []api.Item {
	f := make([]api.Item, n)
	copy(f, i.List)
	return f
}
