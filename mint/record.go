package mint

import (
	"mintvault/api"
	"mintvault/record"
)

// moneyKind stands where a request has its Kind.
const moneyKind = 0

// written is the record of a deed.
func written(d deed) []byte { return record.Written(d.item()) }

// read is the deed of which that is the record; nil, if there is none.
func read(b []byte) deed {
	d, ok := record.Read(b, fromItem, deed.item)
	if !ok {
		return nil
	}
	return d
}

func (p money) item() api.Item {
	return record.Array(record.Number(moneyKind), record.Data([]byte(p.name)), record.Number(p.amount), record.Array(), record.Array())
}

func (r request) item() api.Item {
	in, out := record.Array(), record.Array()
	for _, t := range r.In {
		in.List = append(in.List, record.Array(record.Number(t.Amount), record.Data(t.Keys), record.Data(t.Secret), record.Data(t.Sign)))
	}
	for _, h := range r.Out {
		out.List = append(out.List, record.Array(record.Number(h.Amount), record.Data(h.Point)))
	}
	return record.Array(record.Number(uint64(r.Kind)), record.Data([]byte(r.Name)), record.Number(r.Amount), in, out)
}

func fromItem(i api.Item) deed {
	f := record.Fields(i, 5)
	name, amount := string(f[1].Data), f[2].Num
	if f[0].Num == moneyKind {
		return money{name, amount}
	}
	r := api.Request{Kind: int(f[0].Num), Name: name, Amount: amount}
	for _, i := range f[3].List {
		t := record.Fields(i, 4)
		r.In = append(r.In, api.Token{Amount: t[0].Num, Keys: t[1].Data, Secret: t[2].Data, Sign: t[3].Data})
	}
	for _, i := range f[4].List {
		h := record.Fields(i, 2)
		r.Out = append(r.Out, api.Hidden{Amount: h[0].Num, Point: h[1].Data})
	}
	return request{r}
}
