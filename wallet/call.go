package wallet

import (
	"mintvault/api"
	"mintvault/record"
)

// call is what a wallet is asked to do. All of it is in its record.
type call struct {
	number uint64
	text   string // or the name
	amount uint64
	list   []api.Signed
}

// do does a call, if it may be done. How it is recorded is handed in: what lies on the disk is not written there again.
func (w *Wallet) do(c call, add func([]byte) api.Errno) (sent []api.Token, e api.Errno) {
	if w.off {
		return nil, api.ErrPower
	}
	change, errno := kinds()[c.number].deed(w, c)
	if errno != api.OK {
		return nil, errno
	}
	if errno := add(record.Written(c.item())); errno != api.OK {
		return nil, errno
	}
	return change(), api.OK
}

// request does a call that opens a request.
func (w *Wallet) request(c call) (api.Request, api.Errno) {
	if _, errno := w.do(c, w.add); errno != api.OK {
		return api.Request{}, errno
	}
	r, _ := w.Asked()
	return r, api.OK
}

// redo does all that lies on the disk, and tells whether all of it could be done.
func (w *Wallet) redo() bool {
	for i := range w.store.Len() {
		b, _ := w.store.Record(i)
		c, ok := read(b)
		if !ok {
			return false
		}
		if _, errno := w.do(c, lies); errno != api.OK {
			return false
		}
	}
	return true
}

// read is the call of which that is the record; false, if there is none.
func read(b []byte) (call, bool) {
	c, ok := record.Read(b, fromItem, call.item)
	k, known := kinds()[c.number]
	return c, ok && known && k.fits(c)
}

func (c call) item() api.Item {
	list := record.Array()
	for _, s := range c.list {
		list.List = append(list.List, record.Array(record.Number(s.Amount), record.Data(s.Point), record.Data(s.Sign), record.Data(s.Proof)))
	}
	return record.Array(record.Number(c.number), record.Data([]byte(c.text)), record.Number(c.amount), list)
}

func fromItem(i api.Item) call {
	f := record.Fields(i, 4)
	c := call{number: f[0].Num, text: string(f[1].Data), amount: f[2].Num}
	for _, i := range f[3].List {
		s := record.Fields(i, 4)
		c.list = append(c.list, api.Signed{Amount: s[0].Num, Point: s[1].Data, Sign: s[2].Data, Proof: s[3].Data})
	}
	return c
}
