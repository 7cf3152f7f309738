package mint

import "mintvault/api"

// deed is what a record tells of: money that has come in, or a request.
type deed interface {
	item() api.Item       // as it is written
	form(m *Mint) []rule  // what must hold, whether it was done before or not
	state(m *Mint) []rule // what must hold, if it was not
	change(m *Mint)       // what changes when it is done
}

type money struct {
	name   string
	amount uint64
}

type request struct {
	api.Request
}

// do does a deed, if it may be done. How it is recorded is handed in: what lies on the disk is not written there again.
func (m *Mint) do(d deed, record func([]byte) api.Errno) api.Errno {
	if m.off {
		return api.ErrPower
	}
	if errno := broken(d.form(m)); errno != api.OK {
		return errno
	}
	b := written(d)
	if m.has(b) {
		return api.OK
	}
	if errno := broken(d.state(m)); errno != api.OK {
		return errno
	}
	if errno := record(b); errno != api.OK {
		return errno
	}
	m.note(b)
	d.change(m)
	return api.OK
}

// redo does all that lies on the disk, and tells whether all of it could be done.
func (m *Mint) redo() bool {
	for i := range m.store.Len() {
		record, _ := m.store.Record(i)
		d := read(record)
		if d == nil || m.do(d, lies) != api.OK {
			return false
		}
	}
	return true
}

func (p money) change(m *Mint) {
	m.orders[p.name] = order{amount: p.amount}
	m.book.Funded += p.amount
}

func (r request) change(m *Mint) {
	if r.Kind == api.Issue {
		amount := m.orders[r.Name].amount
		m.orders[r.Name] = order{amount, true}
		m.book.Used += amount
	}
	for _, t := range r.In {
		m.spent[string(t.Secret)] = struct{}{}
	}
	m.book.Issued += r.issued()
	m.book.Spent += r.taken()
	m.book.Paid += r.Amount
	m.book.Count++
}
