package wire

import "mintvault/api"

type writer struct {
	walk
	out []byte
}

// written is an item's bytes.
func written(i api.Item) []byte {
	w := writer{walk: walk{kinds: kinds()}}
	w.item(i)
	return w.out
}

func (w *writer) item(i api.Item) {
	k := w.enter(i.Kind)
	must(k.valid(i))
	w.bytes(headOf(i.Kind, k.number(i)))
	k.write(w, i)
	w.leave()
}

func (w *writer) bytes(b []byte) {
	must(len(b) <= api.MaxWire-len(w.out))
	w.out = append(w.out, b...)
}

func (w *writer) items(l []api.Item) {
	for _, i := range l {
		w.item(i)
	}
}

func (w *writer) pairs(l []api.Item) {
	var last []byte
	for n := 0; n < len(l); n += 2 {
		from := len(w.out)
		w.item(l[n])
		last = rise(last, w.out[from:])
		w.item(l[n+1])
	}
}
