package wire

import (
	"bytes"
	"unicode/utf8"

	"mintvault/api"
)

// kind is what an item of one kind has.
type kind struct {
	valid  func(api.Item) bool            // as far as its own fields tell
	number func(api.Item) uint64          // of the head
	write  func(*writer, api.Item)        // what lies behind the head
	read   func(*reader, uint64) api.Item // likewise, with the head's number
}

func kinds() map[int]kind {
	return map[int]kind{
		api.Uint:   ofNumber(anything[uint64]),
		api.Neg:    ofNumber(anything[uint64]),
		api.Bytes:  ofData(anything[[]byte]),
		api.Text:   ofData(utf8.Valid),
		api.Array:  ofItems(1, (*writer).items, (*reader).items),
		api.Map:    ofItems(2, (*writer).pairs, (*reader).pairs),
		api.Simple: ofNumber(func(n uint64) bool { return n == api.False || n == api.True || n == api.Null }),
	}
}

func anything[T any](T) bool { return true }

func ofNumber(valid func(uint64) bool) kind {
	return kind{
		valid:  func(i api.Item) bool { return len(i.Data) == 0 && len(i.List) == 0 && valid(i.Num) },
		number: func(i api.Item) uint64 { return i.Num },
		write:  func(*writer, api.Item) {},
		read:   func(_ *reader, n uint64) api.Item { return api.Item{Num: n} },
	}
}

func ofData(valid func([]byte) bool) kind {
	return kind{
		valid:  func(i api.Item) bool { return i.Num == 0 && len(i.List) == 0 && valid(i.Data) },
		number: func(i api.Item) uint64 { return uint64(len(i.Data)) },
		write:  func(w *writer, i api.Item) { w.bytes(i.Data) },
		read:   func(r *reader, n uint64) api.Item { return api.Item{Data: bytes.Clone(r.bytes(n))} },
	}
}

// ofItems: the head counts them by so many.
func ofItems(by int, write func(*writer, []api.Item), read func(*reader, uint64) []api.Item) kind {
	return kind{
		valid:  func(i api.Item) bool { return i.Num == 0 && len(i.Data) == 0 && len(i.List)%by == 0 },
		number: func(i api.Item) uint64 { return uint64(len(i.List) / by) },
		write:  func(w *writer, i api.Item) { write(w, i.List) },
		read:   func(r *reader, n uint64) api.Item { return api.Item{List: read(r, n)} },
	}
}
