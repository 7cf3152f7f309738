// Package record: what lies in the journals of mints and wallets, written as items of the codec.
package record

import (
	"bytes"

	"mintvault/api"
	"mintvault/wire"
)

// Array is an item that has others.
func Array(l ...api.Item) api.Item { return api.Item{Kind: api.Array, List: l} }

// Number is an item that is a number.
func Number(n uint64) api.Item { return api.Item{Kind: api.Uint, Num: n} }

// Data is an item that has bytes.
func Data(b []byte) api.Item { return api.Item{Kind: api.Bytes, Data: b} }

// Fields are the first n entries of an item, empty ones where it has none.
func Fields(i api.Item, n int) []api.Item {
	f := make([]api.Item, n)
	copy(f, i.List)
	return f
}

// Written is the record that an item makes.
func Written(i api.Item) []byte {
	b, _ := wire.Print(i)
	return b
}

// Read is what a record tells of; false, if it tells of none. Whatever item lies there is taken for one: only if it is one does it make the same record again.
func Read[T any](b []byte, take func(api.Item) T, item func(T) api.Item) (T, bool) {
	i, errno := wire.Parse(b)
	if errno != api.OK {
		return *new(T), false
	}
	t := take(i)
	return t, bytes.Equal(Written(item(t)), b)
}
