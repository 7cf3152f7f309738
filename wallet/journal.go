package wallet

import (
	"mintvault/api"
	"mintvault/store"
)

// journal is a store, and whether it has power, which it does not tell. The store is not embedded: then anyone could write into it.
type journal struct {
	store *store.Store
	off   bool
}

// add is how a wallet records what it does.
func (j *journal) add(record []byte) api.Errno {
	errno := j.store.Add(record)
	j.off = errno == api.ErrPower
	return errno
}

// lies is how it records what it has on its disk already.
func lies([]byte) api.Errno { return api.OK }
