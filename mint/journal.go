package mint

import (
	"mintvault/api"
	"mintvault/store"
)

// journal is a store, and what a mint must know of it. The store is not embedded: then anyone could write into it.
type journal struct {
	store   *store.Store
	off     bool                // the store does not tell whether it has power
	records []string            // of what was done, in order; the store may have one twice
	known   map[string]struct{} // the same records
}

func journalOf(s *store.Store) journal { return journal{store: s, known: map[string]struct{}{}} }

// add is how a mint records what it does.
func (j *journal) add(record []byte) api.Errno {
	errno := j.store.Add(record)
	j.off = errno == api.ErrPower
	return errno
}

// lies is how it records what it has on its disk already.
func lies([]byte) api.Errno { return api.OK }

func (j *journal) note(record []byte) {
	s := string(record)
	j.records = append(j.records, s)
	j.known[s] = struct{}{}
}

func (j *journal) has(record []byte) bool {
	_, there := j.known[string(record)]
	return there
}
