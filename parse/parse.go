// Package parse reads several things at once: what a proof is made of.
package parse

// All reads all of them, or none.
func All[T any](read func([]byte) (T, bool), given ...[]byte) ([]T, bool) {
	all := make([]T, len(given))
	for i, b := range given {
		one, ok := read(b)
		if !ok {
			return nil, false
		}
		all[i] = one
	}
	return all, true
}
