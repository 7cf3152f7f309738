package world

import "slices"

// list is what is under way, in the order in which it came.
type list[T any] []T

func (l *list[T]) put(x T) { *l = append(*l, x) }

// take takes entry n out of the list, but where it is to stay; false, if there is none.
func (l *list[T]) take(n int, keep bool) (x T, some bool) {
	if len(*l) == 0 {
		return x, false
	}
	place := n % len(*l)
	x = (*l)[place]
	if !keep {
		*l = slices.Delete(*l, place, place+1)
	}
	return x, true
}
