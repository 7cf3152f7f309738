package span

import "mintvault/scalar"

// vector is what can be taken so many times and added up: a scalar, or points that are summed up late.
type vector[T any] interface {
	Times(scalar.Scalar) T
	Plus(T) T
}

// combined is the sum of all, each so many times; of two lists of scalars, their product.
func combined[T vector[T]](times []scalar.Scalar, list []T) T {
	var all T
	for i, n := range times {
		all = all.Plus(list[i].Times(n))
	}
	return all
}

// folded lays the second half over the first one, each so many times.
func folded[T vector[T]](list []T, low, high scalar.Scalar) []T {
	half := make([]T, len(list)/2)
	for i := range half {
		half[i] = list[i].Times(low).Plus(list[len(half)+i].Times(high))
	}
	return half
}

func listOf[T any](n int, entry func(int) T) []T {
	list := make([]T, n)
	for i := range list {
		list[i] = entry(i)
	}
	return list
}

// powers are 1, x, x^2 ..
func powers(x scalar.Scalar, n int) []scalar.Scalar {
	next := scalar.Of(1)
	return listOf(n, func(int) scalar.Scalar {
		power := next
		next = next.Times(x)
		return power
	})
}

// numeral is the place in a list, as four bytes.
func numeral(i int) []byte { return []byte{byte(i >> 24), byte(i >> 16), byte(i >> 8), byte(i)} }
