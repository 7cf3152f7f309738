package group_test

import (
	"math/big"
	"slices"
	"testing"

	"mintvault/api"
	"mintvault/group"
)

func TestSumOfSoMany(t *testing.T) {
	for _, n := range []int{0, 1, 2, 3, 4, 5, 31, 64, 511, 512} {
		scalars, points, want := entries(n, "sum")
		got, errno := group.Sum(scalars, points)
		is(t, "G3: Sum", got, errno, want)
	}
}

func TestSumOfNoEntries(t *testing.T) {
	for _, n := range [][][]byte{nil, {}} {
		for _, a := range [][][]byte{nil, {}} {
			got, errno := group.Sum(n, a)
			is(t, "G3: Sum of no entries", got, errno, nil)
		}
	}
}

func TestSumOfOneIsTimes(t *testing.T) {
	for _, a := range pairs() {
		for _, n := range append(counts()[:8], scalar("one")) {
			got, errno := group.Sum([][]byte{of(n)}, [][]byte{a.bytes()})
			is(t, "G3: Sum of one", got, errno, a.times(n))
		}
	}
}

// Of two entries with points and scalars that are the same, opposite, or close to each other, sums meet themselves and their opposites on the way.
func TestSumOfTwo(t *testing.T) {
	few := []*big.Int{count(0), count(1), count(2), count(3), count(31), less(order(), count(1)), less(order(), count(2)), scalar("two")}
	var scalars, points [][]byte
	var products []*pair
	for _, a := range pairs()[:7] {
		for _, n := range few {
			scalars, points, products = append(scalars, of(n)), append(points, a.bytes()), append(products, a.times(n))
		}
	}
	for i := range products {
		for j := range products {
			got, errno := group.Sum([][]byte{scalars[i], scalars[j]}, [][]byte{points[i], points[j]})
			is(t, "G3: Sum of two", got, errno, products[i].plus(products[j]))
		}
	}
}

func TestSumWithZeroAndNothing(t *testing.T) {
	scalars, points, _ := entries(6, "zero")
	want := base().times(scalar("zero")).times(number(scalars[0]))
	for i := 1; i < 6; i += 2 {
		scalars[i] = make([]byte, 32)
	}
	for i := 2; i < 6; i += 2 {
		points[i] = make([]byte, 33)
	}
	got, errno := group.Sum(scalars, points)
	is(t, "G3: Sum with scalars 0 and points that are nothing", got, errno, want)
	for i := range scalars {
		scalars[i] = make([]byte, 32)
	}
	got, errno = group.Sum(scalars, points)
	is(t, "G3: Sum with scalars 0", got, errno, nil)
	scalars, _, _ = entries(6, "nothing")
	for i := range points {
		points[i] = make([]byte, 33)
	}
	got, errno = group.Sum(scalars, points)
	is(t, "G3: Sum of nothing", got, errno, nil)
}

func TestSumThatCancels(t *testing.T) {
	scalars, points, _ := entries(5, "cancel")
	for i := range 5 {
		scalars, points = append(scalars, of(less(order(), number(scalars[i])))), append(points, points[i])
	}
	got, errno := group.Sum(scalars, points)
	is(t, "G3: Sum with opposite scalars", got, errno, nil)
	for i := range 5 {
		opposite, _ := group.Minus(points[i])
		scalars[5+i], points[5+i] = scalars[i], opposite
	}
	got, errno = group.Sum(scalars, points)
	is(t, "G3: Sum with opposite points", got, errno, nil)
	scalars, points = append(scalars, of(count(3))), append(points, group.Base())
	got, errno = group.Sum(scalars, points)
	is(t, "G3: Sum with opposite points and one more", got, errno, base().times(count(3)))
}

func TestSumOfTheSame(t *testing.T) {
	a, n := base().times(scalar("a")), scalar("n")
	var scalars, points [][]byte
	for range 512 {
		scalars, points = append(scalars, of(n)), append(points, a.bytes())
	}
	got, errno := group.Sum(scalars, points)
	is(t, "G3: Sum of 512 that are the same", got, errno, a.times(n).times(count(512)))
}

func TestSumHangsOnEveryEntry(t *testing.T) {
	scalars, points, _ := entries(7, "every")
	whole, _ := group.Sum(scalars, points)
	for i := range scalars {
		rest, errno := group.Sum(slices.Delete(slices.Clone(scalars), i, i+1), slices.Delete(slices.Clone(points), i, i+1))
		if errno != api.OK {
			t.Fatalf("G3: Sum: %d", errno)
		}
		one, _ := group.Times(scalars[i], points[i])
		both, _ := group.Plus(one, rest)
		if string(both) != string(whole) {
			t.Errorf("G3: entry %d", i)
		}
	}
}

// Two lengths are told ahead of all else, then a list that is too long.
func TestSumOfTwoLengths(t *testing.T) {
	good, points, _ := entries(3, "lengths")
	for _, l := range []int{0, 1, 2, 4, 512, 513, 1000} {
		got, errno := group.Sum(good, make([][]byte, l))
		fails(t, "G3: Sum of two lengths", got, errno, api.ErrForm)
		got, errno = group.Sum(make([][]byte, l), points)
		fails(t, "G3: Sum of two lengths", got, errno, api.ErrForm)
	}
	for _, l := range [][2]int{{513, 514}, {513, 512}, {512, 513}, {0, 513}, {1000, 0}} {
		got, errno := group.Sum(make([][]byte, l[0]), make([][]byte, l[1]))
		fails(t, "G3: long lists of two lengths", got, errno, api.ErrForm)
	}
}

func TestSumTooLong(t *testing.T) {
	for _, n := range []int{513, 514, 1024, 5000} {
		got, errno := group.Sum(make([][]byte, n), make([][]byte, n))
		fails(t, "G3: Sum of too many", got, errno, api.ErrLong)
	}
	scalars, points, _ := entries(513, "long")
	got, errno := group.Sum(scalars, points)
	fails(t, "G3: Sum of 513", got, errno, api.ErrLong)
	scalars[0], points[0] = nil, nil
	got, errno = group.Sum(scalars, points)
	fails(t, "G3: Sum of 513", got, errno, api.ErrLong)
}

// All scalars come ahead of all points, wherever they stand.
func TestSumOfNone(t *testing.T) {
	scalars, points, _ := entries(3, "none")
	for place := range 3 {
		for _, n := range noScalars() {
			got, errno := group.Sum(with(scalars, place, n), points)
			fails(t, "G3: Sum with no scalar", got, errno, api.ErrScalar)
			for other := range 3 {
				got, errno = group.Sum(with(scalars, place, n), with(points, other, nil))
				fails(t, "G3: Sum with no scalar and no point", got, errno, api.ErrScalar)
			}
		}
		for _, a := range noPoints() {
			got, errno := group.Sum(scalars, with(points, place, a))
			fails(t, "G3: Sum with no point", got, errno, api.ErrPoint)
			got, errno = group.Sum(with(scalars, place, make([]byte, 32)), with(points, place, a))
			fails(t, "G3: Sum with no point, 0 times", got, errno, api.ErrPoint)
		}
	}
	got, errno := group.Sum(make([][]byte, 512), make([][]byte, 512))
	fails(t, "G3: Sum of 512 that are none", got, errno, api.ErrScalar)
}

// with is the list with another entry at one place.
func with(l [][]byte, place int, b []byte) [][]byte {
	l = slices.Clone(l)
	l[place] = b
	return l
}
