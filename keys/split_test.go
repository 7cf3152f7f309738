package keys_test

import (
	"math"
	"slices"
	"testing"

	"mintvault/api"
	"mintvault/keys"
)

// isSplit holds that an amount is split into so many denominations, the smaller ones first.
func isSplit(t *testing.T, amount uint64, parts int) {
	t.Helper()
	l, errno := keys.Split(amount)
	sum, denominations := uint64(0), amounts()
	for _, part := range l {
		if _, there := slices.BinarySearch(denominations, part); !there {
			t.Errorf("K5: Split of %d: %d is no denomination", amount, part)
		}
		sum += part
	}
	if errno != api.OK || sum != amount || len(l) != parts || !slices.IsSorted(l) {
		t.Errorf("K5: Split of %d: %d, %d, want %d parts", amount, l, errno, parts)
	}
}

func TestSplit(t *testing.T) {
	for amount, want := range map[uint64][]uint64{
		0: {}, 1: {1}, 2: {2}, 3: {1, 2}, 5: {1, 4}, 7: {1, 2, 4}, 11: {1, 2, 8}, 100: {4, 32, 64},
		524287:  {1, 2, 4, 8, 16, 32, 64, 128, 256, 512, 1024, 2048, 4096, 8192, 16384, 32768, 65536, 131072, 262144},
		524288:  {524288},
		524289:  {1, 524288},
		1048576: {524288, 524288},
		1048579: {1, 2, 524288, 524288},
		1572864: {524288, 524288, 524288},
	} {
		got, errno := keys.Split(amount)
		if errno != api.OK || !slices.Equal(got, want) {
			t.Errorf("K5: Split of %d: %d, %d, want %d", amount, got, errno, want)
		}
	}
	for _, amount := range amounts() {
		isSplit(t, amount, 1)
	}
}

// fewest are the least numbers of denominations that make each amount below n: one more than those of some smaller amount.
func fewest(n int) []int {
	least := make([]int, n)
	for amount := 1; amount < n; amount++ {
		least[amount] = math.MaxInt
		for _, part := range amounts() {
			if int(part) <= amount {
				least[amount] = min(least[amount], least[amount-int(part)]+1)
			}
		}
	}
	return least
}

func TestSplitIsAsShortAsMayBe(t *testing.T) {
	for amount, parts := range fewest(3 << 19) {
		isSplit(t, uint64(amount), parts)
		if t.Failed() {
			break
		}
	}
}

// ones are numbers below the largest denomination with so many bits.
func ones(n int) []uint64 {
	low := uint64(1)<<n - 1
	return []uint64{low, low << (19 - n)}
}

func TestSplitOfMany(t *testing.T) {
	for most := range uint64(70) {
		for n := range 20 {
			for _, rest := range ones(n) {
				amount, parts := most<<19+rest, int(most)+n
				if parts <= 64 {
					isSplit(t, amount, parts)
					continue
				}
				got, errno := keys.Split(amount)
				fails(t, "K5: Split into too many", got, errno, api.ErrLong)
			}
		}
	}
}

func TestSplitOfTooMuch(t *testing.T) {
	for _, amount := range []uint64{64<<19 + 1, 65 << 19, 128 << 19, 256 << 19, 1 << 32, 1<<32 + 1, 1 << 40, 1 << 51, 1 << 52, 1 << 62, 1 << 63, 1<<63 + 1, math.MaxInt64, math.MaxUint64 - 1<<19, math.MaxUint64 - 1, math.MaxUint64} {
		got, errno := keys.Split(amount)
		fails(t, "K5: Split of too much", got, errno, api.ErrLong)
	}
}
