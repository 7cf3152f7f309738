package group

import "mintvault/residue"

const (
	width  = 5
	odds   = 1 << (width - 2)
	places = 257 // one more than a scalar has bits: for what its highest digit carries over
)

// term is a point and how often it is taken, as the sum goes through them.
type term struct {
	odd    [odds]ratio // the point once, three times, five times ..
	digits [places]int8
}

func (t *term) fill(n residue.Number, a point) {
	t.digits = digits(n)
	t.odd[0] = a.ratio()
	two := t.odd[0].twice()
	for i := 1; i < odds; i++ {
		t.odd[i] = t.odd[i-1].plus(two)
	}
}

// times is the point, as often as an odd digit says.
func (t *term) times(digit int8) ratio {
	if digit < 0 {
		return t.odd[-digit/2].opposite()
	}
	return t.odd[digit/2]
}

// digits are those of n to the base 2, but from -15 to 15: each is 0 or odd, and among five in a row at most one is not 0. So a term seldom comes in.
func digits(n residue.Number) [places]int8 {
	var all [places]int8
	carry := 0
	for i := 0; i < places; i++ {
		if n.Bits(i, 1) == carry {
			continue
		}
		digit := n.Bits(i, width) + carry
		carry = digit >> (width - 1)
		all[i] = int8(digit - carry<<width)
		i += width - 1
	}
	return all
}

// sum is that of all a_i taken n_i times. All terms go through their digits together, so that they double what they have in common.
func sum(n []residue.Number, a []point) point {
	terms := make([]term, len(n))
	for i := range terms {
		terms[i].fill(n[i], a[i])
	}
	var all ratio
	for place := places - 1; place >= 0; place-- {
		all = all.twice()
		for i := range terms {
			if digit := terms[i].digits[place]; digit != 0 {
				all = all.plus(terms[i].times(digit))
			}
		}
	}
	return all.point()
}
