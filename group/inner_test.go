package group

import (
	"slices"
	"testing"

	"mintvault/residue"
	"mintvault/sponge"
)

// No text is known of which no number gives a point, so the list of its points is given as an empty one.
func TestFirstOfNoPoints(t *testing.T) {
	if got := first(slices.Values([]point{})); got != base() {
		t.Errorf("G4: the first of no points: %x", got.bytes())
	}
}

func TestFirstOfPoints(t *testing.T) {
	two := base().ratio().twice().point()
	if got := first(slices.Values([]point{two, base()})); got != two {
		t.Errorf("G4: the first of two points: %x", got.bytes())
	}
}

// A text has 256 numbers, of which about every other one gives a point.
func TestAllPointsOfAText(t *testing.T) {
	ends := 0
	for _, text := range []string{"a", "b", "c", "d", "e", "f", "g", "h"} {
		var want []point
		for i := range 256 {
			x, _ := residue.Coordinates().Read(sponge.Tag("point "+text, [][]byte{nil, {byte(i)}}))
			a, ok := above(x)
			if !ok {
				continue
			}
			want = append(want, a)
			if i == 0 || i == 255 {
				ends++
			}
		}
		if got := slices.Collect(pointsOf(text, nil)); !slices.Equal(got, want) || len(got) < 90 || len(got) > 166 {
			t.Errorf("G4: %s: %d points, want %d", text, len(got), len(want))
		}
	}
	if ends < 2 {
		t.Errorf("G4: only %d texts have a point at an end", ends)
	}
}

func TestDigitsMakeTheScalar(t *testing.T) {
	p := residue.Scalars()
	last := p.Modulus()
	last[0]--
	for _, n := range []residue.Number{{}, {1}, {15}, {16}, {17}, {31}, {32}, {1<<64 - 1, 1<<64 - 1, 1<<64 - 1, 1}, {0, 0, 0, 1 << 63}, last, base().x, base().y} {
		all := digits(n)
		var got residue.Number
		quiet := width
		for i := places - 1; i >= 0; i-- {
			got = p.Plus(got, got)
			digit := int(all[i])
			if quiet++; digit == 0 {
				continue
			}
			if digit%2 == 0 || digit < -15 || digit > 15 || quiet <= width-1 {
				t.Errorf("%x: digit %d at %d", n, digit, i)
			}
			quiet = 0
			if digit > 0 {
				got = p.Plus(got, residue.Number{uint64(digit)})
			} else {
				got = p.Minus(got, residue.Number{uint64(-digit)})
			}
		}
		if got != n {
			t.Errorf("the digits of %x make %x", n, got)
		}
	}
}
