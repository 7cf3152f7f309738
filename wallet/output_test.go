package wallet

import (
	"bytes"
	"slices"
	"testing"

	"mintvault/group"
	"mintvault/num"
)

// No secret is known of which nothing comes; so that is said of it here.
func TestHide(t *testing.T) {
	order, _ := num.Modulus(1)
	last := bytes.Clone(order)
	last[31]--
	one := append(make([]byte, 31), 1)
	long := append(append(make([]byte, 28), 1), 0, 0, 0)
	for _, x := range []struct {
		r, next []byte
	}{{make([]byte, 32), one}, {one, append(make([]byte, 31), 2)}, {last, make([]byte, 32)}, {append(make([]byte, 29), 255, 255, 255), long}} {
		var asked [][]byte
		hide := func(nothing bool) func([]byte) []byte {
			asked = nil
			return func(r []byte) []byte {
				asked = append(asked, bytes.Clone(r))
				if nothing && len(asked) == 1 {
					return make([]byte, 33)
				}
				return group.Base()
			}
		}
		with := hide(false)
		if r, point := hidden(x.r, with); !bytes.Equal(r, x.r) || !bytes.Equal(point, group.Base()) || !slices.EqualFunc(asked, [][]byte{x.r}, bytes.Equal) {
			t.Errorf("V2: hidden with %x: %x, %x, asked for %x", x.r, r, point, asked)
		}
		with = hide(true)
		if r, point := hidden(x.r, with); !bytes.Equal(r, x.next) || !bytes.Equal(point, group.Base()) || !slices.EqualFunc(asked, [][]byte{x.r, x.next}, bytes.Equal) {
			t.Errorf("V2: hidden with %x, of which nothing comes: %x, %x, asked for %x", x.r, r, point, asked)
		}
	}
}
