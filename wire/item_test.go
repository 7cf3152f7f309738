package wire_test

import (
	"bytes"
	"math"
	"strings"
	"testing"

	"mintvault/api"
	"mintvault/wire"
)

// Written out, so that nothing hangs on the tests' own way of writing.
func TestItems(t *testing.T) {
	for _, row := range []struct {
		i    api.Item
		want string
	}{
		{number(0), "00"}, {number(1), "01"}, {number(23), "17"}, {number(24), "1818"}, {number(255), "18ff"}, {number(256), "190100"}, {number(65535), "19ffff"}, {number(65536), "1a00010000"},
		{number(1<<32 - 1), "1affffffff"}, {number(1 << 32), "1b0000000100000000"}, {number(math.MaxUint64), "1bffffffffffffffff"}, {number(0x0102030405060708), "1b0102030405060708"},
		{negative(0), "20"}, {negative(23), "37"}, {negative(24), "3818"}, {negative(499), "3901f3"}, {negative(math.MaxUint64), "3bffffffffffffffff"},
		{data(""), "40"}, {data("\xff\x00"), "42ff00"}, {data(strings.Repeat("z", 24)), "5818" + strings.Repeat("7a", 24)},
		{text(""), "60"}, {text("a"), "6161"}, {text("\x00"), "6100"}, {text("ü"), "62c3bc"}, {text("水"), "63e6b0b4"}, {text("\U00010151"), "64f0908591"}, {text("\U0010ffff"), "64f48fbfbf"}, {text("\ufeff\ufffd"), "66efbbbfefbfbd"},
		{array(), "80"}, {array(number(24), text("a")), "8218186161"}, {array(array(), pairs()), "8280a0"}, {array(number(1), number(1)), "820101"}, {array(number(2), number(1)), "820201"},
		{pairs(), "a0"}, {pairs(number(1), simple(api.True)), "a101f5"}, {pairs(number(1), number(2), number(3), number(4)), "a201020304"}, {pairs(number(1), pairs(data("k"), array(simple(api.Null)))), "a101a1416b81f6"},
		{simple(api.False), "f4"}, {simple(api.True), "f5"}, {simple(api.Null), "f6"},
	} {
		prints(t, row.want, row.i, unhex(row.want))
	}
}

func TestHeads(t *testing.T) {
	for _, n := range edges() {
		prints(t, "Uint", number(n), headOf(api.Uint, n))
		prints(t, "Neg", negative(n), headOf(api.Neg, n))
	}
	for _, n := range []int{0, 1, 22, 23, 24, 25, 254, 255, 256, 257, 4000, 65532, 65533} {
		s := strings.Repeat("x", n)
		prints(t, "Bytes", data(s), append(headOf(api.Bytes, uint64(n)), s...))
		prints(t, "Text", text(s), append(headOf(api.Text, uint64(n)), s...))
	}
	for _, n := range []int{0, 1, 22, 23, 24, 25, 254, 255, 256, 257, 2047} {
		prints(t, "Array", array(repeated(n)...), append(headOf(api.Array, uint64(n)), make([]byte, n)...))
		prints(t, "Map", many(n), bytesOf(many(n)))
	}
}

// many is a Map with so many pairs.
func many(n int) api.Item {
	m := pairs()
	for key := range n {
		m.List = append(m.List, number(uint64(key)), number(0))
	}
	return m
}

func TestLongerHeads(t *testing.T) {
	sizes := []int{1, 2, 4, 8}
	for _, n := range edges() {
		for _, size := range sizes {
			if size <= sizeOf(n) {
				continue
			}
			for kind := range 8 {
				noItem(t, "longer head", headIn(kind, size, n), api.ErrForm)
				noItem(t, "longer head in an Array", append([]byte{0x81}, headIn(kind, size, n)...), api.ErrForm)
			}
		}
	}
	for _, n := range []int{0, 1, 3, 23, 24, 255, 256, 2047} {
		for _, i := range []api.Item{textOf(n), data(strings.Repeat("x", n)), array(repeated(n)...), many(n)} {
			for _, size := range sizes {
				if size > sizeOf(uint64(n)) {
					noItem(t, "longer head of what is there", append(headIn(i.Kind, size, uint64(n)), bodyOf(i)...), api.ErrForm)
				}
			}
		}
	}
}

func TestFirstBytes(t *testing.T) {
	for kind := range 8 {
		for low := byte(28); low <= 31; low++ {
			for size := range 20 {
				noItem(t, "28 to 31", append([]byte{byte(kind<<5) + low}, make([]byte, size)...), api.ErrForm)
			}
			noItem(t, "28 to 31, and an end", []byte{byte(kind<<5) + low, 0, 0, 0xff}, api.ErrForm)
			noItem(t, "28 to 31 in an Array", []byte{0x82, 0, byte(kind<<5) + low}, api.ErrForm)
		}
	}
	for _, n := range edges() {
		for _, behind := range []string{"", "00", "6161", "80", "c000"} {
			noItem(t, "kind 6", append(headOf(6, n), unhex(behind)...), api.ErrForm)
		}
	}
}

func TestKinds(t *testing.T) {
	for _, kind := range []int{-1, 6, 8, 9, 13, 15, 16, 32, 256, 1 << 32, math.MaxInt, math.MinInt} {
		for _, i := range []api.Item{{Kind: kind}, {Kind: kind, Num: 20}, {Kind: kind, Data: []byte("a")}, {Kind: kind, List: repeated(2)}} {
			notPrinted(t, "another kind", i)
			notPrinted(t, "another kind in an Array", array(i))
			notPrinted(t, "another kind as a key", pairs(i, number(0)))
			notPrinted(t, "another kind as a value", pairs(number(0), i))
		}
	}
}

func TestLengths(t *testing.T) {
	for _, kind := range []int{api.Bytes, api.Text, api.Array, api.Map} {
		for _, n := range append(edges(), 2, 3, 4, 4095, 4096, 1<<62, 1<<61, 1<<60, 1<<63+1, 1<<63-1) {
			for _, there := range []uint64{0, 1, 2, 3, 7, 100} {
				if n > there {
					noItem(t, "more than is there", append(headOf(kind, n), make([]byte, there)...), api.ErrForm)
				}
			}
			noItem(t, "more than is there, in an Array", append([]byte{0x82, 0}, headOf(kind, max(n, 1))...), api.ErrForm)
		}
	}
	for _, n := range []uint64{1 << 32, 1 << 63, 1<<63 + 1, math.MaxUint64} {
		noItem(t, "so many pairs that their items are few again", append(headOf(api.Map, n), 0, 0), api.ErrForm)
	}
	for _, i := range samples() {
		b := bytesOf(i)
		for n := range b {
			if _, ok := itemOf(b[:n]); !ok {
				noItem(t, "not all of it", b[:n], api.ErrForm)
			}
		}
		for _, behind := range []byte{0, 1, 0x40, 0x80, 0xf6, 0xff} {
			noItem(t, "something left over", append(bytes.Clone(b), behind), api.ErrForm)
		}
		noItem(t, "twice", append(bytes.Clone(b), b...), api.ErrForm)
	}
}

func samples() []api.Item {
	return []api.Item{
		number(5), number(300), number(math.MaxUint64), negative(7), data("abc"), data(strings.Repeat("d", 30)), text("äöü"), simple(api.Null), array(), pairs(), many(30),
		array(number(1), array(text("a"), data("")), pairs(number(1), number(2))), pairs(text("a"), array(number(1)), text("b"), pairs()), array(repeated(24)...),
	}
}

func TestNothing(t *testing.T) {
	noItem(t, "nil", nil, api.ErrForm)
	noItem(t, "empty", []byte{}, api.ErrForm)
	prints(t, "the zero item", api.Item{}, []byte{0})
	prints(t, "empty for nil", api.Item{Data: []byte{}, List: []api.Item{}}, []byte{0})
	for _, i := range []api.Item{{Kind: api.Bytes}, {Kind: api.Bytes, Data: []byte{}, List: []api.Item{}}} {
		prints(t, "no bytes", i, []byte{0x40})
	}
	for _, i := range []api.Item{{Kind: api.Map}, {Kind: api.Map, Data: []byte{}, List: []api.Item{}}} {
		prints(t, "no pairs", i, []byte{0xa0})
	}
}

func TestText(t *testing.T) {
	for _, s := range []string{"\xff", "\x80", "a\xbf", "\xc3", "\xc3a", "\xc0\x80", "\xc1\xbf", "\xe2\x82", "\xe0\x80\x80", "\xed\xa0\x80", "\xed\xbf\xbf", "\xf0\x80\x80\x80", "\xf4\x90\x80\x80", "\xf5\x80\x80\x80", "\xf8\x88\x80\x80\x80", "ü\xc3", "\xfe\xff"} {
		refused(t, "Text that is not UTF-8", text(s))
		refused(t, "in an Array", array(number(1), text(s)))
		refused(t, "as a key", pairs(text(s), number(1)))
		refused(t, "as a value", pairs(number(1), text(s)))
		prints(t, "as Bytes", data(s), append([]byte{0x40 + byte(len(s))}, s...))
	}
	// Two that are only together UTF-8.
	refused(t, "a sign in two Texts", array(text("\xc3"), text("\xbc")))
}

func TestSimple(t *testing.T) {
	for n := range uint64(600) {
		if n >= 20 && n <= 22 {
			prints(t, "Simple", simple(n), []byte{0xe0 + byte(n)})
		} else {
			refused(t, "Simple", simple(n))
			refused(t, "Simple in an Array", array(simple(n)))
		}
		if n < 256 {
			noItem(t, "Simple in two bytes", []byte{0xf8, byte(n)}, api.ErrForm)
		}
	}
	for _, n := range append(edges(), 1<<32+20, 1<<8+21, 1<<63+22) {
		if n != 22 {
			refused(t, "Simple", simple(n))
		}
	}
	for _, float := range []string{"f90000", "f93c00", "fa47c35000", "fb3ff199999999999a", "ff"} {
		noItem(t, "a number of another format", unhex(float), api.ErrForm)
	}
}

// rising are keys of all kinds and of different lengths.
func rising() []api.Item {
	return []api.Item{
		number(0), number(1), number(23), number(24), number(255), number(256), number(65536), negative(0), negative(23), negative(24), negative(1 << 40),
		data(""), data("\x00"), data("b"), data("aa"), data("b\xff"), text(""), text("b"), text("aa"), text("b"), text("ba"),
		array(), array(number(0)), array(text("a")), array(number(0), number(0)), pairs(), pairs(number(0), number(0)), pairs(number(0), number(1)), simple(api.False), simple(api.True), simple(api.Null),
	}
}

func TestKeys(t *testing.T) {
	keys := rising()
	for _, a := range keys {
		for _, b := range keys {
			m := pairs(a, number(9), b, number(0))
			if bytes.Compare(bytesOf(a), bytesOf(b)) < 0 {
				prints(t, "keys that rise", m, bytesOf(m))
			} else {
				refused(t, "keys that do not rise", m)
				refused(t, "in an Array", array(m))
				refused(t, "as a key", pairs(m, number(0)))
				refused(t, "as a value", pairs(number(0), m))
			}
		}
	}
	for _, l := range [][]uint64{{1, 3, 2}, {1, 2, 1}, {2, 3, 1}, {1, 2, 2}, {1, 1, 2}, {255, 256, 24}, {256, 255, 257}} {
		refused(t, "three keys", pairs(number(l[0]), number(0), number(l[1]), number(0), number(l[2]), number(0)))
	}
	prints(t, "values need not rise", pairs(number(1), number(3), number(2), number(2), number(3), number(2)), unhex("a3010302020302"))
	prints(t, "inner keys are apart", pairs(number(5), pairs(number(9), number(0)), number(6), pairs(number(1), number(0))), unhex("a205a1090006a10100"))
}

func TestOddMaps(t *testing.T) {
	for n := 1; n < 30; n += 2 {
		l := many(n).List[:n]
		notPrinted(t, "an odd number of items", pairs(l...))
		notPrinted(t, "an odd number of items, in an Array", array(pairs(l...)))
		notPrinted(t, "an odd number of items, as a key", pairs(pairs(l...), number(0)))
		b := headOf(api.Map, uint64(n+1)/2)
		for _, i := range l {
			b = append(b, bytesOf(i)...)
		}
		noItem(t, "a key without its value", b, api.ErrForm)
	}
}

// What does not count is neither written nor passed over.
func TestFields(t *testing.T) {
	some, one := []byte{0}, repeated(1)
	for _, i := range []api.Item{
		{Kind: api.Uint, Data: some}, {Kind: api.Uint, List: one}, {Kind: api.Uint, Num: 5, Data: some}, {Kind: api.Neg, Data: some}, {Kind: api.Neg, List: one},
		{Kind: api.Bytes, Num: 1}, {Kind: api.Bytes, List: one}, {Kind: api.Bytes, Data: some, Num: 1}, {Kind: api.Bytes, Data: some, List: one}, {Kind: api.Text, Num: 1}, {Kind: api.Text, List: one}, {Kind: api.Text, Data: []byte("a"), Num: 1},
		{Kind: api.Array, Num: 1}, {Kind: api.Array, Data: some}, {Kind: api.Array, List: one, Num: 1}, {Kind: api.Array, List: one, Data: some}, {Kind: api.Map, Num: 1}, {Kind: api.Map, Data: some}, {Kind: api.Map, List: repeated(2), Num: math.MaxUint64}, {Kind: api.Map, List: repeated(2), Data: some},
		{Kind: api.Simple, Num: api.True, Data: some}, {Kind: api.Simple, Num: api.True, List: one},
	} {
		notPrinted(t, "a field that does not count", i)
		notPrinted(t, "in an Array", array(number(1), i))
		notPrinted(t, "as a key", pairs(i, number(1)))
		notPrinted(t, "as a value", pairs(number(1), i))
	}
}

// Held against all that there is: texts of up to two bytes, and those of three out of bytes at which something changes.
func TestAllShort(t *testing.T) {
	check := func(b ...byte) {
		want, ok := itemOf(b)
		i, errno := wire.Parse(b)
		if (errno == api.OK) != ok || ok && !same(i, want) || !ok && errno != api.ErrForm {
			t.Errorf("W1: Parse(%x): %+v, %d, want %+v, %v", b, i, errno, want, ok)
		}
	}
	for a := range 256 {
		check(byte(a))
		for b := range 256 {
			check(byte(a), byte(b))
		}
	}
	turns := unhex("000117181920373839404142585f606162788081829fa0a1a2b7c0c1e0f3f4f5f6f7f8f9ff")
	for _, a := range turns {
		for _, b := range turns {
			for _, c := range turns {
				check(a, b, c)
			}
		}
	}
}

// Held against the document's words, on items and on bytes that are nearly those of one.
func TestMany(t *testing.T) {
	r := chance("many")
	fine, broken := 0, 0
	for range 4000 {
		i := anyItem(r, 0)
		b := bytesOf(i)
		if !valid(i) {
			notPrinted(t, "not valid", i)
			continue
		}
		prints(t, "any", i, b)
		for range 8 {
			c := bytes.Clone(b)
			switch at := r.IntN(len(c)); r.IntN(4) {
			case 0:
				c[at] ^= 1 << r.IntN(8)
			case 1:
				c[at] = byte(r.IntN(256))
			case 2:
				c = append(c[:at], c[at+1:]...)
			case 3:
				c = append(c[:at], append([]byte{byte(r.IntN(256))}, c[at:]...)...)
			}
			if want, ok := itemOf(c); ok {
				fine++
				prints(t, "nearly", want, c)
			} else {
				broken++
				noItem(t, "nearly", c, api.ErrForm)
			}
		}
	}
	if fine < 1000 || broken < 1000 {
		t.Errorf("the test tells too little: %d, %d", fine, broken)
	}
}
