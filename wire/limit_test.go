package wire_test

import (
	"strings"
	"testing"

	"mintvault/api"
	"mintvault/wire"
)

// around puts an item into others, so many times.
func around(i api.Item, n int, in func(api.Item) api.Item) api.Item {
	for range n {
		i = in(i)
	}
	return i
}

func TestDepth(t *testing.T) {
	ways := []func(api.Item) api.Item{
		func(i api.Item) api.Item { return array(i) },
		func(i api.Item) api.Item { return array(number(1), i, array()) },
		func(i api.Item) api.Item { return pairs(i, number(1)) },
		func(i api.Item) api.Item { return pairs(number(1), i) },
	}
	for _, inner := range []api.Item{number(7), array(), pairs(), data("abc"), simple(api.Null)} {
		for _, in := range ways {
			for n := range 16 {
				i := around(inner, n, in)
				prints(t, "not too deep", i, bytesOf(i))
			}
			for _, n := range []int{16, 17, 18, 40} {
				refused(t, "too deep", around(inner, n, in))
			}
		}
	}
	deep := around(number(7), 15, ways[0])
	i := array(number(1), around(number(2), 14, ways[0]), around(number(3), 14, ways[3]), number(4))
	prints(t, "deep twice", i, bytesOf(i))
	refused(t, "too deep at the end", array(number(1), number(2), deep))
	refused(t, "too deep in a value", pairs(number(1), number(2), number(3), deep))
	noItem(t, "far too deep", append([]byte(strings.Repeat("\x81", 65000)), 0), api.ErrForm)
}

func TestCount(t *testing.T) {
	wide := func(n, each int) api.Item {
		i := array()
		for range n {
			i.List = append(i.List, array(repeated(each)...))
		}
		return i
	}
	for _, i := range []api.Item{array(repeated(4095)...), wide(65, 62), wide(1, 4094), array(array(), many(2046), number(0)), array(around(number(0), 10, func(i api.Item) api.Item { return pairs(number(1), i) }), array(repeated(4072)...), array())} {
		if _, n := measure(i); n < 4095 || n > 4096 {
			t.Errorf("the test is wrong: %d", n)
		}
		prints(t, "not too many", i, bytesOf(i))
		for range 2 {
			i = array(append([]api.Item{number(0)}, i.List...)...)
		}
		refused(t, "too many", i)
	}
	prints(t, "pairs", many(2047), bytesOf(many(2047)))
	refused(t, "too many pairs", many(2048))
	m := many(2047)
	m.List[4093] = array(number(0))
	prints(t, "4,096 items with a Map", m, bytesOf(m))
	m.List[4093] = array(number(0), number(0))
	refused(t, "4,097 items with a Map", m)
	refused(t, "far too many", array(repeated(60000)...))
}

func TestBytes(t *testing.T) {
	x := func(n int) string { return strings.Repeat("x", n) }
	for _, make := range []func(n int) api.Item{
		func(n int) api.Item { return data(x(n - 3)) },
		func(n int) api.Item { return text(x(n - 3)) },
		func(n int) api.Item { return array(data(x(n - 4))) },
		func(n int) api.Item { return array(data(x(40000)), text(x(n-40007))) },
		func(n int) api.Item { return pairs(number(1), data(x(n-5))) },
		func(n int) api.Item { return pairs(data(x(n-6)), number(24)) },
		func(n int) api.Item { return array(data(x(n-7)), number(9), number(255)) },
		func(n int) api.Item { return array(data(x(n-13)), number(1<<63)) },
	} {
		for n := 65530; n <= 65536; n++ {
			i := make(n)
			if len(bytesOf(i)) != n {
				t.Errorf("the test is wrong: %d, %d", len(bytesOf(i)), n)
			}
			prints(t, "not too long", i, bytesOf(i))
		}
		for _, n := range []int{65537, 65538, 65545, 70000, 100000} {
			notPrinted(t, "too long", make(n))
			noItem(t, "too long", bytesOf(make(n)), api.ErrLong)
		}
	}
	notPrinted(t, "far too long", data(x(1<<24)))
}

// Where b is too long and no item besides, that it is too long is told.
func TestLongFirst(t *testing.T) {
	for _, n := range []int{65537, 65538, 131072, 1 << 20} {
		for _, fill := range []string{"\x00", "\x1c", "\xff", "\x81", "x"} {
			noItem(t, "too long", []byte(strings.Repeat(fill, n)), api.ErrLong)
		}
	}
	for _, fill := range []string{"\x00", "\x1c", "\xff", "\x81"} {
		noItem(t, "just not too long", []byte(strings.Repeat(fill, 65536)), api.ErrForm)
	}
}

// All calls end (E1): also with lists that hold themselves, or hold one list many times.
func TestEndless(t *testing.T) {
	for _, kind := range []int{api.Array, api.Map} {
		l := repeated(2)
		l[0] = api.Item{Kind: kind, List: l}
		notPrinted(t, "a list in itself", api.Item{Kind: kind, List: l})
		l[0], l[1] = number(0), api.Item{Kind: kind, List: l}
		notPrinted(t, "a list in itself", api.Item{Kind: kind, List: l})
	}
	i := array()
	for range 15 {
		l := repeated(1000)
		for n := range l {
			l[n] = i
		}
		i = array(l...)
	}
	notPrinted(t, "a list in a list, again and again", i)
	same := data(strings.Repeat("x", 1<<20))
	notPrinted(t, "the same bytes, again and again", array(same, same, same))
	one := text("shared")
	b, errno := wire.Print(array(one, one, array(one)))
	if errno != api.OK || string(b) != "\x83\x66shared\x66shared\x81\x66shared" {
		t.Errorf("W1: items that share: %x, %d", b, errno)
	}
}
