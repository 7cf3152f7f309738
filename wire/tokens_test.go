package wire_test

import (
	"bytes"
	"encoding/base64"
	"math"
	"slices"
	"strings"
	"testing"

	"mintvault/api"
	"mintvault/wire"
)

// token makes one with a secret of so many bytes.
func token(amount uint64, secret int) api.Token {
	seed := string(rune(amount)) + string(rune(secret))
	return api.Token{Amount: amount, Keys: some(8, "keys"+seed), Secret: some(secret, "secret"+seed), Sign: some(33, "sign"+seed)}
}

func tokens(n int) []api.Token {
	var l []api.Token
	for i := range n {
		l = append(l, token(uint64(i), i%64+1))
	}
	return l
}

// itemOfTokens is the Array that the document tells of.
func itemOfTokens(l []api.Token) api.Item {
	all := array()
	for _, t := range l {
		all.List = append(all.List, pairs(number(0), number(t.Amount), number(1), data(string(t.Keys)), number(2), data(string(t.Secret)), number(3), data(string(t.Sign))))
	}
	return all
}

func textOfItem(i api.Item) string {
	return "mv1" + base64.RawURLEncoding.EncodeToString(bytesOf(i))
}

func sameToken(a, b api.Token) bool {
	return a.Amount == b.Amount && bytes.Equal(a.Keys, b.Keys) && bytes.Equal(a.Secret, b.Secret) && bytes.Equal(a.Sign, b.Sign)
}

// comesBack holds that tokens have this text, and the text these tokens.
func comesBack(t *testing.T, what string, l []api.Token, want string) {
	t.Helper()
	if s, errno := wire.PutTokens(l); errno != api.OK || s != want {
		t.Errorf("W3: %s: PutTokens of %d: %.80q, %d, want %.80q", what, len(l), s, errno, want)
	}
	if back, errno := wire.Tokens(want); errno != api.OK || !slices.EqualFunc(back, l, sameToken) {
		t.Errorf("W3: %s: Tokens of %.80q: %d, %d, want %d", what, want, len(back), errno, len(l))
	}
}

func notPut(t *testing.T, what string, l []api.Token, want api.Errno) {
	t.Helper()
	if s, errno := wire.PutTokens(l); errno != want || s != "" {
		t.Errorf("W3: %s: PutTokens of %d: %.80q, %d, want %d", what, len(l), s, errno, want)
	}
}

func noTokens(t *testing.T, what, s string) {
	t.Helper()
	if l, errno := wire.Tokens(s); errno != api.ErrForm || len(l) != 0 {
		t.Errorf("W3: %s: Tokens of %.80q: %d, %d", what, s, len(l), errno)
	}
}

// Written out, so that nothing hangs on the tests' own way of writing.
func TestOneToken(t *testing.T) {
	one := api.Token{Amount: 24, Keys: []byte("abcdefgh"), Secret: []byte("s"), Sign: []byte(strings.Repeat("\x02", 33))}
	b := unhex("81a4001818014861626364656667680241730358" + "21" + strings.Repeat("02", 33))
	comesBack(t, "one", []api.Token{one}, "mv1"+base64.RawURLEncoding.EncodeToString(b))
}

func TestTokens(t *testing.T) {
	for _, n := range []int{1, 2, 3, 22, 23, 24, 25, 63, 64} {
		comesBack(t, "so many", tokens(n), textOfItem(itemOfTokens(tokens(n))))
	}
	for _, amount := range edges() {
		l := []api.Token{token(amount, 32)}
		comesBack(t, "an amount", l, textOfItem(itemOfTokens(l)))
	}
	for n := 1; n <= 64; n++ {
		l := []api.Token{token(1, n), token(2, 65-n)}
		comesBack(t, "a secret", l, textOfItem(itemOfTokens(l)))
	}
	same := []api.Token{token(4, 8), token(4, 8), token(4, 8)}
	comesBack(t, "the same token", same, textOfItem(itemOfTokens(same)))
	noughts := []api.Token{{Keys: make([]byte, 8), Secret: make([]byte, 1), Sign: make([]byte, 33)}}
	comesBack(t, "noughts", noughts, textOfItem(itemOfTokens(noughts)))
	var longest []api.Token
	for range 64 {
		longest = append(longest, token(math.MaxUint64, 64))
	}
	comesBack(t, "the longest", longest, textOfItem(itemOfTokens(longest)))
}

// spoiled are tokens with one thing of another length.
func spoiled() []api.Token {
	var l []api.Token
	for _, n := range []int{0, 1, 7, 9, 16, 256 + 8} {
		x := token(1, 32)
		x.Keys = make([]byte, n)
		l = append(l, x)
	}
	for _, n := range []int{0, 65, 66, 128, 70000} {
		x := token(1, 32)
		x.Secret = make([]byte, n)
		l = append(l, x)
	}
	for _, n := range []int{0, 1, 32, 34, 65, 66, 256 + 33} {
		x := token(1, 32)
		x.Sign = make([]byte, n)
		l = append(l, x)
	}
	return append(l, api.Token{}, api.Token{Amount: 1})
}

func TestNoTokens(t *testing.T) {
	notPut(t, "nil", nil, api.ErrForm)
	notPut(t, "empty", []api.Token{}, api.ErrForm)
	for _, x := range spoiled() {
		for _, l := range [][]api.Token{{x}, {x, token(1, 1)}, {token(1, 1), x}, {token(1, 1), x, token(2, 2)}} {
			notPut(t, "another length", l, api.ErrForm)
			if s := textOfItem(itemOfTokens(l)); len(x.Secret) < 1000 {
				noTokens(t, "another length", s)
			}
		}
	}
	notPut(t, "64, one of them with another length", append(tokens(63), api.Token{}), api.ErrForm)
	notPut(t, "too many", tokens(65), api.ErrLong)
	notPut(t, "too many", tokens(1000), api.ErrLong)
	// Too many, and each of another length besides.
	notPut(t, "too many, and of another length", make([]api.Token, 65), api.ErrLong)
	for _, x := range spoiled() {
		notPut(t, "too many, and of another length", append([]api.Token{x}, tokens(64)...), api.ErrLong)
	}
}

// What Tokens refuses is ErrForm, also where there is too much.
func TestNoText(t *testing.T) {
	good, _ := wire.PutTokens(tokens(2))
	for _, s := range []string{"", "m", "mv", "mv1", "mv1A", "mv1AA", good[1:], good[3:], "mv2" + good[3:], "MV1" + good[3:], "Mv1" + good[3:], "mv" + good[3:], "mv1" + good, " " + good, good + " ", good + "\n", good + "=", good + "A", good + "AA", good + "AAAA", good[:len(good)-1], good[:len(good)-4], good + good, good + good[3:]} {
		noTokens(t, "another text", s)
	}
	for n := range good {
		noTokens(t, "not all of it", good[:n])
		noTokens(t, "without a letter", good[:n]+good[n+1:])
		noTokens(t, "another sign", good[:n]+"."+good[n+1:])
	}
	noTokens(t, "none", textOfItem(array()))
	noTokens(t, "65", textOfItem(itemOfTokens(tokens(65))))
	noTokens(t, "300", textOfItem(itemOfTokens(tokens(300))))
	noTokens(t, "more letters than there may be", "mv1"+strings.Repeat("A", 131073))
	noTokens(t, "more letters than there may be", "mv1"+strings.Repeat("A", 1<<20))
	noTokens(t, "as many letters as there may be", "mv1"+strings.Repeat("A", 131072))
	noTokens(t, "more bytes than an item has", "mv1"+wire.Letters(bytesOf(itemOfTokens(tokens(900)))))
	noTokens(t, "far too long without the mark", strings.Repeat("A", 1<<20))
}

// Valid items, but not just those that tokens have.
func TestOtherForms(t *testing.T) {
	good := itemOfTokens(tokens(1)).List[0].List
	for _, i := range []api.Item{
		number(0), number(129), negative(0), data(""), data("abc"), text(""), text("mv1"), simple(api.Null), pairs(), array(array()), array(pairs()), array(number(1)), array(data("abc")),
		pairs(good...), array(array(good...)), array(array(pairs(good...))), pairs(number(0), pairs(good...)), pairs(pairs(good...), pairs(good...)),
		array(pairs(good...), number(0)), array(pairs(good...), pairs()), array(pairs(good...), array()), array(pairs(good[:6]...)), array(pairs(good[2:]...)), array(pairs(append(slices.Clone(good), number(4), number(0))...)),
		array(pairs(append(slices.Clone(good), text("x"), data(""))...)), array(pairs(good...), pairs(append(slices.Clone(good), number(4), number(0))...)),
	} {
		if !valid(i) {
			t.Fatalf("the test is wrong: %+v", i)
		}
		noTokens(t, "another form", textOfItem(i))
	}
	others := []api.Item{number(0), number(4), negative(0), data("abcdefgh"), text("abcdefgh"), data(strings.Repeat("a", 33)), text(strings.Repeat("a", 33)), array(), pairs(), simple(api.True), array(number(1), data("abcdefgh"))}
	for at := range good {
		for _, other := range others {
			l := slices.Clone(good)
			l[at] = other
			i := array(pairs(l...))
			if fits := at == 1 && other.Kind == api.Uint || at == 5 && other.Kind == api.Bytes || at == 3 && len(other.Data) == 8 && other.Kind == api.Bytes || at == 7 && len(other.Data) == 33 && other.Kind == api.Bytes || at == 0 && same(other, number(0)); !fits {
				noTokens(t, "another entry", textOfItem(i))
				noTokens(t, "another entry", textOfItem(array(pairs(good...), pairs(l...))))
			}
		}
	}
}

// The right item, but not in its bytes.
func TestOtherBytes(t *testing.T) {
	good := bytesOf(itemOfTokens(tokens(1)))
	longer := append([]byte{0x98, 1}, good[1:]...)
	endless := append(append([]byte{0x9f}, good[1:]...), 0xff)
	for _, b := range [][]byte{longer, endless, append(bytes.Clone(good), 0), good[:len(good)-1], good[1:], append([]byte{0xc0}, good...)} {
		noTokens(t, "other bytes", "mv1"+base64.RawURLEncoding.EncodeToString(b))
	}
	l := itemOfTokens(tokens(1)).List[0].List
	for a := 0; a < 8; a += 2 {
		for b := 0; b < a; b += 2 {
			swapped := slices.Clone(l)
			swapped[a], swapped[a+1], swapped[b], swapped[b+1] = l[b], l[b+1], l[a], l[a+1]
			noTokens(t, "keys that fall", textOfItem(array(pairs(swapped...))))
		}
	}
}

// Whatever a text is, Tokens tells just what PutTokens makes it of.
func TestNearlyTokens(t *testing.T) {
	r := chance("tokens")
	fine := 0
	for range 3000 {
		b := bytesOf(itemOfTokens(tokens(1 + r.IntN(3))))
		b[r.IntN(len(b))] ^= 1 << r.IntN(8)
		s := "mv1" + base64.RawURLEncoding.EncodeToString(b)
		l, errno := wire.Tokens(s)
		if errno != api.OK {
			noTokens(t, "nearly", s)
			continue
		}
		fine++
		if textOfItem(itemOfTokens(l)) != s {
			t.Errorf("W3: Tokens(%q) tells tokens of another text", s)
		}
		comesBack(t, "nearly", l, s)
	}
	if fine < 1000 || fine > 2900 {
		t.Errorf("the test tells too little: %d", fine)
	}
}
