package wire_test

import (
	"bytes"
	"encoding/base64"
	"strings"
	"testing"

	"mintvault/api"
	"mintvault/wire"
)

const alphabet = "ABCDEFGHIJKLMNOPQRSTUVWXYZabcdefghijklmnopqrstuvwxyz0123456789-_"

// letters holds that bytes have this text, and the text these bytes.
func letters(t *testing.T, b []byte, want string) {
	t.Helper()
	if s := wire.Letters(b); s != want {
		t.Errorf("W2: Letters of %d bytes %s: %.60q, want %.60q", len(b), begin(b), s, want)
	}
	if back, errno := wire.FromLetters(want); errno != api.OK || !bytes.Equal(back, b) {
		t.Errorf("W2: FromLetters(%.60q): %d bytes %s, %d", want, len(back), begin(back), errno)
	}
}

func noLetters(t *testing.T, s string, want api.Errno) {
	t.Helper()
	if b, errno := wire.FromLetters(s); errno != want || len(b) != 0 {
		t.Errorf("W2: FromLetters(%.60q): %d bytes, %d, want %d", s, len(b), errno, want)
	}
}

func TestLetters(t *testing.T) {
	for hex, want := range map[string]string{
		"": "", "00": "AA", "ff": "_w", "fb": "-w", "04": "BA", "0000": "AAA", "ffff": "__8", "0010": "ABA", "001083": "ABCD", "000000": "AAAA", "ffffff": "____", "fbefbe": "----", "00108310": "ABCDEA",
		"00108310518720928b30d38f41149351559761969b71d79f8218a39259a7a29aabb2dbafc31cb3d35db7e39ebbf3dfbf": alphabet,
	} {
		letters(t, unhex(hex), want)
	}
	letters(t, nil, "")
	letters(t, []byte{}, "")
	for n := range 300 {
		b := some(n, "letters")
		letters(t, b, base64.RawURLEncoding.EncodeToString(b))
	}
	for a := range 256 {
		letters(t, []byte{byte(a)}, base64.RawURLEncoding.EncodeToString([]byte{byte(a)}))
		for b := range 256 {
			letters(t, []byte{byte(a), byte(b)}, base64.RawURLEncoding.EncodeToString([]byte{byte(a), byte(b)}))
		}
	}
}

// Each text of up to two letters, and each last letter behind others, by the library's strict form.
func TestLastLetters(t *testing.T) {
	whole := base64.RawURLEncoding.Strict()
	fine := 0
	for _, before := range []string{"", "A", "_", "AA", "_w", "x_", "AAA", "___", "ABCD", "____", "AAAAA", "ABCD_w", "ABCDEFG", "ABCDEFGH"} {
		for _, last := range alphabet {
			s := before + string(last)
			if b, err := whole.DecodeString(s); err == nil {
				fine++
				letters(t, b, s)
			} else {
				noLetters(t, s, api.ErrForm)
			}
		}
	}
	if fine != 3*4+4*16+3*64 {
		t.Errorf("the test tells something else: %d", fine)
	}
}

func TestLengthsOfLetters(t *testing.T) {
	for n := range 40 {
		s := strings.Repeat("A", n)
		if n%4 == 1 {
			noLetters(t, s, api.ErrForm)
		} else {
			letters(t, make([]byte, n*3/4), s)
		}
	}
}

func TestOtherSigns(t *testing.T) {
	for sign := range 256 {
		if strings.IndexByte(alphabet, byte(sign)) >= 0 {
			continue
		}
		for _, length := range []int{1, 2, 3, 4, 5, 7, 8} {
			for at := range length {
				s := []byte(strings.Repeat("A", length))
				s[at] = byte(sign)
				noLetters(t, string(s), api.ErrForm)
			}
		}
	}
	for _, s := range []string{"AA==", "AAA=", "AA=", "=", "==", "====", "AAAA=", "AAAA\n", "\nAAAA", "AA\nAA", "AAAA\r\n", "AA\r\nAA", "_w\n", "_w==", "AA AA", "A+A/", "+/8", "é", "äAAA", "ABC\x00", "\xff\xff"} {
		noLetters(t, s, api.ErrForm)
	}
}

func TestLongLetters(t *testing.T) {
	b := some(98304, "long")
	whole := base64.RawURLEncoding.EncodeToString(b)
	if len(whole) != 131072 {
		t.Fatalf("the test is wrong: %d", len(whole))
	}
	letters(t, b, whole)
	letters(t, b[:98303], base64.RawURLEncoding.EncodeToString(b[:98303]))
	noLetters(t, whole[:131071]+"=", api.ErrForm)
	noLetters(t, whole[:131069], api.ErrForm)
	// Too long, and no text of letters besides.
	for _, s := range []string{whole + "A", whole + "AA", whole + "AAAA", whole + "=", whole + "\n", strings.Repeat("=", 131073), strings.Repeat("A", 131076), strings.Repeat("A", 1<<20)} {
		noLetters(t, s, api.ErrLong)
	}
	for _, n := range []int{98305, 98306, 98307, 200000} {
		b := some(n, "longer")
		s := wire.Letters(b)
		if s != base64.RawURLEncoding.EncodeToString(b) {
			t.Errorf("W2: Letters of %d bytes: %.60q", n, s)
		}
		noLetters(t, s, api.ErrLong)
	}
}
