package wire

import "strings"

const (
	letters    = "ABCDEFGHIJKLMNOPQRSTUVWXYZabcdefghijklmnopqrstuvwxyz0123456789-_"
	maxLetters = 131072
)

func lettersOf(b []byte) string {
	var text strings.Builder
	held, bits := uint(0), 0
	for _, x := range b {
		held, bits = held<<8|uint(x), bits+8
		for bits >= 6 {
			bits -= 6
			text.WriteByte(letters[held>>bits&63])
		}
	}
	if bits > 0 {
		text.WriteByte(letters[held<<(6-bits)&63])
	}
	return text.String()
}

func fromLetters(s string) []byte {
	var b []byte
	held, bits := uint(0), 0
	for i := range len(s) {
		n := strings.IndexByte(letters, s[i])
		must(n >= 0)
		held, bits = held<<6|uint(n), bits+6
		if bits >= 8 {
			bits -= 8
			b = append(b, byte(held>>bits))
		}
	}
	// Where a letter too many, or bits that are not noughts, are left over, going back does not lead here.
	must(lettersOf(b) == s)
	return b
}
