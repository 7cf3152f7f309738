package wallet_test

import (
	"bytes"
	"encoding/base64"
	"slices"
	"strings"
	"testing"

	"mintvault/api"
)

func TestReceive(t *testing.T) {
	p := with(t, 3)
	in := foreign("r", 4, 2, 8, 2)
	p.receive(textOf(in), api.OK)
	p.wants(of(4, 2, 8, 2), of(16))
	if r, _ := p.w.Asked(); r.Kind != api.Swap || r.Name != "" || r.Amount != 0 || !slices.EqualFunc(r.In, in, sameToken) {
		t.Errorf("V2: Receive: %+v", r)
	}
	p.has(1, 2)
	p.refused(api.OK)
	p.has(1, 2)
	p.receive(textOf(in), api.OK)
	p.served()
	p.has(1, 2, 16)
	p.receive(textOf(foreign("r", 4, 1, 8)), api.OK)
	p.wants(of(4, 1, 8), of(1, 4, 8))
	p.served()
	p.has(1, 2, 16, 1, 4, 8)
}

// So many tokens as may be written together; no more outputs come of them than there are.
func TestReceiveOfMany(t *testing.T) {
	p := begun(t, room)
	p.receive(textOf(foreign("m", many(64, largest)...)), api.OK)
	p.wants(many(64, largest), many(64, largest))
	p.served()
	p.has(many(64, largest)...)
	p = begun(t, room)
	p.receive(textOf(foreign("m", append(many(45, largest), of(1, 2, 4, 8, 16, 32, 64, 128, 256, 512, 1024, 2048, 4096, 8192, 16384, 32768, 65536, 131072, 262144)...)...)), api.OK)
	p.wants(append(many(45, largest), splitOf(largest-1)...), append(splitOf(largest-1), many(45, largest)...))
	p.refused(api.OK)
	p.receive(textOf(foreign("m", many(64, 1)...)), api.OK)
	p.wants(many(64, 1), of(64))
	p.refused(api.OK)
	p.receive(textOf(foreign("m", many(65, 1)...)), api.ErrForm)
	p.has()
}

// The longest text that there may be lies in a journal, too.
func TestReceiveOfTheLongest(t *testing.T) {
	p := begun(t, room)
	var l []api.Token
	for i := range 64 {
		l = append(l, api.Token{Amount: largest, Keys: set().Name, Secret: some(64, "long"+string(rune('a'+i))), Sign: some(33, "sign")})
	}
	p.receive(textOf(l), api.OK)
	p.again(room)
}

func TestReceiveOfNoText(t *testing.T) {
	p := with(t, 1)
	text := textOf(foreign("r", 4, 2))
	bare := strings.TrimPrefix(text, "mv1")
	raw, _ := base64.RawURLEncoding.DecodeString(bare)
	for _, s := range []string{
		"", "m", "mv1", "MV1" + bare, "mv2" + bare, bare, " " + text, text + " ", text + "=", text + "A", text[:len(text)-1], text + text, "mv1" + text, "mv1gA",
		strings.ReplaceAll(text, "mv1g", "mv1h"), "mv1" + base64.RawURLEncoding.EncodeToString(raw[1:]), "mv1" + base64.RawURLEncoding.EncodeToString(append(bytes.Clone(raw), 0)), strings.Repeat("A", 200000), "mv1" + strings.Repeat("A", 200000), "\xff\x00",
	} {
		p.receive(s, api.ErrForm)
	}
	for _, bad := range []api.Token{
		{Amount: 1, Keys: set().Name[:7], Secret: []byte("s"), Sign: make([]byte, 33)}, {Amount: 1, Keys: append(set().Name, 0), Secret: []byte("s"), Sign: make([]byte, 33)},
		{Amount: 1, Keys: set().Name, Sign: make([]byte, 33)}, {Amount: 1, Keys: set().Name, Secret: make([]byte, 65), Sign: make([]byte, 33)}, {Amount: 1, Keys: set().Name, Secret: []byte("s"), Sign: make([]byte, 32)},
	} {
		p.receive(textOf([]api.Token{bad}), api.ErrForm)
	}
	p.has(1)
}

// spoilt is a text of tokens with something else in one of them, at each place.
func spoilt(spoil func(*api.Token)) []string {
	var l []string
	for i := range 3 {
		in := foreign("s", 4, 2, 1)
		spoil(&in[i])
		l = append(l, textOf(in))
	}
	return l
}

func TestReceiveOfWrongTokens(t *testing.T) {
	p := begun(t, room)
	for bit := range 64 {
		for _, s := range spoilt(func(k *api.Token) { k.Keys[bit/8] ^= 1 << (bit % 8) }) {
			p.receive(s, api.ErrKeys)
		}
	}
	for _, amount := range noDenominations() {
		for _, s := range spoilt(func(k *api.Token) { k.Amount = amount }) {
			p.receive(s, api.ErrRange)
		}
	}
	for i := range 3 {
		for j := range i {
			in := foreign("s", 4, 2, 1)
			in[i].Secret = in[j].Secret
			p.receive(textOf(in), api.ErrTwice)
			in[i] = in[j]
			p.receive(textOf(in), api.ErrTwice)
		}
	}
}

// Whether a token is signed is the mint's to tell; its secret and Sign may be any.
func TestReceiveOfWhateverIsSigned(t *testing.T) {
	p := begun(t, room)
	for _, secret := range [][]byte{{0}, []byte("s"), make([]byte, 64), some(64, "x")} {
		for _, sign := range [][]byte{make([]byte, 33), some(33, "y"), bytes.Repeat([]byte{255}, 33)} {
			p.receive(textOf([]api.Token{{Amount: 1 << 19, Keys: set().Name, Secret: secret, Sign: sign}}), api.OK)
			p.refused(api.OK)
		}
	}
	near := foreign("s", 1, 1, 1)
	near[1].Secret, near[2].Secret = []byte("s0\x00"), []byte("S0")
	p.receive(textOf(near), api.OK)
	p.refused(api.OK)
	p.has()
}

// What it has sent itself it may receive.
func TestReceiveOfItsOwn(t *testing.T) {
	p := with(t, 7)
	text := p.send(5, api.OK)
	p.has(2)
	p.receive(text, api.OK)
	p.wants(of(4, 1), of(1, 4))
	p.served()
	p.has(2, 1, 4)
	own := textOf(p.w.Tokens())
	p.receive(own, api.OK)
	p.has(2, 1, 4)
	p.refused(api.OK)
	p.has(2, 1, 4)
}
