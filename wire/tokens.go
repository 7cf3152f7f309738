package wire

import (
	"strings"

	"mintvault/api"
)

const (
	mark      = "mv1"
	keysBytes = 8
	maxSecret = 64
	signBytes = 33
)

func textOf(l []api.Token) string {
	must(len(l) > 0)
	all := api.Item{Kind: api.Array}
	for _, t := range l {
		must(len(t.Keys) == keysBytes && len(t.Secret) > 0 && len(t.Secret) <= maxSecret && len(t.Sign) == signBytes)
		all.List = append(all.List, fromToken(t))
	}
	return mark + lettersOf(written(all))
}

func fromText(s string) []api.Token {
	text, ok := strings.CutPrefix(s, mark)
	must(ok)
	var l []api.Token
	for _, i := range right(Parse(right(FromLetters(text)))).List {
		l = append(l, toToken(i))
	}
	// What is there beside the tokens, or stands for them in another way, does not come back.
	must(right(PutTokens(l)) == s)
	return l
}

func fromToken(t api.Token) api.Item {
	values := []api.Item{{Kind: api.Uint, Num: t.Amount}, {Kind: api.Bytes, Data: t.Keys}, {Kind: api.Bytes, Data: t.Secret}, {Kind: api.Bytes, Data: t.Sign}}
	m := api.Item{Kind: api.Map}
	for key, value := range values {
		m.List = append(m.List, api.Item{Kind: api.Uint, Num: uint64(key)}, value)
	}
	return m
}

// toToken takes what lies where a token has it, whatever it is; whoever calls looks whether it is one.
func toToken(i api.Item) api.Token {
	must(len(i.List) == 8)
	return api.Token{Amount: i.List[1].Num, Keys: i.List[3].Data, Secret: i.List[5].Data, Sign: i.List[7].Data}
}
