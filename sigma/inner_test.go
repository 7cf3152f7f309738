package sigma

import (
	"bytes"
	"testing"

	"mintvault/api"
	"mintvault/num"
	"mintvault/sponge"
)

// Whether Batch is true does not tell which weights it took, so these are looked at from within.
func TestWeights(t *testing.T) {
	publics := [][]byte{[]byte("p"), []byte("q"), {}, []byte("p")}
	texts := [][]byte{{}, []byte("text"), nil, {}}
	signatures := [][]byte{[]byte("s"), nil, []byte("t"), []byte("s")}
	for n := range len(publics) + 1 {
		log := sponge.NewLog("batch")
		for i := range n {
			log.Say("public", publics[i])
			log.Say("text", texts[i])
			log.Say("sign", signatures[i])
		}
		got := weights(publics[:n], texts[:n], signatures[:n])
		if len(got) != n {
			t.Errorf("Q3: %d weights, want %d", len(got), n)
		}
		for i, w := range got {
			b, _ := log.Ask("weight", 64)
			if want, errno := num.Reduce(api.Order, b); errno != api.OK || !bytes.Equal(w.Bytes(), want) {
				t.Errorf("Q3: weight %d of %d: %x, want %x", i, n, w.Bytes(), want)
			}
		}
	}
}
