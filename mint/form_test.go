package mint_test

import (
	"bytes"
	"math"
	"testing"

	"mintvault/api"
	"mintvault/group"
	"mintvault/keys"
	"mintvault/mint"
)

// refuses holds that a request is refused, and that nothing comes of it.
func refuses(t *testing.T, what string, m *mint.Mint, r api.Request, want api.Errno) {
	t.Helper()
	before := standOf(m)
	does(t, what, m, r, want)
	before.holds(t, what+", which was refused", m)
}

// refusesChanged also holds that the request without the change is done behind it.
func refusesChanged(t *testing.T, what string, base func() api.Request, want api.Errno, changes ...func(*api.Request)) {
	t.Helper()
	m := ready(t)
	for _, change := range changes {
		refuses(t, what, m, changed(base(), change), want)
	}
	does(t, what+", mended", m, base(), api.OK)
}

// doesAlone does a request on a mint of its own.
func doesAlone(t *testing.T, what string, r api.Request, want api.Errno) {
	t.Helper()
	does(t, what, ready(t), r, want)
}

func TestKinds(t *testing.T) {
	for _, base := range ordinary() {
		for _, kind := range []int{0, 4, 5, -1, -2, -3, 7, 256 + 1, 1<<32 + 1, 1<<32 + 2, 1<<32 + 3, math.MaxInt, math.MinInt, math.MinInt + 1} {
			refusesChanged(t, "M3: a kind that is none", base, api.ErrForm, func(r *api.Request) { r.Kind = kind })
		}
	}
	refuses(t, "M3: an empty request", ready(t), api.Request{}, api.ErrForm)
}

func TestNames(t *testing.T) {
	for _, n := range []int{1, 2, 63, 64} {
		name := nameOf(n)
		m := begun(t, room)
		funds(t, "M2", m, name, 7, api.OK)
		does(t, "M3: Issue with a name", m, changed(issue(), func(r *api.Request) { r.Name = name }), api.OK)
		doesAlone(t, "M3: Pay with a name", changed(pay(), func(r *api.Request) { r.Name = name }), api.OK)
		refusesChanged(t, "M3: Swap with a name", swap, api.ErrForm, func(r *api.Request) { r.Name = name })
	}
	for _, n := range []int{0, 65, 66, 1000, 100000} {
		for _, base := range []func() api.Request{issue, pay} {
			refusesChanged(t, "M3: a name that is none", base, api.ErrForm, func(r *api.Request) { r.Name = nameOf(n) })
		}
	}
	refusesChanged(t, "M3: Swap with a long name", swap, api.ErrForm, func(r *api.Request) { r.Name = nameOf(65) })
}

func TestAmounts(t *testing.T) {
	for _, amount := range []uint64{1, 2, 7, 1 << 40, 1<<40 + 1, 1 << 63, math.MaxUint64} {
		for _, base := range []func() api.Request{issue, swap} {
			refusesChanged(t, "M3: an Amount", base, api.ErrForm, func(r *api.Request) { r.Amount = amount })
		}
	}
	for _, amount := range noMoney() {
		refusesChanged(t, "M3: Pay of an amount that is none", pay, api.ErrRange, func(r *api.Request) { r.Amount = amount })
	}
	// These are formed: what is wrong with them is their sum.
	for _, amount := range []uint64{1 << 39, 1<<40 - 1, 1 << 40} {
		refusesChanged(t, "M3: Pay of much", pay, api.ErrSum, func(r *api.Request) { r.Amount = amount })
	}
	doesAlone(t, "M3: Pay of 1", api.Request{Kind: api.Pay, Name: "x", Amount: 1, In: tokens("p", 1)}, api.OK)
	most := api.Request{Kind: api.Pay, Name: "x", Amount: 64 << 19, In: tokens("most", many(64, 1<<19)...)}
	doesAlone(t, "M3: Pay of all that goes", most, api.OK)
}

func TestIn(t *testing.T) {
	refusesChanged(t, "M3: Issue with an In", issue, api.ErrForm,
		func(r *api.Request) { r.In = tokens("s", 1) },
		func(r *api.Request) { r.In = make([]api.Token, 1) },
		func(r *api.Request) { r.In = make([]api.Token, 65) })
	for _, base := range []func() api.Request{swap, pay} {
		refusesChanged(t, "M3: without an In", base, api.ErrForm,
			func(r *api.Request) { r.In = nil },
			func(r *api.Request) { r.In = []api.Token{} },
			func(r *api.Request) { r.In, r.Out = nil, nil },
			func(r *api.Request) { r.In = r.In[:0] })
	}
	doesAlone(t, "M3: Issue with an empty In", changed(issue(), func(r *api.Request) { r.In = []api.Token{} }), api.OK)
}

func TestLong(t *testing.T) {
	for _, n := range []int{65, 66, 128, 1000} {
		for _, base := range ordinary() {
			refusesChanged(t, "M3: a long Out", base, api.ErrLong,
				func(r *api.Request) { r.Out = make([]api.Hidden, n) },
				func(r *api.Request) { r.Out = hiddens("o", many(n, 1)...) })
		}
		for _, base := range []func() api.Request{swap, pay} {
			refusesChanged(t, "M3: a long In", base, api.ErrLong,
				func(r *api.Request) { r.In = make([]api.Token, n) },
				func(r *api.Request) { r.In, r.Out = make([]api.Token, n), make([]api.Hidden, n) })
		}
	}
	refusesChanged(t, "M3: 65 tokens", swap, api.ErrLong, func(r *api.Request) { r.In = tokens("o", many(65, 1)...) })
}

// 64 entries are not too many; the record of the longest request there is has room.
func TestLongest(t *testing.T) {
	m := begun(t, room)
	name := nameOf(64)
	funds(t, "M2", m, name, 64<<19, api.OK)
	does(t, "M3: Issue of 64", m, api.Request{Kind: api.Issue, Name: name, Out: hiddens("o", many(64, 1<<19)...)}, api.OK)
	does(t, "M3: Swap of 64 for 1", m, api.Request{Kind: api.Swap, In: tokens("o", many(64, 1)...), Out: hiddens("o", 64)}, api.OK)
	does(t, "M3: Swap of 1 for 64", m, api.Request{Kind: api.Swap, In: tokens("one", 64), Out: hiddens("o", many(64, 1)...)}, api.OK)
	long := api.Request{Kind: api.Pay, Name: name, Amount: 32 << 19, Out: hiddens("o", many(64, 1<<18)...)}
	for i := range 64 {
		long.In = append(long.In, tokenOf(1<<19, string(append(some(63, "long"), byte(i)))))
	}
	does(t, "M3: the longest", m, long, api.OK)
	standOf(m).holdsBooks(t, "M1: behind Open", opened(t, m.Disk(), room))
}

func TestDenominations(t *testing.T) {
	for place := range 20 {
		amount := uint64(1) << place
		doesAlone(t, "M3: each denomination", api.Request{Kind: api.Swap, In: tokens("d", amount), Out: hiddens("d", amount)}, api.OK)
	}
	for _, amount := range noDenominations() {
		for _, base := range ordinary() {
			for i := range base().Out {
				refusesChanged(t, "M3: no denomination in Out", base, api.ErrRange, func(r *api.Request) { r.Out[i].Amount = amount })
			}
			for i := range base().In {
				refusesChanged(t, "M3: no denomination in In", base, api.ErrRange, func(r *api.Request) { r.In[i].Amount = amount })
			}
		}
	}
}

func TestPoints(t *testing.T) {
	for _, point := range noPoints() {
		for _, base := range ordinary() {
			for i := range base().Out {
				refusesChanged(t, "M3: no point, or nothing", base, api.ErrPoint, func(r *api.Request) { r.Out[i].Point = point })
			}
		}
	}
	opposite := ok(group.Minus(group.Base()))
	doesAlone(t, "M3: any point", api.Request{Kind: api.Swap, In: tokens("s", 2), Out: []api.Hidden{{Amount: 1, Point: group.Base()}, {Amount: 1, Point: opposite}}}, api.OK)
}

func TestKeysOfTokens(t *testing.T) {
	next, _ := keys.Set(seed(), 1)
	other, _ := keys.Set(some(32, "other seed"), 0)
	wrong := [][]byte{nil, {}, setName()[:7], setName()[1:], append(setName(), 0), append([]byte{0}, setName()...), make([]byte, 8), next.Name, other.Name, bytes.Repeat(setName(), 2)}
	for i := range 64 {
		b := setName()
		b[i/8] ^= 1 << (i % 8)
		wrong = append(wrong, b)
	}
	for _, name := range wrong {
		for _, base := range []func() api.Request{swap, pay} {
			for i := range base().In {
				refuses(t, "M3: other Keys", ready(t), changed(base(), func(r *api.Request) { r.In[i].Keys = name }), api.ErrKeys)
			}
		}
	}
}

// What makes a token one that is not Valid.
func spoiled(t api.Token) []api.Token {
	other := tokenOf(t.Amount, "another one")
	twice := tokenOf(2*t.Amount, string(t.Secret))
	foreign := ok(keys.Key(some(32, "other seed"), 0, t.Amount))
	next := ok(keys.Key(seed(), 1, t.Amount))
	y := ok(group.HashTo("token", t.Secret))
	all := []api.Token{{Amount: 2 * t.Amount, Secret: t.Secret, Sign: t.Sign}}
	for _, secret := range [][]byte{nil, {}, other.Secret, append(bytes.Clone(t.Secret), 0), t.Secret[:len(t.Secret)-1], some(65, "secret"), some(1000, "secret")} {
		all = append(all, api.Token{Amount: t.Amount, Secret: secret, Sign: t.Sign})
	}
	for _, sign := range append(noPoints(), other.Sign, twice.Sign, group.Base(), y, ok(group.Minus(t.Sign)), ok(group.Times(foreign, y)), ok(group.Times(next, y)), t.Sign[:32], append(bytes.Clone(t.Sign), 0)) {
		all = append(all, api.Token{Amount: t.Amount, Secret: t.Secret, Sign: sign})
	}
	long := ok(group.Times(keyOf(t.Amount), ok(group.HashTo("token", some(65, "secret")))))
	none := ok(group.Times(keyOf(t.Amount), ok(group.HashTo("token", nil))))
	all = append(all, api.Token{Amount: t.Amount, Secret: some(65, "secret"), Sign: long}, api.Token{Amount: t.Amount, Sign: none})
	for i := range all {
		all[i].Keys = setName()
	}
	return all
}

func TestProofs(t *testing.T) {
	for _, base := range []func() api.Request{swap, pay} {
		m := ready(t)
		for i, token := range base().In {
			for _, bad := range spoiled(token) {
				refuses(t, "M3: a token that is not Valid", m, changed(base(), func(r *api.Request) { r.In[i] = bad }), api.ErrProof)
			}
		}
		does(t, "M3: mended", m, base(), api.OK)
	}
	for _, n := range []int{1, 2, 63, 64} {
		token := tokenOf(2, string(some(n, "secret")))
		doesAlone(t, "M3: a secret of any length", api.Request{Kind: api.Swap, In: []api.Token{token}, Out: hiddens("s", 2)}, api.OK)
	}
}

func TestSecretsTwice(t *testing.T) {
	for _, base := range []func() api.Request{swap, pay} {
		refusesChanged(t, "M3: one token twice", base, api.ErrTwice,
			func(r *api.Request) { r.In = append(r.In, r.In[0]) },
			func(r *api.Request) { r.In = append(r.In, r.In[1]) },
			func(r *api.Request) { r.In[0] = r.In[1] },
			func(r *api.Request) { r.In = []api.Token{r.In[0], r.In[0]} })
	}
	// Both are Valid, each for the key of its own Amount.
	two := []api.Token{tokenOf(1, "same"), tokenOf(2, "same")}
	refuses(t, "M3: one Secret with two amounts", ready(t), api.Request{Kind: api.Swap, In: two, Out: hiddens("s", 1, 2)}, api.ErrTwice)
	for _, pair := range [][2]int{{0, 63}, {0, 1}, {62, 63}, {10, 40}} {
		in := tokens("o", many(64, 1)...)
		in[pair[1]] = in[pair[0]]
		refuses(t, "M3: one of 64 twice", ready(t), api.Request{Kind: api.Swap, In: in, Out: hiddens("o", 64)}, api.ErrTwice)
	}
}
