package mint

import (
	"slices"

	"mintvault/api"
	"mintvault/curve"
	"mintvault/keys"
)

const maxEntries = 64

// rule is what must hold, and what is told if it does not.
type rule struct {
	holds func() bool
	errno api.Errno
}

// broken tells of the first rule that does not hold. Those behind it are not looked at: they may lean on it.
func broken(rules []rule) api.Errno {
	for _, r := range rules {
		if !r.holds() {
			return r.errno
		}
	}
	return api.OK
}

func (p money) form(m *Mint) []rule {
	return []rule{
		{func() bool { return isName(p.name) }, api.ErrForm},
		{func() bool { return isMoney(p.amount) }, api.ErrRange},
		{func() bool { return !m.hasOrder(p.name) }, api.ErrTwice},
	}
}

func (p money) state(*Mint) []rule { return nil }

func (r request) form(m *Mint) []rule {
	return []rule{
		{r.isWhole, api.ErrForm},
		{r.isShort, api.ErrLong},
		{r.hasAmounts, api.ErrRange},
		{r.hasPoints, api.ErrPoint},
		{func() bool { return all(r.In, m.hasNamed) }, api.ErrKeys},
		{func() bool { return all(r.In, m.hasSigned) }, api.ErrProof},
		{r.hasSecretsOnce, api.ErrTwice},
	}
}

func (r request) state(m *Mint) []rule {
	rules := []rule{{func() bool { return all(r.In, m.canSpend) }, api.ErrSpent}}
	given := r.taken
	if r.Kind == api.Issue {
		given = func() uint64 { return m.orders[r.Name].amount }
		rules = append(rules,
			rule{func() bool { return m.hasOrder(r.Name) }, api.ErrQuote},
			rule{func() bool { return !m.orders[r.Name].used }, api.ErrState})
	}
	return append(rules, rule{func() bool { return given() == r.issued()+r.Amount }, api.ErrSum})
}

func all[T any](l []T, holds func(T) bool) bool {
	return !slices.ContainsFunc(l, func(x T) bool { return !holds(x) })
}

func isName(s string) bool { return len(s) > 0 && len(s) <= api.MaxName }

func isMoney(amount uint64) bool { return amount > 0 && amount <= api.MaxMoney }

// isWhole tells whether a request has what those of its kind have, and nothing else.
func (r request) isWhole() bool {
	named, paid, takes := isName(r.Name), r.Amount > 0, len(r.In) > 0
	switch r.Kind {
	case api.Issue:
		return named && !paid && !takes
	case api.Swap:
		return r.Name == "" && !paid && takes
	case api.Pay:
		return named && takes
	}
	return false
}

func (r request) isShort() bool { return len(r.In) <= maxEntries && len(r.Out) <= maxEntries }

func (r request) hasAmounts() bool {
	return all(r.In, func(t api.Token) bool { return isDenomination(t.Amount) }) &&
		all(r.Out, func(h api.Hidden) bool { return isDenomination(h.Amount) }) &&
		(r.Kind != api.Pay || isMoney(r.Amount))
}

func isDenomination(amount uint64) bool {
	_, errno := keys.Place(amount)
	return errno == api.OK
}

func (r request) hasPoints() bool {
	return all(r.Out, func(h api.Hidden) bool {
		_, ok := curve.ReadSome(h.Point)
		return ok
	})
}

func (r request) hasSecretsOnce() bool {
	seen := map[string]struct{}{}
	for _, t := range r.In {
		seen[string(t.Secret)] = struct{}{}
	}
	return len(seen) == len(r.In)
}

// issued and taken are what is signed, and what comes back.
func (r request) issued() uint64 {
	sum := uint64(0)
	for _, h := range r.Out {
		sum += h.Amount
	}
	return sum
}

func (r request) taken() uint64 {
	sum := uint64(0)
	for _, t := range r.In {
		sum += t.Amount
	}
	return sum
}
