package mint_test

import (
	"testing"

	"mintvault/api"
	"mintvault/mint"
)

// fault is one thing that is wrong with a request, and what is told of it.
type fault struct {
	errno api.Errno
	spoil func(*api.Request)
}

// refusesAll goes through all sets of faults: whatever else is wrong, the first one is told, and of a request without any what the mint is bound to tell.
func refusesAll(t *testing.T, m *mint.Mint, base func() api.Request, faults []fault, without api.Errno) {
	t.Helper()
	before := standOf(m)
	for set := 1<<len(faults) - 1; set >= 0; set-- {
		r, want := base(), without
		for i := len(faults) - 1; i >= 0; i-- {
			if set>>i&1 == 1 {
				faults[i].spoil(&r)
				want = faults[i].errno
			}
		}
		does(t, "M3: the order of errors", m, r, want)
		if t.Failed() {
			return
		}
	}
	before.holds(t, "M3: the order of errors", m)
}

// taking is a request with tokens for each fault: none of them gets in another's way.
func taking(kind int) func() api.Request {
	return func() api.Request {
		r := api.Request{Kind: kind, In: tokens("t", 1, 2, 4, 8), Out: hiddens("t", 1, 2, 4, 8)}
		if kind == api.Pay {
			r.Name, r.Amount, r.Out = "shop", 8, r.Out[:3]
			r.In[3] = tokenOf(8, "paid")
		}
		return r
	}
}

func takingFaults() []fault {
	return []fault{
		{api.ErrForm, func(r *api.Request) { r.Name = nameOf(65) }},
		{api.ErrLong, func(r *api.Request) { r.Out = append(r.Out, make([]api.Hidden, 65)...) }},
		{api.ErrRange, func(r *api.Request) { r.Out[0].Amount = 3 }},
		{api.ErrPoint, func(r *api.Request) { r.Out[1].Point = make([]byte, 33) }},
		{api.ErrKeys, func(r *api.Request) { r.In[0].Keys = nil }},
		{api.ErrProof, func(r *api.Request) { r.In[1].Sign = pointOf("wrong") }},
		{api.ErrTwice, func(r *api.Request) { r.In = append(r.In, r.In[2]) }},
		{api.ErrSpent, func(r *api.Request) { r.In[3] = tokenOf(8, "spent") }},
		{api.ErrSum, func(r *api.Request) { r.Out[2].Amount = 16 }},
	}
}

func issueFaults() []fault {
	return append(takingFaults()[:4:4],
		fault{api.ErrQuote, func(r *api.Request) { r.Name = "none" }},
		fault{api.ErrState, func(r *api.Request) { r.Name = "used" }},
		fault{api.ErrSum, func(r *api.Request) { r.Out[2].Amount = 16 }})
}

// crowded has spent a token, and has an order that is used and one that is not.
func crowded(t *testing.T) *mint.Mint {
	t.Helper()
	m := begun(t, room)
	does(t, "M3", m, api.Request{Kind: api.Swap, In: []api.Token{tokenOf(8, "spent")}, Out: hiddens("t", 8)}, api.OK)
	funds(t, "M2", m, "order", 7, api.OK)
	funds(t, "M2", m, "used", 7, api.OK)
	does(t, "M3", m, api.Request{Kind: api.Issue, Name: "used", Out: hiddens("u", 1, 2, 4)}, api.OK)
	return m
}

// inEachState goes through a request's faults on a mint whose disk has no room, and on one whose power goes; behind that nothing else is told.
func inEachState(t *testing.T, base func() api.Request, faults []fault) {
	t.Helper()
	m := crowded(t)
	full := opened(t, m.Disk(), len(m.Disk())+20)
	refusesAll(t, full, base, faults, api.ErrFull)
	full.Arm(0)
	refusesAll(t, full, base, faults, api.ErrFull)
	m.Arm(0)
	refusesAll(t, m, base, faults, api.ErrPower)
	for i := range faults {
		faults[i].errno = api.ErrPower
	}
	refusesAll(t, m, base, faults, api.ErrPower)
}

func TestOrderOfSwap(t *testing.T) { inEachState(t, taking(api.Swap), takingFaults()) }

func TestOrderOfPay(t *testing.T) { inEachState(t, taking(api.Pay), takingFaults()) }

func TestOrderOfIssue(t *testing.T) { inEachState(t, issue, issueFaults()) }

// Each thing that makes a request one that is not formed, by rule 1, is told ahead of rule 2.
func TestFormAheadOfAll(t *testing.T) {
	long := func(r api.Request) api.Request {
		r.Out = make([]api.Hidden, 65)
		return r
	}
	m := ready(t)
	for _, r := range []api.Request{
		changed(swap(), func(r *api.Request) { r.Kind = 4 }),
		changed(swap(), func(r *api.Request) { r.Name = "x" }),
		changed(swap(), func(r *api.Request) { r.Amount = 1 }),
		changed(swap(), func(r *api.Request) { r.In = nil }),
		changed(issue(), func(r *api.Request) { r.Name = "" }),
		changed(issue(), func(r *api.Request) { r.Amount = 1 }),
		changed(issue(), func(r *api.Request) { r.In = make([]api.Token, 65) }),
		changed(pay(), func(r *api.Request) { r.Name = nameOf(65) }),
		changed(pay(), func(r *api.Request) { r.In = nil }),
	} {
		refuses(t, "M3: rules 1 and 2", m, long(r), api.ErrForm)
	}
	refuses(t, "M3: rules 2 and 3", m, long(changed(pay(), func(r *api.Request) { r.Amount = 0 })), api.ErrLong)
	refuses(t, "M3: rules 3 and 4", m, changed(pay(), func(r *api.Request) { r.Amount, r.Out[0].Point = 0, nil }), api.ErrRange)
	refuses(t, "M3: rules 3 and 5", m, changed(pay(), func(r *api.Request) { r.In[0].Amount, r.In[0].Keys = 3, nil }), api.ErrRange)
	refuses(t, "M3: rules 4 and 5", m, changed(pay(), func(r *api.Request) { r.Out[1].Point, r.In[0] = nil, api.Token{Amount: 1} }), api.ErrPoint)
	refuses(t, "M3: rules 5 and 6", m, changed(pay(), func(r *api.Request) { r.In[0].Sign, r.In[1].Keys = nil, nil }), api.ErrKeys)
	refuses(t, "M3: rules 6 and 7", m, changed(pay(), func(r *api.Request) { r.In[0].Sign = nil; r.In[1] = r.In[0] }), api.ErrProof)
}
