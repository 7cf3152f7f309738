package tree

// growth is with the beginning where whoever looks has its root, and needs no entry for it.
func growth(leaves [][]byte, m int, with bool) [][]byte {
	switch {
	case m < len(leaves):
		return growthOfHalves(leaves, m, with)
	case with:
		return nil
	}
	return [][]byte{root(leaves)}
}

func growthOfHalves(leaves [][]byte, m int, with bool) [][]byte {
	first, others := halves(leaves)
	if k := len(first); m > k {
		return append(growth(others, m-k, false), root(first))
	}
	return append(growth(first, m, with), root(others))
}

// beginning is what is known of the leaves that a growth begins with.
type beginning struct {
	root  []byte
	known bool
}

// ends are the two hashes that a growth leads to.
type ends struct{ old, new []byte }

// leads is not ok where the growth leads to nothing.
func (b beginning) leads(m, n int, growth [][]byte) (ends, bool) {
	if m == n {
		return b.start(growth)
	}
	lower, e, ok := last(growth)
	if !ok {
		return ends{}, false
	}
	k := firstHalf(n)
	if m > k {
		that, ok := beginning{}.leads(m-k, n-k, lower)
		return ends{node(e, that.old), node(e, that.new)}, ok
	}
	that, ok := b.leads(m, k, lower)
	return ends{that.old, node(that.new, e)}, ok
}

// start is where old and new are the same still.
func (b beginning) start(growth [][]byte) (ends, bool) {
	if b.known {
		return ends{b.root, b.root}, len(growth) == 0
	}
	if len(growth) != 1 {
		return ends{}, false
	}
	return ends{growth[0], growth[0]}, true
}
