package tree

func path(leaves [][]byte, i int) [][]byte {
	if len(leaves) == 1 {
		return nil
	}
	first, others := halves(leaves)
	if k := len(first); i >= k {
		return append(path(others, i-k), root(first))
	}
	return append(path(first, i), root(others))
}

// pathLeads is not ok where the path leads to nothing.
func pathLeads(n, i int, leaf []byte, path [][]byte) ([]byte, bool) {
	if n == 1 {
		return leafHash(leaf), len(path) == 0
	}
	lower, e, ok := last(path)
	if !ok {
		return nil, false
	}
	k := firstHalf(n)
	if i >= k {
		that, ok := pathLeads(n-k, i-k, leaf, lower)
		return node(e, that), ok
	}
	that, ok := pathLeads(k, i, leaf, lower)
	return node(that, e), ok
}
