package wire

import "mintvault/api"

// must throws: whatever is not as it must be, however deep in an item, makes the whole of it none.
func must(ok bool) {
	if !ok {
		panic(api.ErrForm)
	}
}

// caught is the layer's edge: no call of a face panics, so all that is thrown further in ends here.
func caught[T any](work func() T) (answer T, errno api.Errno) {
	defer func() {
		if recover() != nil {
			errno = api.ErrForm
		}
	}()
	return work(), api.OK
}

// right throws once more what a face has caught, where the layer calls a face of its own.
func right[T any](answer T, errno api.Errno) T {
	must(errno == api.OK)
	return answer
}
