package parse_test

import (
	"slices"
	"testing"

	"mintvault/parse"
)

// length takes bytes as how many they are, if they are some.
func length(b []byte) (int, bool) { return len(b), len(b) > 0 }

func TestAll(t *testing.T) {
	all, ok := parse.All(length, []byte("abc"), []byte("a"), []byte("ab"))
	if !ok || !slices.Equal(all, []int{3, 1, 2}) {
		t.Errorf("%v, %v", all, ok)
	}
	if all, ok := parse.All(length); !ok || len(all) != 0 {
		t.Errorf("of none: %v, %v", all, ok)
	}
}

func TestAllWithOneThatIsNone(t *testing.T) {
	for place := range 3 {
		given := [][]byte{[]byte("a"), []byte("b"), []byte("c")}
		given[place] = nil
		if all, ok := parse.All(length, given...); ok || all != nil {
			t.Errorf("place %d is none: %v, %v", place, all, ok)
		}
	}
}
