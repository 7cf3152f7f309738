package record_test

import (
	"bytes"
	"testing"

	"mintvault/api"
	"mintvault/record"
)

// pair is what the records of these tests tell of.
type pair struct {
	number uint64
	data   string
}

func (p pair) item() api.Item {
	return record.Array(record.Number(p.number), record.Data([]byte(p.data)))
}

func take(i api.Item) pair {
	f := record.Fields(i, 2)
	return pair{f[0].Num, string(f[1].Data)}
}

func TestWritten(t *testing.T) {
	for _, x := range []struct {
		p    pair
		want []byte
	}{{pair{}, []byte{0x82, 0, 0x40}}, {pair{5, "ab"}, []byte{0x82, 5, 0x42, 'a', 'b'}}, {pair{300, "\xff"}, []byte{0x82, 0x19, 1, 44, 0x41, 255}}} {
		if got := record.Written(x.p.item()); !bytes.Equal(got, x.want) {
			t.Errorf("M3: the record of %+v: %x, want %x", x.p, got, x.want)
		}
		if got, ok := record.Read(x.want, take, pair.item); !ok || got != x.p {
			t.Errorf("M1: Read of %x: %+v, %v", x.want, got, ok)
		}
	}
	if got := record.Written(record.Array()); !bytes.Equal(got, []byte{0x80}) {
		t.Errorf("M3: the record of nothing: %x", got)
	}
}

func TestReadOfNone(t *testing.T) {
	for _, b := range [][]byte{
		nil, {}, {0}, {0x80}, {0x81, 0}, {0x83, 0, 0x40, 0}, {0x82, 0, 0x60}, {0x82, 0x40, 0}, {0x82, 0x20, 0x40}, {0x82, 0x18, 5, 0x40}, {0x82, 0, 0x40, 0}, {0x82, 0}, {0xa1, 0, 0x40}, {255}, make([]byte, 65537),
	} {
		if _, ok := record.Read(b, take, pair.item); ok {
			t.Errorf("M1: Read of %x is said to be one", b[:min(len(b), 10)])
		}
	}
}

func TestFields(t *testing.T) {
	full := record.Array(record.Number(1), record.Number(2), record.Number(3))
	for n := range 6 {
		f := record.Fields(full, n)
		if len(f) != n {
			t.Fatalf("M1: %d fields, want %d", len(f), n)
		}
		for i, got := range f {
			if want := uint64(i+1) * uint64(min(1, max(0, 3-i))); got.Num != want {
				t.Errorf("M1: field %d of %d: %+v", i, n, got)
			}
		}
	}
}
