package sponge_test

import (
	"bytes"
	"strings"
	"testing"

	"mintvault/sponge"
)

func TestTagExample(t *testing.T) {
	begins(t, "S3: a, {b}", sponge.Tag("a", [][]byte{[]byte("b")}), "53ecdad91527897f")
}

func TestTagOfNothing(t *testing.T) {
	same(t, "S3: nil", sponge.Tag("a", nil), wantTag("a"))
	same(t, "S3: no parts", sponge.Tag("a", [][]byte{}), wantTag("a"))
	same(t, "S3: no label", sponge.Tag("", nil), wantTag(""))
	same(t, "S3: a nil part", sponge.Tag("a", [][]byte{nil}), wantTag("a", nil))
	same(t, "S3: an empty part", sponge.Tag("a", [][]byte{{}}), wantTag("a", nil))
	same(t, "S3: both", sponge.Tag("", [][]byte{nil, {}}), wantTag("", nil, nil))
}

func TestTagOfEveryLength(t *testing.T) {
	for _, n := range lengths() {
		b := some(n, byte(n))
		label := string(some(n%400, 7))
		same(t, "S3: a long part", sponge.Tag("x", [][]byte{b}), wantTag("x", b))
		same(t, "S3: a long label", sponge.Tag(label, [][]byte{[]byte("y"), b}), wantTag(label, []byte("y"), b))
	}
}

func TestTagOfManyParts(t *testing.T) {
	var parts [][]byte
	for n := range 300 {
		same(t, "S3: many parts", sponge.Tag("many", parts), wantTag("many", parts...))
		parts = append(parts, some(n%7, byte(n)))
	}
}

func TestTagLabelIsBytes(t *testing.T) {
	for _, label := range []string{"\x00", "\xff\xfe", "é", "log ", strings.Repeat("l", 70000)} {
		same(t, "S3: label", sponge.Tag(label, [][]byte{[]byte("b")}), wantTag(label, []byte("b")))
	}
}

// Where the label and each part end counts: none of these is another.
func TestTagPlacesCount(t *testing.T) {
	b := []byte("b")
	all := map[string]int{}
	for i, tag := range [][]byte{
		sponge.Tag("a", [][]byte{[]byte("bc")}),
		sponge.Tag("a", [][]byte{b, []byte("c")}),
		sponge.Tag("ab", [][]byte{[]byte("c")}),
		sponge.Tag("abc", nil),
		sponge.Tag("", [][]byte{[]byte("abc")}),
		sponge.Tag("a", [][]byte{[]byte("c"), b}),
		sponge.Tag("a", [][]byte{b, []byte("c"), nil}),
		sponge.Tag("a", [][]byte{nil, b, []byte("c")}),
		sponge.Hash([]byte("abc")),
	} {
		if j, twice := all[string(tag)]; twice {
			t.Errorf("S3: numbers %d and %d are the same", j, i)
		}
		all[string(tag)] = i
	}
}

func TestTagMemory(t *testing.T) {
	g, h := guard(some(32, 8)), guard(some(140, 9))
	room := [][]byte{g.b, h.b, []byte("spare")}
	parts := room[:2]
	first := sponge.Tag("label", parts)
	want := bytes.Clone(first)
	second := sponge.Tag("label", parts)
	spoil(first)
	g.check(t, "Tag, the first part")
	h.check(t, "Tag, the second part")
	if &room[0][0] != &g.b[0] || &room[1][0] != &h.b[0] || string(room[2]) != "spare" {
		t.Error("E2: Tag: the list of parts, or its spare room, has changed")
	}
	same(t, "E2: Tag: another answer", second, want)
	same(t, "E2: Tag: once more", sponge.Tag("label", parts), want)
}
