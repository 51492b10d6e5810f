package digest

import (
	"bytes"
	"crypto/sha256"
	"encoding/binary"
	"encoding/hex"
	"math/rand"
	"strings"
	"testing"

	"bascule/api"
)

func TestSum(t *testing.T) { // P202
	r := rand.New(rand.NewSource(1))
	for n := range 300 {
		b := make([]byte, n)
		r.Read(b)
		if Sum(b) != sha256.Sum256(b) {
			t.Error(n)
		}
	}
	big := make([]byte, 1<<20+7)
	if Sum(big) != sha256.Sum256(big) || Sum(nil) != sha256.Sum256(nil) || Sum(nil) != Sum([]byte{}) {
		t.Error("sum")
	}
	if s := Print(Sum([]byte("abc"))); s[:8] != "ba7816bf" {
		t.Error(s)
	}
}

func TestSumLeavesItsArgument(t *testing.T) { // P201
	room := bytes.Repeat([]byte{7}, 200)
	for n := range 150 {
		Sum(room[:n])
		Frame("t", room[:n])
	}
	if !bytes.Equal(room, bytes.Repeat([]byte{7}, 200)) {
		t.Error("changed")
	}
}

// framed builds a frame as the document says it, by other means.
func framed(tag string, parts ...[]byte) []byte {
	if len(tag) > 255 {
		tag = tag[:255]
	}
	b := append([]byte{byte(len(tag))}, tag...)
	for _, p := range parts {
		b = append(binary.BigEndian.AppendUint64(b, uint64(len(p))), p...)
	}
	return b
}

func TestFrame(t *testing.T) { // P202, P204
	tags := []string{"", "a", "b", "\x01a", strings.Repeat("x", 255)}
	parts := [][][]byte{nil, {nil}, {{}, {}}, {{1}}, {{1}, {2}}, {{1, 2}}, {{1, 2}, nil}, {{0, 0, 0, 0, 0, 0, 0, 1, 1}}}
	seen := map[string]string{}
	for _, tag := range tags {
		for i, l := range parts {
			f := Frame(tag, l...)
			if !bytes.Equal(f, framed(tag, l...)) || Tagged(tag, l...) != sha256.Sum256(f) {
				t.Error(tag, l, f)
			}
			if old, ok := seen[string(f)]; ok {
				t.Error("two frames are the same", old, tag, i)
			}
			seen[string(f)] = tag
		}
	}
	long := strings.Repeat("x", 255)
	if !bytes.Equal(Frame(long+"y", []byte{1}), Frame(long, []byte{1})) {
		t.Error("a longer tag")
	}
	f := Frame("a", []byte{1})
	Frame("a", []byte{1})[3] = 9
	if !bytes.Equal(f, Frame("a", []byte{1})) {
		t.Error("shared")
	}
}

func TestPair(t *testing.T) { // P202
	a, b := api.Hash{1}, api.Hash{2}
	if Pair(a, b) != Tagged("pair", a[:], b[:]) || Pair(a, b) == Pair(b, a) {
		t.Error("pair")
	}
}

func TestText(t *testing.T) { // P203, P205
	r := rand.New(rand.NewSource(2))
	for range 50 {
		var h api.Hash
		r.Read(h[:])
		s := Print(h)
		if s != hex.EncodeToString(h[:]) {
			t.Error(s)
		}
		if x, e := Parse(s); x != h || e != 0 {
			t.Error(x, e)
		}
	}
	good := Print(Sum(nil))
	for _, s := range []string{"", good[1:], good + "0", strings.ToUpper(good), good[:63] + "g", good[:63] + "/", good[:63] + ":", good[:63] + "`", " " + good[1:]} {
		if h, e := Parse(s); h != (api.Hash{}) || e != api.ErrForm {
			t.Error(s, h, e)
		}
	}
}

func BenchmarkPair(b *testing.B) {
	for b.Loop() {
		Pair(api.Hash{1}, api.Hash{2})
	}
}
