package book

import (
	"bytes"
	"encoding/binary"
	"testing"

	"bascule/api"
	"bascule/digest"
)

func TestSumAndTagged(t *testing.T) { // P402, P403
	k := New()
	a := []byte("a")
	if k.Sum(a) != digest.Sum(a) || k.Sum(a) != digest.Sum(a) || k.Len() != 1 {
		t.Error(k.Len())
	}
	a[0] = 'x'
	if b, ok := k.Seek(digest.Sum([]byte("a"))); string(b) != "a" || !ok {
		t.Error(b, ok)
	}
	h := k.Tagged("t", []byte("p"), nil)
	if b, ok := k.Seek(h); h != digest.Tagged("t", []byte("p"), nil) || !bytes.Equal(b, digest.Frame("t", []byte("p"), nil)) || !ok || k.Len() != 2 {
		t.Error(b, ok)
	}
	if b, ok := k.Seek(api.Hash{}); b != nil || ok {
		t.Error(b, ok)
	}
	k.Sum(nil)
	if b, ok := k.Seek(digest.Sum(nil)); len(b) != 0 || !ok {
		t.Error(b, ok)
	}
	if a, b, ok := k.Clash(); a != nil || b != nil || ok {
		t.Error("a clash")
	}
}

func TestPut(t *testing.T) { // P402
	k := New()
	h, g := api.Hash{1}, api.Hash{2}
	put := func(h api.Hash, s string, want api.Errno) {
		t.Helper()
		if e := k.Put(h, []byte(s)); e != want {
			t.Error(s, e)
		}
	}
	put(h, "a", 0)
	put(g, "b", 0)
	put(g, "b", api.ErrThere)
	put(g, "a", 0) // the first clash, though h came first
	put(h, "b", 0)
	put(g, "c", 0)
	put(h, "b", api.ErrThere)
	if a, b, ok := k.Clash(); string(a) != "b" || string(b) != "a" || !ok || k.Len() != 5 {
		t.Error(a, b, ok, k.Len())
	}
	a, _, _ := k.Clash()
	a[0] = 'x'
	s, _ := k.Seek(g)
	s[0] = 'x'
	if a, _, _ := k.Clash(); string(a) != "b" {
		t.Error("shared")
	}
	if Check([]byte("a"), []byte("b")) || Check(nil, []byte{}) || Check([]byte("a"), []byte("a")) {
		t.Error("check")
	}
}

func TestFull(t *testing.T) { // P402
	k := New()
	for i := range uint32(1 << 16) {
		if e := k.Put(api.Hash{byte(i), byte(i >> 8)}, binary.BigEndian.AppendUint32(nil, i)); e != 0 {
			t.Fatal(e)
		}
	}
	if k.Put(api.Hash{}, []byte{0, 0, 0, 0}) != api.ErrThere || k.Put(api.Hash{}, []byte{1}) != api.ErrSize || k.Len() != 1<<16 {
		t.Error("full")
	}
	if k.Sum([]byte("a")) != digest.Sum([]byte("a")) || k.Len() != 1<<16 {
		t.Error("sum of a full book")
	}
	if _, ok := k.Seek(digest.Sum([]byte("a"))); ok {
		t.Error("it was kept")
	}
	if _, _, ok := k.Clash(); ok {
		t.Error("what was not kept clashes")
	}
}

func TestNobodys(t *testing.T) { // P401
	for _, k := range []*Book{nil, {}} {
		if k.Sum([]byte("a")) != digest.Sum([]byte("a")) || k.Tagged("t", nil) != digest.Tagged("t", nil) || k.Put(api.Hash{}, nil) != api.ErrArg || k.Len() != 0 {
			t.Error("a call")
		}
		if b, ok := k.Seek(digest.Sum([]byte("a"))); b != nil || ok {
			t.Error("seek")
		}
		if a, b, ok := k.Clash(); a != nil || b != nil || ok {
			t.Error("clash")
		}
	}
}
