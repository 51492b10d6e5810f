package lane

import (
	"bytes"
	"encoding/binary"
	"reflect"
	"strconv"
	"testing"

	"bascule/api"
	"bascule/digest"
)

func texts(n int) [][]byte {
	l := make([][]byte, n)
	for i := range l {
		l[i] = []byte("text " + strconv.Itoa(i))
	}
	return l
}

func be(n uint64) []byte { return binary.BigEndian.AppendUint64(nil, n) }

// level answers the last hash of the strings from lo to hi, told from the whole list's shape: the left part of any
// list is the greatest power of two that is below its length.
func level(l [][]byte, lo, hi int) api.Hash {
	if hi-lo == 1 {
		return digest.Tagged("item", be(uint64(lo)), l[lo])
	}
	half := 1
	for 2*half < hi-lo {
		half *= 2
	}
	return digest.Pair(level(l, lo, lo+half), level(l, lo+half, hi))
}

func TestRoot(t *testing.T) { // P702
	zero := api.Hash{}
	if Root() != digest.Tagged("list", be(0), zero[:]) {
		t.Error("of nothing")
	}
	seen := map[api.Hash]int{Root(): 0}
	for n := 1; n < 40; n++ {
		l := texts(n)
		last := level(l, 0, n)
		if Root(l...) != digest.Tagged("list", be(uint64(n)), last[:]) {
			t.Error(n)
		}
		if old, ok := seen[Root(l...)]; ok { // P704
			t.Error("the same root", old, n)
		}
		seen[Root(l...)] = n
	}
	if Root(nil) == Root() || Root(nil) != Root([]byte{}) || Root(nil, []byte{1}) == Root([]byte{1}, nil) {
		t.Error("of empty strings")
	}
}

func TestProofs(t *testing.T) { // P702, P704
	for n := range 20 {
		l := texts(n)
		root := Root(l...)
		for place := -2; place < n+3; place++ {
			p, e := Prove(place, l...)
			if place < 0 || place >= n {
				if e != api.ErrArg || !reflect.DeepEqual(p, Proof{}) {
					t.Error("no such place", place, n, e)
				}
				continue
			}
			if e != 0 || p.Place != place || p.Count != n || Check(root, l[place], p) != 0 {
				t.Error("it does not check", place, n, e)
			}
			spoil(t, root, l[place], p)
		}
	}
}

// spoil changes each part of what checks.
func spoil(t *testing.T, root api.Hash, b []byte, p Proof) {
	t.Helper()
	if Check(root, append([]byte("x"), b...), p) != api.ErrProof || Check(api.Hash{}, b, p) != api.ErrProof {
		t.Error("another string, or root")
	}
	for i := range p.Sides {
		p.Sides[i][0] ^= 1
		if Check(root, b, p) != api.ErrProof {
			t.Error("another side")
		}
		p.Sides[i][0] ^= 1
	}
	for _, q := range []Proof{
		{p.Place, p.Count, append([]api.Hash{{}}, p.Sides...)}, {-1, p.Count, p.Sides}, {p.Count, p.Count, p.Sides}, {p.Place, 0, p.Sides}, {p.Place, -1, p.Sides}, {p.Place, 1<<16 + 1, p.Sides}, {1 << 62, 1<<63 - 1, p.Sides},
	} {
		if Check(root, b, q) != api.ErrForm {
			t.Error("a proof that may not be", q)
		}
		if x, e := Put(q); x != nil || e != api.ErrForm {
			t.Error("is put", q)
		}
	}
	if len(p.Sides) > 0 && Check(root, b, Proof{p.Place, p.Count, p.Sides[1:]}) != api.ErrForm {
		t.Error("too few sides")
	}
	for place := range p.Count {
		if e := Check(root, b, Proof{place, p.Count, p.Sides}); place != p.Place && e == api.OK {
			t.Error("another place")
		}
	}
	for count := 1; count < p.Count+20; count++ {
		if e := Check(root, b, Proof{p.Place, count, p.Sides}); count != p.Count && e == api.OK {
			t.Error("another count")
		}
	}
}

func TestBytes(t *testing.T) { // P703
	for _, n := range []int{1, 2, 3, 6, 7, 13} {
		for place := range n {
			p, _ := Prove(place, texts(n)...)
			want := append(append(be(uint64(place)), be(uint64(n))...), be(uint64(len(p.Sides)))...)
			for _, h := range p.Sides {
				want = append(want, h[:]...)
			}
			b, e := Put(p)
			if e != 0 || !bytes.Equal(b, want) {
				t.Error(b, e)
			}
			if q, e := Get(b); e != 0 || !reflect.DeepEqual(p, q) {
				t.Error(q, e)
			}
			for _, bad := range [][]byte{b[:len(b)-1], append(b, 0), b[1:], append(be(uint64(n)), b[8:]...), append(append(be(uint64(place)), be(1<<16+1)...), b[16:]...), nil} {
				if q, e := Get(bad); e != api.ErrForm || !reflect.DeepEqual(q, Proof{}) {
					t.Error(bad, q, e)
				}
			}
		}
	}
	widest := Proof{1<<16 - 1, 1 << 16, make([]api.Hash, 16)}
	b, e := Put(widest)
	if q, e2 := Get(b); e != 0 || e2 != 0 || !reflect.DeepEqual(q, widest) {
		t.Error(e, e2)
	}
}

func TestApart(t *testing.T) { // P701
	room := texts(8)
	Root(room[:3]...)
	Prove(2, room[:3]...)
	if !reflect.DeepEqual(room, texts(8)) {
		t.Error("changed")
	}
}
