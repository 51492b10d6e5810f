package smt

import (
	"bytes"
	"math/rand"
	"slices"
	"testing"

	"bascule/api"
	"bascule/digest"
)

// plain reckons a node by the document's words alone, without anything kept.
func plain(l []Pair, level int) api.Hash {
	if len(l) == 0 {
		return api.Hash{}
	}
	if level == 256 {
		return Leaf(l[0].Key, l[0].Value)
	}
	var sides [2][]Pair
	for _, p := range l {
		b := p.Key[level/8] >> (7 - level%8) & 1
		sides[b] = append(sides[b], p)
	}
	return Above(plain(sides[0], level+1), plain(sides[1], level+1))
}

// plainProof goes down a key's way likewise.
func plainProof(l []Pair, key api.Hash) Proof {
	var p Proof
	for level := range 256 {
		var sides [2][]Pair
		for _, p := range l {
			b := p.Key[level/8] >> (7 - level%8) & 1
			sides[b] = append(sides[b], p)
		}
		way := key[level/8] >> (7 - level%8) & 1
		if h := plain(sides[1-way], level+1); h != (api.Hash{}) {
			p.Mask[level/8] |= 1 << (7 - level%8)
			p.Sides = append(p.Sides, h)
		}
		l = sides[way]
	}
	return p
}

func same(a, b Proof) bool { return a.Mask == b.Mask && slices.Equal(a.Sides, b.Sides) }

func TestNodes(t *testing.T) { // P502
	a, b, zero := api.Hash{1}, api.Hash{2}, api.Hash{}
	if Leaf(a, b) != digest.Tagged("leaf", a[:], b[:]) || Leaf(a, zero) != zero || Leaf(zero, b) != digest.Tagged("leaf", zero[:], b[:]) {
		t.Error("leaf")
	}
	if Above(a, b) != digest.Pair(a, b) || Above(zero, b) != digest.Pair(zero, b) || Above(a, zero) != digest.Pair(a, zero) || Above(zero, zero) != zero {
		t.Error("above")
	}
}

func TestAgainstPlain(t *testing.T) { // P502, P504
	r := rand.New(rand.NewSource(1))
	keys := []api.Hash{{}, {31: 1}, {31: 2}, {31: 3}, {0: 128}, {0: 128, 31: 1}, {15: 1}, {15: 1, 31: 255}, {0: 255, 31: 255}}
	for range 9 {
		var k api.Hash
		r.Read(k[:])
		keys = append(keys, k)
	}
	m, _ := New()
	kept := map[api.Hash]api.Hash{}
	for step := range 250 {
		k, v := keys[r.Intn(len(keys))], api.Hash{byte(r.Intn(3))}
		if e := m.Put(k, v); e != 0 {
			t.Fatal(e)
		}
		if kept[k] = v; v == (api.Hash{}) {
			delete(kept, k)
		}
		if step%5 > 0 {
			continue
		}
		l := sorted(kept)
		if m.Root() != plain(l, 0) || !slices.Equal(m.Pairs(), l) {
			t.Fatal("root or pairs", step)
		}
		q := keys[r.Intn(len(keys))]
		if !same(m.Prove(q), plainProof(l, q)) || m.Get(q) != kept[q] || m.Root() != plain(l, 0) {
			t.Fatal("proof", step)
		}
	}
}

func sorted(kept map[api.Hash]api.Hash) []Pair {
	l := []Pair{}
	for k, v := range kept {
		l = append(l, Pair{k, v})
	}
	slices.SortFunc(l, func(a, b Pair) int { return bytes.Compare(a.Key[:], b.Key[:]) })
	return l
}

// emptied answers a map of which the node at that depth on a key's way is kept as zero, as nobody knows strings whose digest is.
func emptied(l []Pair, key api.Hash, level int) *Map {
	m, _ := New(l...)
	n := m.top
	for n.fork < level {
		n = n.below[bit(key, n.fork)]
	}
	n.own, n.told = api.Hash{}, true
	return m
}

func TestZeroSide(t *testing.T) { // P502
	a, b, c := api.Hash{}, api.Hash{0: 128}, api.Hash{0: 144}
	l := []Pair{{a, api.Hash{1}}, {b, api.Hash{2}}, {c, api.Hash{3}}}
	sideA, sideB := plain(l[:1], 1), plain(l[1:2], 4)
	for i, x := range []struct {
		level int // of the node that is zero, on the way to c
		key   api.Hash
		want  Proof
	}{
		{256, b, Proof{api.Hash{128}, []api.Hash{sideA}}},
		{256, c, Proof{api.Hash{128 + 16}, []api.Hash{sideA, sideB}}},
		{256, api.Hash{0: 144, 31: 1}, Proof{api.Hash{128 + 16}, []api.Hash{sideA, sideB}}},
		{3, a, Proof{}},
		{3, api.Hash{0: 192}, Proof{api.Hash{128}, []api.Hash{sideA}}},
		{3, b, Proof{api.Hash{128 + 16}, []api.Hash{sideA, plain(l[2:], 4)}}},
	} {
		if p := emptied(l, c, x.level).Prove(x.key); !same(p, x.want) {
			t.Error(i, p)
		}
	}
}

func TestNew(t *testing.T) { // P502
	k, v := api.Hash{1}, api.Hash{2}
	if m, e := New(); e != 0 || m.Root() != (api.Hash{}) || len(m.Pairs()) != 0 {
		t.Error(e)
	}
	for _, l := range [][]Pair{{{k, v}, {k, v}}, {{k, api.Hash{}}, {k, v}}, {{k, api.Hash{}}, {api.Hash{}, v}, {k, api.Hash{}}}, make([]Pair, 4097)} {
		if m, e := New(l...); m != nil || e != api.ErrArg {
			t.Error(e)
		}
	}
	m, e := New(Pair{k, v}, Pair{v, api.Hash{}}, Pair{api.Hash{}, k})
	if e != 0 || !slices.Equal(m.Pairs(), []Pair{{api.Hash{}, k}, {k, v}}) || m.Get(v) != (api.Hash{}) {
		t.Error(e, m.Pairs())
	}
	n, _ := New()
	n.Put(k, k)
	n.Put(v, v)
	n.Put(api.Hash{}, k)
	n.Put(v, api.Hash{})
	n.Put(k, v)
	if n.Root() != m.Root() || !same(n.Prove(v), m.Prove(v)) { // P504
		t.Error("a trace")
	}
	n.Put(k, k)
	if n.Root() == m.Root() { // P503
		t.Error("another map, the same root")
	}
}

func TestFull(t *testing.T) { // P502
	l := make([]Pair, 4096)
	for i := range l {
		l[i] = Pair{api.Hash{byte(i), byte(i >> 8)}, api.Hash{1}}
	}
	m, e := New(l...)
	if e != 0 {
		t.Fatal(e)
	}
	more := api.Hash{31: 1}
	if m.Put(more, more) != api.ErrSize || m.Put(more, api.Hash{}) != 0 || m.Put(l[7].Key, more) != 0 || m.Get(l[7].Key) != more {
		t.Error("full")
	}
	if m.Put(l[9].Key, api.Hash{}) != 0 || m.Put(more, more) != 0 || m.Put(l[9].Key, more) != api.ErrSize || len(m.Pairs()) != 4096 {
		t.Error("room again")
	}
	if !slices.IsSortedFunc(m.Pairs(), func(a, b Pair) int { return bytes.Compare(a.Key[:], b.Key[:]) }) {
		t.Error("not rising")
	}
	n, _ := New(m.Pairs()...)
	if n.Root() != m.Root() {
		t.Error("root")
	}
}

func TestApart(t *testing.T) { // P501
	m, _ := New(Pair{api.Hash{1}, api.Hash{1}}, Pair{api.Hash{128}, api.Hash{1}})
	root := m.Root()
	p := m.Prove(api.Hash{1})
	p.Sides[0] = api.Hash{}
	m.Pairs()[0].Value = api.Hash{9}
	if m.Root() != root || m.Prove(api.Hash{1}).Sides[0] == (api.Hash{}) {
		t.Error("shared")
	}
}

func TestNobodys(t *testing.T) { // P501
	for _, m := range []*Map{nil, {}} {
		p := m.Prove(api.Hash{})
		if m.Put(api.Hash{}, api.Hash{}) != api.ErrArg || m.Get(api.Hash{}) != (api.Hash{}) || m.Root() != (api.Hash{}) || p.Mask != (api.Hash{}) || p.Sides != nil || m.Pairs() != nil {
			t.Error("a call")
		}
	}
}
