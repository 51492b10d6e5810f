package proof

import (
	"bytes"
	"encoding/binary"
	"math/rand"
	"reflect"
	"testing"

	"bascule/api"
	"bascule/smt"
)

func random(r *rand.Rand) (h api.Hash) {
	r.Read(h[:])
	return h
}

// filled is a map with some keys, of which two part at the last bit.
func filled(r *rand.Rand) (*smt.Map, []api.Hash) {
	keys := []api.Hash{{}, {31: 1}, {0: 128}}
	for range 9 {
		keys = append(keys, random(r))
	}
	m, _ := smt.New()
	for _, k := range keys {
		m.Put(k, random(r))
	}
	return m, append(keys, random(r), api.Hash{31: 2})
}

func TestRight(t *testing.T) { // P602
	one := api.Hash{1}
	for i, c := range []struct {
		p    smt.Proof
		want bool
	}{
		{smt.Proof{}, true},
		{smt.Proof{Sides: []api.Hash{}}, true},
		{smt.Proof{Mask: api.Hash{3, 31: 1}, Sides: []api.Hash{one, one, one}}, true},
		{smt.Proof{Mask: api.Hash{3, 31: 1}, Sides: []api.Hash{one, one}}, false},
		{smt.Proof{Mask: api.Hash{3}, Sides: []api.Hash{one, {}}}, false},
		{smt.Proof{Sides: []api.Hash{one}}, false},
	} {
		_, e := Root(one, one, c.p)
		if Right(c.p) != c.want || (e == 0) != c.want || !c.want && e != api.ErrForm {
			t.Error(i, e)
		}
	}
}

func TestMapsProofs(t *testing.T) { // P602, P604, P605
	r := rand.New(rand.NewSource(1))
	m, keys := filled(r)
	for _, k := range keys {
		root, value, p := m.Root(), m.Get(k), m.Prove(k)
		if h, e := Root(k, value, p); h != root || e != 0 || !Check(root, k, value, p) {
			t.Error("it does not check", k)
		}
		for _, other := range []api.Hash{{}, {1}, random(r)} {
			if other != value && Check(root, k, other, p) {
				t.Error("another value checks", k)
			}
			if _, e := Update(root, k, other, value, p); other != value && e != api.ErrProof {
				t.Error("update of another value", e)
			}
		}
		if Check(random(r), k, value, p) || Check(root, random(r), value, p) {
			t.Error("another root or key checks")
		}
		now := random(r)
		if len(p.Sides)%2 == 1 {
			now = api.Hash{}
		}
		h, e := Update(root, k, value, now, p)
		m.Put(k, now)
		if e != 0 || h != m.Root() {
			t.Error("update", k, e)
		}
		if len(p.Sides) > 0 {
			p.Sides[0][5] ^= 1
			if Check(m.Root(), k, now, p) {
				t.Error("another proof checks")
			}
		}
	}
}

func TestUpdate(t *testing.T) { // P602
	k, v := api.Hash{5}, api.Hash{6}
	m, _ := smt.New(smt.Pair{Key: k, Value: v})
	if h, e := Update(api.Hash{}, k, api.Hash{}, v, smt.Proof{}); h != m.Root() || e != 0 {
		t.Error(h, e)
	}
	if h, e := Update(m.Root(), k, v, api.Hash{}, smt.Proof{}); h != (api.Hash{}) || e != 0 {
		t.Error(h, e)
	}
	bad := smt.Proof{Mask: api.Hash{1}}
	if h, e := Update(api.Hash{}, k, v, v, bad); h != (api.Hash{}) || e != api.ErrForm {
		t.Error(h, e)
	}
	if Check(api.Hash{}, k, api.Hash{}, bad) {
		t.Error("a wrong proof checks the zero root")
	}
}

// walked is a row of changes of a map, with its steps and new values.
func walked(r *rand.Rand) (root api.Hash, l []Step, now []api.Hash, last api.Hash) {
	m, keys := filled(r)
	root = m.Root()
	for _, k := range keys {
		l = append(l, Step{k, m.Get(k), m.Prove(k)})
		now = append(now, random(r))
		m.Put(k, now[len(now)-1])
	}
	return root, l, now, m.Root()
}

func TestWalk(t *testing.T) { // P602
	root, l, now, last := walked(rand.New(rand.NewSource(2)))
	if h, e := Walk(root, l, now); h != last || e != 0 {
		t.Error(h, e)
	}
	if h, e := Walk(root, nil, nil); h != root || e != 0 {
		t.Error(h, e)
	}
	if h, e := Walk(root, l, now[1:]); h != (api.Hash{}) || e != api.ErrArg {
		t.Error(h, e)
	}
	l[3].Old[0]++
	l[5].Proof.Mask = api.Hash{}
	if h, e := Walk(root, l, now); h != (api.Hash{}) || e != api.ErrProof {
		t.Error(h, e)
	}
	l[3].Old[0]--
	if h, e := Walk(root, l, now); h != (api.Hash{}) || e != api.ErrForm {
		t.Error(h, e)
	}
}

func TestBytes(t *testing.T) { // P603, P606
	_, l, _, _ := walked(rand.New(rand.NewSource(3)))
	b, e := Put(l...)
	want := binary.BigEndian.AppendUint64(nil, uint64(len(l)))
	for _, s := range l {
		want = append(append(append(want, s.Key[:]...), s.Old[:]...), s.Proof.Mask[:]...)
		want = binary.BigEndian.AppendUint64(want, uint64(len(s.Proof.Sides)))
		for _, h := range s.Proof.Sides {
			want = append(want, h[:]...)
		}
	}
	if e != 0 || !bytes.Equal(b, want) {
		t.Error(e)
	}
	if got, e := Get(b); e != 0 || !reflect.DeepEqual(got, l) {
		t.Error(e)
	}
	for n := range b {
		if got, e := Get(b[:n]); got != nil || e != api.ErrForm {
			t.Fatal(n, e)
		}
	}
	if got, e := Get(append(b, 0)); got != nil || e != api.ErrForm {
		t.Error(e)
	}
	b, e = Put()
	if got, e2 := Get(b); len(b) != 8 || e != 0 || len(got) != 0 || e2 != 0 {
		t.Error(e, e2)
	}
}

func TestBytesLimits(t *testing.T) { // P603
	if b, e := Put(make([]Step, 64)...); e != 0 || len(b) != 8+64*104 {
		t.Error(e)
	}
	bad := Step{Proof: smt.Proof{Mask: api.Hash{1}}}
	if b, e := Put(append(make([]Step, 64), bad)...); b != nil || e != api.ErrSize {
		t.Error(e)
	}
	if b, e := Put(Step{}, bad); b != nil || e != api.ErrForm {
		t.Error(e)
	}
	full := Step{Proof: smt.Proof{Mask: api.Hash(bytes.Repeat([]byte{255}, 32)), Sides: make([]api.Hash, 256)}}
	for i := range full.Proof.Sides {
		full.Proof.Sides[i] = api.Hash{1}
	}
	seven := []Step{full, full, full, full, full, full, full}
	b, e := Put(seven...)
	if e != 0 {
		t.Error(e)
	}
	if x, e := Put(append(seven, full)...); x != nil || e != api.ErrSize {
		t.Error(e)
	}
	long := append(append([]byte{7: 8}, b[8:]...), b[8:8+104+8192]...)
	if x, e := Get(long); x != nil || e != api.ErrForm {
		t.Error("more bytes than Put tells", e)
	}
	most := make([]Step, 63) // with 1843 sides they have just MaxBytes
	for i := range 7 {
		most[i] = full
	}
	for i := range most[8].Proof.Mask[:6] {
		most[8].Proof.Mask[i] = 255
	}
	most[8].Proof.Mask[6] = 7
	most[8].Proof.Sides = full.Proof.Sides[:51]
	b, e = Put(most...)
	if x, e2 := Get(b); e != 0 || len(b) != api.MaxBytes || e2 != 0 || len(x) != 63 {
		t.Error("as many bytes as there may be", e, len(b), e2)
	}
	some := binary.BigEndian.AppendUint64(nil, 65)
	if x, e := Get(append(some, make([]byte, 65*104)...)); x != nil || e != api.ErrForm {
		t.Error("more steps than Put takes", e)
	}
	zero, _ := Put(Step{Proof: smt.Proof{Mask: api.Hash{1}, Sides: []api.Hash{{9}}}})
	clear(zero[len(zero)-32:])
	if x, e := Get(zero); x != nil || e != api.ErrForm {
		t.Error("a zero side", e)
	}
}
