package witness

import (
	"bytes"
	"encoding/binary"
	"math/rand"
	"reflect"
	"testing"

	"bascule/api"
	"bascule/chain"
	"bascule/message"
	"bascule/proof"
	"bascule/smt"
	"bascule/state"
	"bascule/wide"
)

func msg(nonce, target, value, gas uint64) message.Message {
	return message.Message{Nonce: nonce, Sender: 9, Target: target, Value: wide.Of(value), Gas: gas}
}

func down(m message.Message) message.Input {
	return message.Input{Deposit: true, Mint: m.Value, Message: m}
}

func tx(kind int, from, nonce, to, value uint64) message.Input {
	return message.Input{Tx: message.Tx{Kind: kind, From: from, Nonce: nonce, To: to, Value: wide.Of(value)}}
}

func again(from, nonce uint64, m message.Message, gas uint64) message.Input {
	b, _ := message.PutMessage(m)
	return message.Input{Tx: message.Tx{Kind: message.Replay, From: from, Nonce: nonce, Gas: gas, Data: b}}
}

func begin() *state.State {
	s, _ := chain.Genesis(chain.Row{Who: 1, Balance: wide.Of(50)}, chain.Row{Who: 2, Balance: wide.Of(50)})
	return s
}

// inputs is a row of inputs of all kinds, refused ones among them.
func inputs() []message.Input {
	held := msg(1, 101, 6, 9)
	late := msg(2, 100, 6, 1)
	l := []message.Input{
		down(msg(0, 7, 5, 0)), down(held), down(msg(0, 7, 5, 0)), down(late), down(msg(3, 0, 1, 1)),
		tx(message.Transfer, 1, 0, 2, 5), tx(message.Transfer, 1, 0, 2, 5), tx(message.Transfer, 1, 1, 1, 5), tx(message.Transfer, 8, 0, 2, 5), tx(message.Transfer, 0, 0, 2, 5),
		tx(message.Withdraw, 1, 2, 33, 20), tx(message.Withdraw, 1, 3, 33, 99), tx(message.Withdraw, 2, 0, 0, 1),
		again(2, 1, held, 5), again(2, 2, late, 50), again(2, 3, late, 50), again(5, 0, msg(9, 9, 9, 9), 5), again(7, 0, msg(3, 0, 1, 1), 5),
		tx(message.Transfer, 1, 4, 2, 30), tx(message.Withdraw, 100, 0, 3, 6),
	}
	return l
}

func TestTheSame(t *testing.T) { // P1202, P1203, P1205
	s := begin()
	for i, x := range inputs() {
		root := s.Root()
		w, e := Make(s, x)
		if e != 0 || s.Root() != root {
			t.Fatal(i, e)
		}
		who, slots := chain.Touches(s, x)
		if len(w.Items) != len(who) || len(w.Slots) != len(slots) || len(w.Steps) != len(who)+len(slots) {
			t.Error(i, w)
		}
		for j, n := range who {
			if w.Items[j] != (Item{n, s.Account(n)}) || w.Steps[j].Key != state.Key(n) || w.Steps[j].Old != state.Value(s.Account(n)) {
				t.Error(i, j)
			}
		}
		for j, k := range slots {
			if w.Slots[j] != s.Slot(k) || w.Steps[len(who)+j].Key != k || w.Steps[len(who)+j].Old != s.Slot(k) {
				t.Error(i, j)
			}
		}
		if len(w.Steps) > 0 && !reflect.DeepEqual(w.Steps[0].Proof, s.Prove(w.Steps[0].Key)) {
			t.Error(i, "the first proof")
		}
		after := s.Clone()
		chain.Apply(after, x)
		if h, e := One(root, x, w); e != 0 || h != after.Root() {
			t.Error(i, h, e)
		}
		s = after
	}
}

func TestExample(t *testing.T) {
	w, e := Make(begin(), tx(message.Transfer, 1, 0, 2, 5))
	if e != 0 || len(w.Items) != 2 || len(w.Slots) != 0 || len(w.Steps) != 2 {
		t.Error(w, e)
	}
}

func TestMakeRefuses(t *testing.T) { // P1201, P1202
	for _, s := range []*state.State{nil, {}} {
		if w, e := Make(s, inputs()[0]); e != api.ErrArg || !reflect.DeepEqual(w, Witness{}) {
			t.Error(e)
		}
	}
	if w, e := Make(begin(), message.Input{}); e != api.ErrArg || !reflect.DeepEqual(w, Witness{}) {
		t.Error(e)
	}
	s := begin()
	for i := range uint64(4091) {
		s.Put(api.Hash{byte(i), byte(i >> 8)}, api.Hash{1})
	}
	if w, e := Make(s, inputs()[0]); e != api.ErrSize || !reflect.DeepEqual(w, Witness{}) {
		t.Error(e)
	}
	if _, e := Make(s, message.Input{}); e != api.ErrArg {
		t.Error(e)
	}
}

func TestOneRefuses(t *testing.T) { // P1203
	s := begin()
	x := tx(message.Withdraw, 1, 0, 33, 20)
	for i, c := range []struct {
		change func(w *Witness)
		want   api.Errno
	}{
		{func(w *Witness) {}, 0},
		{func(w *Witness) { w.Items[1].Account.Nonce = 3 }, api.ErrForm},
		{func(w *Witness) { w.Items[1].Who = 2 }, api.ErrForm},
		{func(w *Witness) { w.Items = w.Items[:1] }, api.ErrForm},
		{func(w *Witness) { w.Items = append(w.Items, Item{}) }, api.ErrForm},
		{func(w *Witness) { w.Items, w.Steps = append(w.Items, Item{}), append(w.Steps, w.Steps[0]) }, api.ErrForm},
		{func(w *Witness) {
			w.Items[0], w.Items[1], w.Steps[0], w.Steps[1] = w.Items[1], w.Items[0], w.Steps[1], w.Steps[0]
		}, api.ErrForm},
		{func(w *Witness) { w.Slots[0][3] = 1 }, api.ErrForm},
		{func(w *Witness) { w.Slots = nil }, api.ErrForm},
		{func(w *Witness) { w.Slots, w.Steps = nil, w.Steps[:2] }, api.ErrForm},
		{func(w *Witness) { w.Slots = append(w.Slots, api.Hash{}) }, api.ErrForm},
		{func(w *Witness) { w.Steps[2].Key[3]++ }, api.ErrForm},
		{func(w *Witness) { w.Steps[1].Key[3]++ }, api.ErrForm},
		{func(w *Witness) { w.Steps = w.Steps[:2] }, api.ErrForm},
		{func(w *Witness) { w.Steps[2].Proof.Mask = api.Hash{} }, api.ErrForm},
		{func(w *Witness) { w.Steps[2].Proof = smt.Proof{} }, api.ErrProof},
		{func(w *Witness) { w.Steps[1].Proof.Sides[0][1]++ }, api.ErrProof},
		{func(w *Witness) { // another account, with its own value
			w.Items[1].Account.Balance = wide.Of(99)
			w.Steps[1].Old = state.Value(w.Items[1].Account)
		}, api.ErrProof},
		{func(w *Witness) { *w = Witness{} }, api.ErrForm},
	} {
		w, _ := Make(s, x)
		c.change(&w)
		if h, e := One(s.Root(), x, w); e != c.want || e != 0 && h != (api.Hash{}) {
			t.Error(i, e)
		}
	}
	w, _ := Make(s, x)
	if h, e := One(api.Hash{}, x, w); e != api.ErrProof || h != (api.Hash{}) {
		t.Error(e)
	}
	if h, e := One(s.Root(), message.Input{}, w); e != api.ErrArg || h != (api.Hash{}) {
		t.Error(e)
	}
	if _, e := One(s.Root(), tx(message.Transfer, 1, 0, 2, 1), w); e != api.ErrForm {
		t.Error("another input", e)
	}
}

func TestSound(t *testing.T) { // P1206
	r := rand.New(rand.NewSource(1))
	s := begin()
	for _, x := range inputs() {
		after := s.Clone()
		chain.Apply(after, x)
		w, _ := Make(s, x)
		b, _ := Put(w)
		for range 20 {
			c := bytes.Clone(b)
			c[r.Intn(len(c))] ^= 1 << r.Intn(8)
			v, e := Get(c)
			if e != 0 {
				continue
			}
			if h, e := One(s.Root(), x, v); e == 0 && h != after.Root() {
				t.Error("another root")
			}
		}
		s = after
	}
}

func TestBytes(t *testing.T) { // P1204, P1207
	s := begin()
	for i, x := range inputs() {
		w, _ := Make(s, x)
		b, e := Put(w)
		var want []byte
		want = binary.BigEndian.AppendUint64(want, uint64(len(w.Items)))
		for _, item := range w.Items {
			want = binary.BigEndian.AppendUint64(want, item.Who)
			want = append(binary.BigEndian.AppendUint64(want, 168), state.Bytes(item.Account)...)
		}
		want = binary.BigEndian.AppendUint64(want, uint64(len(w.Slots)))
		for _, h := range w.Slots {
			want = append(want, h[:]...)
		}
		steps, _ := proof.Put(w.Steps...)
		want = append(binary.BigEndian.AppendUint64(want, uint64(len(steps))), steps...)
		if e != 0 || !bytes.Equal(b, want) {
			t.Error(i, e)
		}
		if v, e := Get(b); e != 0 || !reflect.DeepEqual(v, w) {
			t.Error(i, e)
		}
		for n := 0; n < len(b); n += 7 {
			if v, e := Get(b[:n]); e != api.ErrForm || !reflect.DeepEqual(v, Witness{}) {
				t.Error(i, n, e)
			}
		}
		if _, e := Get(append(b, 0)); e != api.ErrForm {
			t.Error(i, e)
		}
		chain.Apply(s, x)
	}
}

func TestBytesLimits(t *testing.T) { // P1204
	bad := proof.Step{Proof: smt.Proof{Mask: api.Hash{1}}}
	full := proof.Step{Proof: smt.Proof{Mask: api.Hash(bytes.Repeat([]byte{255}, 32))}}
	for range 256 {
		full.Proof.Sides = append(full.Proof.Sides, api.Hash{1})
	}
	var most []proof.Step
	for len(most) < 7 {
		most = append(most, full)
	}
	for i, c := range []struct {
		w    Witness
		want api.Errno
	}{
		{Witness{Items: make([]Item, 4), Slots: make([]api.Hash, 1), Steps: make([]proof.Step, 64)}, 0},
		{Witness{Items: make([]Item, 5), Steps: []proof.Step{bad}}, api.ErrForm},
		{Witness{Items: make([]Item, 5)}, api.ErrForm},
		{Witness{Slots: make([]api.Hash, 2)}, api.ErrForm},
		{Witness{Steps: []proof.Step{bad}}, api.ErrForm},
		{Witness{Steps: make([]proof.Step, 65)}, api.ErrSize},
		{Witness{Steps: most}, 0},
		{Witness{Steps: append(most[:7:7], full)}, api.ErrSize},
		{Witness{Steps: append(most[:7:7], make([]proof.Step, 57)...)}, 0},
	} {
		b, e := Put(c.w)
		if e != c.want || e != 0 && b != nil {
			t.Error(i, e)
		}
		if _, e := Get(b); (e == 0) != (c.want == 0) {
			t.Error("get", i, e)
		}
	}
	// Behind four items 64776 bytes of steps just fit.
	eight := proof.Step{Proof: smt.Proof{Mask: api.Hash{31: 255}, Sides: full.Proof.Sides[:8]}}
	w := Witness{Items: make([]Item, 4), Steps: append(most[:7:7], make([]proof.Step, 57)...)}
	w.Steps[10], w.Steps[20], w.Steps[30] = eight, eight, eight
	b, e := Put(w)
	if v, e2 := Get(b); e != 0 || len(b) != api.MaxBytes || e2 != 0 || len(v.Steps) != 64 {
		t.Error(e, len(b), e2)
	}
	w.Steps[40] = eight
	steps, _ := proof.Put(w.Steps...)
	head := b[:8+4*184+8]
	if v, e := Get(append(binary.BigEndian.AppendUint64(head[:len(head):len(head)], uint64(len(steps))), steps...)); e != api.ErrForm || v.Items != nil {
		t.Error("more bytes than Put tells", e)
	}
	five := append(make([]byte, 7), 5)
	for range 5 {
		five = append(five, b[8:8+184]...)
	}
	if _, e := Get(append(five, b[8+4*184:8+4*184+8]...)); e != api.ErrForm {
		t.Error("five items", e)
	}
	if _, e := proof.Put(w.Steps...); e != 0 {
		t.Error(e)
	}
	if b, e := Put(w); e != api.ErrSize || b != nil {
		t.Error(e)
	}
}
