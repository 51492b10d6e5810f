package inbox

import (
	"bytes"
	"reflect"
	"testing"

	"bascule/api"
	"bascule/digest"
	"bascule/lane"
	"bascule/message"
)

func msg(n uint64, data ...byte) message.Message {
	return message.Message{Nonce: 99, Sender: n, Target: 2, Value: api.Wide{n}, Gas: 3, Data: data}
}

func TestQueue(t *testing.T) { // P1302, P1303, P1304
	x := New()
	next := uint64(0)
	for block := range 5 {
		for i := range 2 * block {
			n, e := x.Deposit(msg(uint64(i), byte(block)))
			if i >= 8 {
				t.Fatal("too many")
			}
			if e != 0 || n != next {
				t.Error(n, e)
			}
			next++
		}
		if _, ok := x.Block(block + 1); ok || x.Height() != block || x.Queue() != next {
			t.Error("ahead of Close")
		}
		if n, e := x.Close(); n != block+1 || e != 0 {
			t.Error(n, e)
		}
	}
	next = 0
	for n := 1; n <= 5; n++ {
		b, ok := x.Block(n)
		if !ok || len(b.Deposits) != 2*(n-1) || len(b.Batches) != 0 {
			t.Error(n, b)
		}
		for i, m := range b.Deposits {
			want := msg(uint64(i), byte(n-1))
			want.Nonce = next
			if !reflect.DeepEqual(m, want) {
				t.Error(m)
			}
			next++
		}
	}
	for _, n := range []int{-1 << 63, -1, 0, 6, 1<<63 - 1} {
		if b, ok := x.Block(n); ok || b.Deposits != nil || b.Batches != nil {
			t.Error(n)
		}
	}
}

func TestLimits(t *testing.T) { // P1302
	x := New()
	for range 8 {
		x.Deposit(msg(1))
		x.Post([]byte{1})
	}
	bad := msg(1, make([]byte, 65)...)
	if n, e := x.Deposit(msg(1)); n != 0 || e != api.ErrSize || x.Queue() != 8 {
		t.Error(n, e)
	}
	if _, e := x.Deposit(bad); e != api.ErrArg {
		t.Error(e)
	}
	if e := x.Post(nil); e != api.ErrSize {
		t.Error(e)
	}
	x.Close()
	bad = msg(1)
	bad.Gas = api.MaxGas + 1
	if _, e := x.Deposit(bad); e != api.ErrArg || x.Queue() != 8 {
		t.Error(e)
	}
	if x.Post(make([]byte, 4097)) != api.ErrSize || x.Post(make([]byte, 4096)) != 0 || x.Post(nil) != 0 {
		t.Error("post")
	}
	if n, e := x.Deposit(msg(1)); n != 8 || e != 0 {
		t.Error(n, e)
	}
	for n := 2; n <= 4096; n++ {
		if h, e := x.Close(); h != n || e != 0 {
			t.Fatal(h, e)
		}
	}
	x.Post([]byte{7})
	if n, e := x.Close(); n != 0 || e != api.ErrSize || x.Height() != 4096 {
		t.Error(n, e)
	}
	if b, _ := x.Block(2); len(b.Batches) != 2 || len(b.Batches[0]) != 4096 || len(b.Batches[1]) != 0 || len(b.Deposits) != 1 {
		t.Error("block 2")
	}
}

func TestApart(t *testing.T) { // P1301, P1302, P1303
	x := New()
	data, batch := []byte{5}, []byte{6}
	x.Deposit(msg(1, data...))
	m := msg(2)
	m.Data = data
	x.Deposit(m)
	x.Post(batch)
	data[0], batch[0] = 9, 9
	c := x.Clone()
	x.Deposit(msg(3))
	c.Post([]byte{7})
	x.Close()
	c.Close()
	b, _ := x.Block(1)
	d, _ := c.Block(1)
	if len(b.Deposits) != 3 || len(d.Deposits) != 2 || len(b.Batches) != 1 || len(d.Batches) != 2 || b.Deposits[1].Data[0] != 5 || b.Batches[0][0] != 6 || d.Batches[1][0] != 7 || x.Queue() != 3 || c.Queue() != 2 {
		t.Error(b, d)
	}
	b.Deposits[1].Data[0], b.Batches[0][0] = 1, 1
	if b, _ := x.Block(1); b.Deposits[1].Data[0] != 5 || b.Batches[0][0] != 6 || Digest(b) == Digest(d) {
		t.Error("shared")
	}
	y := x.Clone()
	x.Deposit(msg(4))
	x.Close()
	y.Post([]byte{8})
	y.Close()
	b, _ = x.Block(2)
	d, _ = y.Block(2)
	if len(b.Deposits) != 1 || len(b.Batches) != 0 || len(d.Deposits) != 0 || len(d.Batches) != 1 {
		t.Error("closed apart")
	}
}

func TestDigest(t *testing.T) { // P1301, P1302
	m := msg(1, 2, 3)
	raw, _ := message.PutMessage(m)
	b := Block{Deposits: []message.Message{m, m}, Batches: [][]byte{{1}, nil}}
	p, q := lane.Root(raw, raw), lane.Root([]byte{1}, nil)
	if Digest(b) != digest.Tagged("block", p[:], q[:]) {
		t.Error("digest")
	}
	p = lane.Root()
	if Digest(Block{}) != digest.Tagged("block", p[:], p[:]) {
		t.Error("of an empty block")
	}
	long := msg(1, bytes.Repeat([]byte{1}, 70000)...)
	seen := map[api.Hash]bool{}
	for _, b := range []Block{{Deposits: []message.Message{long}}, {Deposits: []message.Message{msg(1, long.Data[1:]...)}}, {Batches: [][]byte{nil}}, {Batches: [][]byte{nil, nil}}, {Deposits: []message.Message{{Gas: 1 << 40}}}, {}} {
		if seen[Digest(b)] {
			t.Error("a digest twice")
		}
		seen[Digest(b)] = true
	}
}

func TestNobodys(t *testing.T) { // P1301
	for _, x := range []*Inbox{nil, {}} {
		n, e := x.Deposit(msg(1))
		h, e2 := x.Close()
		b, ok := x.Block(1)
		if n != 0 || e != api.ErrArg || x.Post(nil) != api.ErrArg || h != 0 || e2 != api.ErrArg || x.Height() != 0 || ok || b.Deposits != nil || x.Queue() != 0 || x.Clone() != nil {
			t.Error("a call")
		}
	}
}
