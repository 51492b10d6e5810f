package derive

import (
	"math/rand"
	"reflect"
	"testing"

	"bascule/api"
	"bascule/inbox"
	"bascule/message"
)

func batch(t *testing.T, epoch uint64, nonces ...uint64) []byte {
	t.Helper()
	x := message.Batch{Epoch: epoch}
	for _, n := range nonces {
		x.Txs = append(x.Txs, message.Tx{Kind: message.Withdraw, From: 1, Nonce: n, Data: []byte{1}})
	}
	b, e := message.PutBatch(x)
	if e != 0 {
		t.Fatal(e)
	}
	return b
}

func deposit(n uint64) message.Message {
	return message.Message{Nonce: n, Value: api.Wide{n, 1}, Data: []byte{byte(n)}}
}

// nonces answers what inputs there are: deposits as 1000 and more.
func nonces(l []message.Input) []uint64 {
	out := []uint64{}
	for _, x := range l {
		if x.Deposit {
			out = append(out, 1000+x.Message.Nonce)
			continue
		}
		out = append(out, x.Tx.Nonce)
	}
	return out
}

func TestKnown(t *testing.T) { // P1401, P1402
	for _, c := range [][3]int{{0, 1, 0}, {1, 1, 0}, {2, 1, 1}, {5, 3, 2}, {64, 64, 0}, {65, 64, 1}, {100, 65, 0}, {100, 0, 0}, {100, -1, 0}, {-1 << 63, 64, 0}, {-5, 1, 0}, {1<<63 - 1, 1, 1<<63 - 2}} {
		if n := Known(c[0], c[1]); n != c[2] {
			t.Error(c, n)
		}
	}
}

func TestFind(t *testing.T) { // P1402, P1405
	l := []inbox.Block{
		{Batches: [][]byte{batch(t, 1, 90)}}, // of its own block: too early
		{Batches: [][]byte{{1, 2}, batch(t, 2, 91), batch(t, 7), nil, batch(t, 1, 5), batch(t, 1, 6)}},
		{Batches: [][]byte{batch(t, 1, 92)}},
		{Batches: [][]byte{batch(t, 2, 7)}},
		{Batches: [][]byte{batch(t, 2, 93), batch(t, 3, 94), batch(t, 1<<63+4)}},
		{}, {},
	}
	for _, c := range []struct {
		number, window, block, place int
		found                        bool
	}{
		{1, 1, 2, 4, true}, {1, 3, 2, 4, true}, {2, 1, 0, 0, false}, {2, 2, 4, 0, true}, {2, 64, 4, 0, true}, {3, 1, 0, 0, false}, {3, 2, 5, 1, true}, {4, 3, 0, 0, false},
		{0, 3, 0, 0, false}, {-1, 3, 0, 0, false}, {-1 << 63, 3, 0, 0, false}, {7, 3, 0, 0, false}, {8, 3, 0, 0, false}, {1<<63 - 1, 64, 0, 0, false},
		{1, 0, 0, 0, false}, {1, 65, 0, 0, false}, {1, -1, 0, 0, false},
	} {
		if block, place, found := Find(l, c.number, c.window); block != c.block || place != c.place || found != c.found {
			t.Error(c, block, place, found)
		}
	}
	if b, p, ok := Find(nil, 1, 1); b != 0 || p != 0 || ok {
		t.Error("nothing")
	}
}

func TestInputs(t *testing.T) { // P1401, P1402, P1404
	l := []inbox.Block{
		{Deposits: []message.Message{deposit(0), deposit(1)}},
		{Batches: [][]byte{batch(t, 1, 4, 5)}},
		{Deposits: []message.Message{deposit(2)}},
		{Batches: [][]byte{batch(t, 3, 6)}},
		{},
	}
	for number, want := range map[int][]uint64{1: {1000, 1001, 4, 5}, 2: {}, 3: {1002, 6}} {
		in, e := Inputs(l, number, 2)
		if e != 0 || !reflect.DeepEqual(nonces(in), want) {
			t.Error(number, in, e)
		}
		for _, x := range in {
			if x.Deposit && x.Mint != x.Message.Value || !message.RightInput(x) {
				t.Error(x)
			}
		}
	}
	for _, number := range []int{-1 << 63, -1, 0, 4, 5, 6, 1<<63 - 1} {
		if in, e := Inputs(l, number, 2); in != nil || e != api.ErrNone {
			t.Error(number, in, e)
		}
	}
	for _, window := range []int{-1, 0, 65} {
		if in, e := Inputs(l, 1, window); in != nil || e != api.ErrArg || All(l, window) != nil {
			t.Error(window, in, e)
		}
	}
	in, _ := Inputs(l, 1, 2)
	in[0].Message.Data[0] = 77
	in[2].Tx.Data[0] = 77
	if in, _ := Inputs(l, 1, 2); in[0].Message.Data[0] != 0 || in[2].Tx.Data[0] != 1 {
		t.Error("shared")
	}
}

func TestPrefixes(t *testing.T) { // P1403, P1404, P1405
	r := rand.New(rand.NewSource(1))
	for range 20 {
		window := 1 + r.Intn(4)
		var l []inbox.Block
		queue := uint64(0)
		for range 15 {
			var b inbox.Block
			for range r.Intn(3) {
				b.Deposits = append(b.Deposits, deposit(queue))
				queue++
			}
			for range r.Intn(4) {
				b.Batches = append(b.Batches, batch(t, uint64(r.Intn(len(l)+3)), r.Uint64()%1000))
			}
			l = append(l, b)
		}
		all := All(l, window)
		next := uint64(1000)
		for n, in := range all {
			deposits := 0
			for _, x := range in {
				if x.Deposit {
					if x.Message.Nonce != next-1000 {
						t.Error("not in order")
					}
					next++
					deposits++
				}
			}
			if deposits != len(l[n].Deposits) {
				t.Error("another number's")
			}
		}
		for n := range len(l) + 1 {
			some := All(l[:n], window)
			if len(some) != Known(n, window) || len(some) > 0 && !reflect.DeepEqual(some, all[:len(some)]) {
				t.Error("what was known is another now", n)
			}
		}
	}
}
