package fold

import (
	"math/rand"
	"reflect"
	"slices"
	"testing"

	"bascule/api"
	"bascule/chain"
	"bascule/derive"
	"bascule/inbox"
	"bascule/message"
	"bascule/state"
	"bascule/wide"
)

var rows = []chain.Row{{Who: 1, Balance: wide.Of(50)}, {Who: 2, Balance: wide.Of(50)}}

// blocks is a random row of blocks with deposits, and batches for numbers that are about theirs.
func blocks(r *rand.Rand, n int) []inbox.Block {
	x := inbox.New()
	nonce := [3]uint64{}
	for h := 1; h <= n; h++ {
		for range r.Intn(3) {
			target := []uint64{0, 1, 100, 101}[r.Intn(4)]
			x.Deposit(message.Message{Sender: 5, Target: target, Value: wide.Of(uint64(r.Intn(9))), Gas: 20, Data: []byte{1}})
		}
		for range r.Intn(3) {
			b := message.Batch{Epoch: uint64(max(0, h-r.Intn(3)))}
			for range r.Intn(4) {
				from := uint64(1 + r.Intn(2))
				b.Txs = append(b.Txs, message.Tx{Kind: message.Transfer, From: from, Nonce: nonce[from], To: uint64(r.Intn(5)), Value: wide.Of(uint64(r.Intn(20)))})
				if x := &b.Txs[len(b.Txs)-1]; r.Intn(2) == 0 {
					x.Kind, x.Data = message.Withdraw, []byte{3}
				}
				nonce[from] += uint64(r.Intn(2))
			}
			raw, _ := message.PutBatch(b)
			x.Post(raw)
		}
		x.Close()
	}
	var l []inbox.Block
	for h := 1; h <= n; h++ {
		b, _ := x.Block(h)
		l = append(l, b)
	}
	return l
}

func TestAgainstPlain(t *testing.T) { // P1502
	l := blocks(rand.New(rand.NewSource(1)), 14)
	m, e := New(2, rows...)
	if e != 0 || m.Number() != 0 {
		t.Fatal(e)
	}
	if n, e := m.Feed(l); n != 12 || e != 0 || m.Number() != 12 {
		t.Fatal(n, e)
	}
	s, _ := chain.Genesis(rows...)
	if r, ok := m.Root(0); r != s.Root() || !ok || m.Receipts(0) != nil {
		t.Error("genesis")
	}
	moved := 0
	for number, inputs := range derive.All(l, 2) {
		number++
		roots := []api.Hash{s.Root()}
		var receipts []api.Errno
		for i, x := range inputs {
			if b, ok := m.Before(number-1, number, i); !ok || b.Root() != s.Root() {
				t.Error("before", number, i)
			}
			receipts = append(receipts, chain.Apply(s, x))
			roots = append(roots, s.Root())
			moved++
		}
		root, ok := m.Root(number)
		out, ok2 := m.Output(number)
		st, ok3 := m.State(number)
		tr, ok4 := m.Trace(number-1, number)
		steps, ok5 := m.Steps(number-1, number)
		if !ok || !ok2 || !ok3 || !ok4 || !ok5 || root != s.Root() || out != chain.Output(uint64(number), root) || st.Root() != root || !slices.Equal(tr, roots) || !slices.Equal(m.Receipts(number), receipts) || len(steps) != len(inputs) || len(inputs) > 0 && !reflect.DeepEqual(steps, inputs) {
			t.Error("number", number)
		}
		if b, ok := m.Before(number-1, number, len(inputs)); !ok || b.Root() != root {
			t.Error("behind all", number)
		}
	}
	if moved < 10 {
		t.Error("too few inputs")
	}
}

func TestPieces(t *testing.T) { // P1503, P1504
	l := blocks(rand.New(rand.NewSource(2)), 12)
	all, _ := New(3, rows...)
	all.Feed(l)
	m, _ := New(3, rows...)
	for n := range len(l) + 1 {
		if k, e := m.Feed(l[:n]); k != derive.Known(n, 3) || e != 0 {
			t.Fatal(k, e)
		}
	}
	for from := range 10 {
		for to := from; to < 10; to++ {
			a, _ := all.Trace(from, to)
			b, ok := m.Trace(from, to)
			if !ok || !slices.Equal(a, b) {
				t.Error("pieces", from, to)
			}
			steps, _ := m.Steps(from, to)
			if len(a) != len(steps)+1 {
				t.Error("as many roots as steps, and one")
			}
			for i := range a {
				if s, ok := m.Before(from, to, i); !ok || s.Root() != a[i] {
					t.Error("before", from, to, i)
				}
			}
			for mid := from; mid <= to; mid++ {
				p, _ := m.Trace(from, mid)
				q, _ := m.Trace(mid, to)
				if !slices.Equal(a, append(p, q[1:]...)) {
					t.Error("parts", from, mid, to)
				}
			}
		}
	}
}

func TestFeedRefuses(t *testing.T) { // P1502
	l := blocks(rand.New(rand.NewSource(3)), 8)
	l[2].Deposits = append(l[2].Deposits, message.Message{Data: []byte{1}})
	l[3].Batches = append(l[3].Batches, []byte{1})
	m, _ := New(2)
	m.Feed(l[:6])
	other := func(change func(l []inbox.Block)) {
		t.Helper()
		var c []inbox.Block
		for _, b := range l {
			c = append(c, copied(b))
		}
		change(c)
		if n, e := m.Feed(c); n != 0 || e != api.ErrArg || m.Number() != 4 {
			t.Error(n, e)
		}
	}
	last := len(l[2].Deposits) - 1
	other(func(c []inbox.Block) { c[2].Deposits[last].Nonce++ })
	other(func(c []inbox.Block) { c[2].Deposits[last].Sender++ })
	other(func(c []inbox.Block) { c[2].Deposits[last].Target++ })
	other(func(c []inbox.Block) { c[2].Deposits[last].Value[3]++ })
	other(func(c []inbox.Block) { c[2].Deposits[last].Gas++ })
	other(func(c []inbox.Block) { c[2].Deposits[last].Data[0]++ })
	other(func(c []inbox.Block) { c[2].Deposits = c[2].Deposits[:last] })
	other(func(c []inbox.Block) { c[3].Batches[len(c[3].Batches)-1][0]++ })
	other(func(c []inbox.Block) { c[3].Batches = append(c[3].Batches, nil) })
	if n, e := m.Feed(l[:5]); n != 0 || e != api.ErrArg {
		t.Error(n, e)
	}
	if n, e := m.Feed(l); n != 6 || e != 0 {
		t.Error(n, e)
	}
	l[2].Deposits[last].Data[0] = 99
	if _, e := m.Feed(l); e != api.ErrArg {
		t.Error("what was handed in is kept", e)
	}
}

func TestNew(t *testing.T) { // P1502
	for _, window := range []int{-1, 0, 65} {
		if m, e := New(window); m != nil || e != api.ErrArg {
			t.Error(window, e)
		}
	}
	if m, e := New(1, chain.Row{Who: 0}); m != nil || e != api.ErrArg {
		t.Error(e)
	}
	if m, e := New(64); m == nil || e != 0 {
		t.Error(e)
	}
	m, _ := New(1)
	if n, e := m.Feed(make([]inbox.Block, 2)); n != 1 || e != 0 {
		t.Error(n, e)
	}
	wrong := []inbox.Block{{Deposits: []message.Message{{Gas: 1 << 40}}}, {}}
	m, _ = New(1)
	if n, e := m.Feed(wrong); n != 1 || e != 0 || !slices.Equal(m.Receipts(1), []api.Errno{api.ErrArg}) {
		t.Error("a message that may not be", n, e)
	}
}

func TestLooksRefuse(t *testing.T) { // P1501, P1502
	m, _ := New(2, rows...)
	m.Feed(blocks(rand.New(rand.NewSource(4)), 7))
	for _, n := range []int{-1 << 63, -1, 6, 1<<63 - 1} {
		s, ok := m.State(n)
		r, ok2 := m.Root(n)
		o, ok3 := m.Output(n)
		if s != nil || ok || r != (api.Hash{}) || ok2 || o != (api.Hash{}) || ok3 || m.Receipts(n) != nil {
			t.Error(n)
		}
	}
	for _, c := range [][2]int{{-1, 2}, {3, 2}, {2, 6}, {6, 6}, {-1 << 63, 1<<63 - 1}, {1<<63 - 1, 1<<63 - 1}} {
		a, ok := m.Steps(c[0], c[1])
		b, ok2 := m.Trace(c[0], c[1])
		s, ok3 := m.Before(c[0], c[1], 0)
		if a != nil || b != nil || s != nil || ok || ok2 || ok3 {
			t.Error(c)
		}
	}
	steps, _ := m.Steps(0, 5)
	for _, n := range []int{-1 << 63, -1, len(steps) + 1, 1<<63 - 1} {
		if s, ok := m.Before(0, 5, n); s != nil || ok {
			t.Error(n)
		}
	}
}

func TestApart(t *testing.T) { // P1501
	m, _ := New(2, rows...)
	m.Feed(blocks(rand.New(rand.NewSource(5)), 9))
	root, _ := m.Root(7)
	for _, s := range []func() *state.State{
		func() *state.State { s, _ := m.State(7); return s },
		func() *state.State { s, _ := m.State(0); return s },
		func() *state.State { s, _ := m.Before(0, 7, 0); return s },
	} {
		s().Set(9, state.Account{Nonce: 1})
		if s().Account(9).Nonce == 1 {
			t.Error("shared")
		}
	}
	steps, _ := m.Steps(0, 7)
	for i := range steps {
		clear(steps[i].Message.Data)
		clear(steps[i].Tx.Data)
	}
	tr, _ := m.Trace(0, 7)
	clear(tr)
	fresh, _ := New(2, rows...)
	fresh.Feed(blocks(rand.New(rand.NewSource(5)), 9))
	for n := range 8 {
		l := m.Receipts(n)
		for i := range l {
			l[i] = 77
		}
		if !slices.Equal(m.Receipts(n), fresh.Receipts(n)) {
			t.Error("shared", n)
		}
	}
	if again, _ := m.Trace(0, 7); again[len(again)-1] != root || root == (api.Hash{}) {
		t.Error("shared")
	}
	for _, x := range must(m.Steps(0, 7)) {
		if x.Deposit && x.Message.Data[0] != 1 || x.Tx.Kind == message.Withdraw && x.Tx.Data[0] != 3 {
			t.Error("shared")
		}
	}
}

func must(l []message.Input, ok bool) []message.Input { return l }

func TestNobodys(t *testing.T) { // P1501
	for _, m := range []*Model{nil, {}} {
		n, e := m.Feed(nil)
		s, ok := m.State(0)
		r, ok2 := m.Root(0)
		o, ok3 := m.Output(0)
		_, ok4 := m.Steps(0, 0)
		_, ok5 := m.Trace(0, 0)
		b, ok6 := m.Before(0, 0, 0)
		if n != 0 || e != api.ErrArg || m.Number() != 0 || s != nil || ok || r != (api.Hash{}) || ok2 || o != (api.Hash{}) || ok3 || ok4 || ok5 || b != nil || ok6 || m.Receipts(0) != nil {
			t.Error("a call")
		}
	}
}
