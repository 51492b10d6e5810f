package ground

import (
	"math/rand"
	"reflect"
	"testing"

	"bascule/api"
	"bascule/chain"
	"bascule/derive"
	"bascule/fold"
	"bascule/inbox"
	"bascule/message"
	"bascule/oracle"
	"bascule/portal"
	"bascule/smt"
	"bascule/state"
	"bascule/wide"
	"bascule/witness"
)

// config: a window of 1, a wait of 3, clocks of 3, bonds of 10.
var config = Config{1, 3, 3, 10}

func begin(t *testing.T, funds uint64) *Ground {
	t.Helper()
	var l []chain.Row
	for who := uint64(1); who <= 6; who++ {
		l = append(l, chain.Row{Who: who, Balance: wide.Of(funds)})
	}
	g, e := New(config, l...)
	if e != 0 {
		t.Fatal(e)
	}
	return g
}

// looks is how a ground's contracts stand, to hold against later ones.
type looks struct {
	oracle *oracle.Oracle
	portal *portal.Portal
	queue  uint64
	open   *inbox.Inbox
}

func look(g *Ground) looks {
	open := g.inbox.Clone()
	open.Close()
	return looks{g.Oracle(), g.Portal(), g.inbox.Queue(), open}
}

func sameLooks(a, b looks) bool {
	x, _ := a.open.Block(a.open.Height())
	y, _ := b.open.Block(b.open.Height())
	return reflect.DeepEqual(a.oracle, b.oracle) && reflect.DeepEqual(a.portal, b.portal) && a.queue == b.queue && reflect.DeepEqual(x, y)
}

// do does a Tx with the right nonce, and looks at what holds behind each.
func do(t *testing.T, g *Ground, x Tx, want api.Errno) {
	t.Helper()
	x.Nonce = g.Account(x.From).Nonce
	before, total := look(g), sum(g)
	after := g.accounts.Clone()
	fee := ledger{after}
	a := after.Account(x.From)
	a.Nonce++
	after.Set(x.From, a)
	fee.move(x.From, Fees, wide.Of(1))
	e := g.Do(x)
	if e != want {
		t.Error("answer", e, want)
	}
	heldNow := x.Kind == Relay && g.portal.Status(x.Message) == chain.Held
	if e != 0 && !heldNow && (g.Root() != after.Root() || !sameLooks(before, look(g))) { // P2006
		t.Error("an error changes something")
	}
	holds(t, g, total)
}

func sum(g *Ground) api.Wide {
	n, _ := g.Total()
	return n
}

// holds looks at P2005 and P2007.
func holds(t *testing.T, g *Ground, total api.Wide) {
	t.Helper()
	if sum(g) != total {
		t.Error("value")
	}
	worth, _ := wide.Mul(wide.Of(uint64(g.oracle.Bonds())), wide.Of(g.config.Bond))
	if g.Account(Bonds).Balance != worth || len(g.oracle.Pays()) != 0 {
		t.Error("bonds")
	}
}

func closed(t *testing.T, g *Ground, times int) {
	t.Helper()
	for range times {
		h := g.Height()
		if n, e := g.Close(); n != h+1 || e != 0 || g.Height() != n || g.Now() != n+1 || g.Known() != derive.Known(n, g.config.Window) {
			t.Fatal(n, e)
		}
	}
}

func has(t *testing.T, g *Ground, who, want uint64) {
	t.Helper()
	if b := g.Account(who).Balance; b != wide.Of(want) {
		t.Error("balance", who, b, want)
	}
}

func TestNew(t *testing.T) { // P2002
	for i, c := range []struct {
		c Config
		l []chain.Row
	}{
		{Config{0, 1, 1, 1}, nil}, {Config{65, 1, 1, 1}, nil}, {Config{-1, 1, 1, 1}, nil}, {Config{1, 0, 1, 1}, nil}, {Config{1, 1<<20 + 1, 1, 1}, nil}, {Config{1, 1, 0, 1}, nil}, {Config{1, 1, 1<<20 + 1, 1}, nil},
		{config, []chain.Row{{Who: 0}}}, {config, []chain.Row{{Who: Bonds}}}, {config, []chain.Row{{Who: Fees}}}, {config, []chain.Row{{Who: 100}}}, {config, []chain.Row{{Who: 1}, {Who: 1}}},
	} {
		if g, e := New(c.c, c.l...); g != nil || e != api.ErrArg {
			t.Error(i, e)
		}
	}
	g, e := New(Config{64, 1 << 20, 1 << 20, 1<<64 - 1}, chain.Row{Who: 1, Balance: wide.Of(5)})
	n, root := g.Oracle().Final()
	if e != 0 || g.Height() != 0 || g.Now() != 1 || g.Known() != 0 || n != 0 || root != (api.Hash{}) || len(g.Blocks()) != 0 || g.Root() == (api.Hash{}) {
		t.Error(e)
	}
}

func TestFees(t *testing.T) { // P2003
	g := begin(t, 50)
	root := g.Root()
	last := state.Account{Nonce: ^uint64(0), Balance: wide.Of(5)}
	for i, c := range []struct {
		x    Tx
		want api.Errno
	}{
		{Tx{Kind: 0, From: 0}, api.ErrArg}, {Tx{Kind: 13, From: 1}, api.ErrArg}, {Tx{Kind: -1, From: 1}, api.ErrArg},
		{Tx{Kind: Pay, From: 0, Nonce: 9}, api.ErrTarget}, {Tx{Kind: Pay, From: Bonds}, api.ErrTarget}, {Tx{Kind: Pay, From: Fees}, api.ErrTarget},
		{Tx{Kind: Pay, From: 1, Nonce: 1}, api.ErrNonce}, {Tx{Kind: Pay, From: 9}, api.ErrFunds}, {Tx{Kind: Pay, From: 9, Nonce: 1}, api.ErrNonce},
	} {
		if e := g.Do(c.x); e != c.want || g.Root() != root {
			t.Error(i, e)
		}
	}
	g.accounts.Set(7, last)
	if e := g.Do(Tx{Kind: Pay, From: 7, Nonce: ^uint64(0), To: 1}); e != api.ErrOver || g.Account(7) != last {
		t.Error(e)
	}
	do(t, g, Tx{Kind: Pay, From: 1, To: 2, Value: wide.Of(9)}, 0)
	has(t, g, 1, 40)
	has(t, g, 2, 59)
	has(t, g, Fees, 1)
	if g.Account(1).Nonce != 1 || g.Account(2).Nonce != 0 {
		t.Error("nonce")
	}
}

func TestPay(t *testing.T) { // P2003
	g := begin(t, 50)
	do(t, g, Tx{Kind: Pay, From: 1, To: 0, Value: wide.Of(1)}, api.ErrTarget)
	do(t, g, Tx{Kind: Pay, From: 1, To: Bonds, Value: wide.Of(99)}, api.ErrTarget)
	do(t, g, Tx{Kind: Pay, From: 1, To: Fees}, api.ErrTarget)
	do(t, g, Tx{Kind: Pay, From: 1, To: 2, Value: wide.Of(47)}, api.ErrFunds) // the fee is gone
	do(t, g, Tx{Kind: Pay, From: 1, To: 1, Value: wide.Of(46)}, api.ErrFunds)
	do(t, g, Tx{Kind: Pay, From: 1, To: 1, Value: wide.Of(44)}, 0)
	do(t, g, Tx{Kind: Pay, From: 1, To: 100, Value: wide.Of(3)}, 0)
	do(t, g, Tx{Kind: Pay, From: 1, To: 77, Value: wide.Of(39)}, 0)
	has(t, g, 1, 0)
	has(t, g, 77, 39)
	has(t, g, 100, 3)
	if e := g.Do(Tx{Kind: Pay, From: 1, Nonce: 8, To: 2}); e != api.ErrFunds || g.Account(1).Nonce != 8 {
		t.Error(e)
	}
	g.accounts.Set(8, state.Account{Balance: api.Wide{^uint64(0), ^uint64(0), ^uint64(0), ^uint64(0)}})
	e := g.Do(Tx{Kind: Pay, From: 2, To: 8, Value: wide.Of(1)})
	if e != api.ErrOver {
		t.Error(e)
	}
	has(t, g, 2, 49)
}

func TestDeposit(t *testing.T) { // P2003, P2007
	g := begin(t, 500)
	do(t, g, Tx{Kind: Deposit, From: 1, To: 7, Value: wide.Of(5), Gas: 3, Data: []byte{1}}, 0)
	has(t, g, 0, 5)
	has(t, g, 1, 494)
	do(t, g, Tx{Kind: Deposit, From: 1, Value: wide.Of(999), Gas: api.MaxGas + 1}, api.ErrArg)
	do(t, g, Tx{Kind: Deposit, From: 1, Data: make([]byte, 65)}, api.ErrArg)
	do(t, g, Tx{Kind: Deposit, From: 1, Value: wide.Of(999)}, api.ErrFunds)
	for range 7 {
		do(t, g, Tx{Kind: Deposit, From: 1, To: 0, Value: wide.Of(1)}, 0)
	}
	do(t, g, Tx{Kind: Deposit, From: 1, Value: wide.Of(999)}, api.ErrSize)
	do(t, g, Tx{Kind: Deposit, From: 1, Value: wide.Of(999), Gas: api.MaxGas + 1}, api.ErrArg)
	closed(t, g, 1)
	do(t, g, Tx{Kind: Deposit, From: 2}, 0)
	closed(t, g, 1)
	b := g.Blocks()
	want := message.Message{Nonce: 0, Sender: 1, Target: 7, Value: wide.Of(5), Gas: 3, Data: []byte{1}}
	if len(b) != 2 || len(b[0].Deposits) != 8 || !reflect.DeepEqual(b[0].Deposits[0], want) || b[1].Deposits[0].Nonce != 8 || b[1].Deposits[0].Sender != 2 {
		t.Error(b)
	}
	b[0].Deposits[0].Data[0] = 9
	if g.Blocks()[0].Deposits[0].Data[0] != 1 {
		t.Error("shared")
	}
}

func TestBatch(t *testing.T) { // P2003
	g := begin(t, 500)
	do(t, g, Tx{Kind: Batch, From: 1, Data: make([]byte, 4097)}, api.ErrSize)
	for range 8 {
		do(t, g, Tx{Kind: Batch, From: 1, Data: []byte{7}}, 0)
	}
	do(t, g, Tx{Kind: Batch, From: 1}, api.ErrSize)
	closed(t, g, 1)
	if b := g.Blocks()[0].Batches; len(b) != 8 || len(b[0]) != 1 || b[0][0] != 7 {
		t.Error(b)
	}
}

// batch is a batch of transfers of the second chain, of account 7.
func batch(epoch uint64, nonces ...uint64) []byte {
	x := message.Batch{Epoch: epoch}
	for _, n := range nonces {
		x.Txs = append(x.Txs, message.Tx{Kind: message.Withdraw, From: 7, Nonce: n, To: 8 + 93*n, Value: wide.Of(2), Gas: 1})
	}
	b, _ := message.PutBatch(x)
	return b
}

// started is a ground with a deposit of 20 to 7 in block 1, and withdraws of 7 in its batch; heights 1 and 2 are closed.
func started(t *testing.T) (*Ground, *fold.Model) {
	t.Helper()
	g := begin(t, 500)
	do(t, g, Tx{Kind: Deposit, From: 1, To: 7, Value: wide.Of(20)}, 0)
	closed(t, g, 1)
	do(t, g, Tx{Kind: Batch, From: 1, Data: batch(1, 0, 1)}, 0)
	closed(t, g, 1)
	m, _ := fold.New(1)
	m.Feed(g.Blocks())
	return g, m
}

func TestPropose(t *testing.T) { // P2003
	g, m := started(t)
	root, _ := m.Root(1)
	do(t, g, Tx{Kind: Propose, From: 2, N: 2, Root: root}, api.ErrEarly)
	do(t, g, Tx{Kind: Propose, From: 2, N: 0, Root: root}, api.ErrArg)
	do(t, g, Tx{Kind: Propose, From: 2, N: -1 << 63, Root: root}, api.ErrArg)
	do(t, g, Tx{Kind: Propose, From: 2, N: 1, Root: root}, 0)
	has(t, g, 2, 500-4-10)
	has(t, g, Bonds, 10)
	do(t, g, Tx{Kind: Pay, From: 3, To: 4, Value: wide.Of(489)}, 0)
	do(t, g, Tx{Kind: Propose, From: 3, N: 1, Root: root}, api.ErrFunds) // 10, less the fee
	do(t, g, Tx{Kind: Finalise, From: 3, N: 0}, api.ErrEarly)
	do(t, g, Tx{Kind: Finalise, From: 3, N: 1}, api.ErrNone)
	closed(t, g, 3)
	do(t, g, Tx{Kind: Finalise, From: 3, N: 0}, 0)
	if n, r := g.Oracle().Final(); n != 1 || r != root {
		t.Error(n, r)
	}
	has(t, g, 2, 496)
	closed(t, g, 150)
	do(t, g, Tx{Kind: Propose, From: 5, N: 130, Root: root}, api.ErrSize)
	do(t, g, Tx{Kind: Propose, From: 5, N: 129, Root: root}, 0)
}

func TestDispute(t *testing.T) { // P2003
	g, m := started(t)
	do(t, g, Tx{Kind: Propose, From: 2, N: 1, Root: api.Hash{9}}, 0)
	do(t, g, Tx{Kind: Challenge, From: 3, N: 1}, api.ErrNone)
	do(t, g, Tx{Kind: Challenge, From: 3, N: -1}, api.ErrNone)
	do(t, g, Tx{Kind: Challenge, From: 3, N: 0}, 0)
	d, _ := g.Oracle().Dispute(0)
	if d.Game.Segment.Hi != 3 || d.Game.At != 3 || len(g.Steps(0, 1)) != 3 {
		t.Error(d)
	}
	trace, _ := m.Trace(0, 1)
	do(t, g, Tx{Kind: Prove, From: 3, N: 1}, api.ErrNone)
	do(t, g, Tx{Kind: Prove, From: 3, N: 0}, api.ErrTurn)
	do(t, g, Tx{Kind: Post, From: 3, N: 0, Root: trace[1]}, api.ErrTurn)
	do(t, g, Tx{Kind: Post, From: 2, N: 0, Root: trace[1]}, 0)
	do(t, g, Tx{Kind: Choose, From: 2, N: 0, Yes: true}, api.ErrTurn)
	do(t, g, Tx{Kind: Choose, From: 3, N: 0, Yes: true}, 0)
	do(t, g, Tx{Kind: Post, From: 2, N: 0, Root: trace[2]}, 0)
	do(t, g, Tx{Kind: Choose, From: 3, N: 0, Yes: true}, 0)
	steps, _ := m.Steps(0, 1)
	before, _ := m.Before(0, 1, 2)
	w, _ := witness.Make(before, steps[2])
	do(t, g, Tx{Kind: Timeout, From: 5, N: 0}, api.ErrEarly)
	do(t, g, Tx{Kind: Prove, From: 3, N: 0}, api.ErrForm)
	has(t, g, Bonds, 20)
	do(t, g, Tx{Kind: Prove, From: 3, N: 0, Witness: w}, 0)
	has(t, g, Bonds, 0)
	has(t, g, 3, 500-10-10+20)
	do(t, g, Tx{Kind: Prove, From: 3, N: 0, Witness: w}, api.ErrDone)
	do(t, g, Tx{Kind: Finalise, From: 3, N: 0}, api.ErrLost)
	do(t, g, Tx{Kind: Challenge, From: 3, N: 0}, api.ErrDone)
}

func TestDisputeOfNoSteps(t *testing.T) { // P2003
	g := begin(t, 500)
	closed(t, g, 2)
	do(t, g, Tx{Kind: Propose, From: 2, N: 1}, 0)
	do(t, g, Tx{Kind: Propose, From: 2, N: 1, Root: api.Hash{9}}, 0)
	do(t, g, Tx{Kind: Challenge, From: 3, N: 0}, 0)
	has(t, g, 2, 500-2-20+10)
	do(t, g, Tx{Kind: Challenge, From: 3, N: 1}, 0)
	has(t, g, 3, 500-2-20+20)
	has(t, g, Bonds, 10)
	do(t, g, Tx{Kind: Prove, From: 3, N: 0}, api.ErrTurn) // done, but there is no such step
}

func TestDisputeOfOneStep(t *testing.T) { // P2003
	g := begin(t, 500)
	do(t, g, Tx{Kind: Deposit, From: 1, To: 7, Value: wide.Of(20)}, 0)
	closed(t, g, 2)
	m, _ := fold.New(1)
	m.Feed(g.Blocks())
	do(t, g, Tx{Kind: Propose, From: 2, N: 1, Root: api.Hash{9}}, 0)
	do(t, g, Tx{Kind: Challenge, From: 3, N: 0}, 0)
	do(t, g, Tx{Kind: Prove, From: 3, N: 0}, api.ErrForm)
	s, _ := m.State(0)
	w, _ := witness.Make(s, g.Steps(0, 1)[0])
	do(t, g, Tx{Kind: Prove, From: 3, N: 0, Witness: w}, 0)
	if p, _ := g.Oracle().Proposal(0); p.Status != oracle.Refuted {
		t.Error(p)
	}
}

func TestConstants(t *testing.T) { // P2001
	for i, kind := range []int{Pay, Deposit, Batch, Propose, Challenge, Post, Choose, Prove, Timeout, Finalise, Relay, Replay} {
		if kind != i+1 {
			t.Error(i, kind)
		}
	}
	if Bonds != 1099511627776 || Fees != 1099511627777 {
		t.Error("accounts")
	}
}

func TestTimeout(t *testing.T) { // P2003
	g, _ := started(t)
	do(t, g, Tx{Kind: Propose, From: 2, N: 1, Root: api.Hash{9}}, 0)
	do(t, g, Tx{Kind: Challenge, From: 3, N: 0}, 0)
	closed(t, g, 4)
	do(t, g, Tx{Kind: Post, From: 2, N: 0}, api.ErrLate)
	do(t, g, Tx{Kind: Timeout, From: 4, N: 0}, 0)
	do(t, g, Tx{Kind: Timeout, From: 4, N: 0}, api.ErrDone)
	has(t, g, 3, 500-1-10+20)
}

func TestRelay(t *testing.T) { // P2003, P2006, P2007
	g, m := started(t)
	root, _ := m.Root(1)
	do(t, g, Tx{Kind: Propose, From: 2, N: 1, Root: root}, 0)
	closed(t, g, 3)
	good := message.Message{Nonce: 0, Sender: 7, Target: 8, Value: wide.Of(2), Gas: 1}
	bad := message.Message{Nonce: 1, Sender: 7, Target: 101, Value: wide.Of(2), Gas: 1}
	s, _ := m.State(1)
	p, q := s.Prove(chain.SentKey(0)), s.Prove(chain.SentKey(1))
	do(t, g, Tx{Kind: Relay, From: 4, Message: good, Proof: p}, api.ErrProof) // not final yet
	do(t, g, Tx{Kind: Finalise, From: 3, N: 0}, 0)
	for _, kind := range []int{Relay, Replay} {
		for _, target := range []uint64{Bonds, Fees} {
			do(t, g, Tx{Kind: kind, From: 4, Message: message.Message{Target: target, Gas: 1 << 40}}, api.ErrTarget)
		}
	}
	do(t, g, Tx{Kind: Relay, From: 4, Message: good, Proof: p}, 0)
	has(t, g, 8, 2)
	has(t, g, 0, 18)
	do(t, g, Tx{Kind: Relay, From: 4, Message: bad, Proof: q}, api.ErrAbort)
	do(t, g, Tx{Kind: Relay, From: 4, Message: good, Proof: p}, api.ErrReplay)
	if h, r := g.Portal().Counts(); h != 1 || r != 1 {
		t.Error(h, r)
	}
	do(t, g, Tx{Kind: Replay, From: 4, Message: bad, Gas: 9}, api.ErrAbort)
	do(t, g, Tx{Kind: Replay, From: 4, Message: good, Gas: 9}, api.ErrReplay)
	do(t, g, Tx{Kind: Replay, From: 4, Message: message.Message{Nonce: 9}}, api.ErrNone)
	do(t, g, Tx{Kind: Replay, From: 4, Message: message.Message{Gas: 1 << 40}}, api.ErrArg)
	has(t, g, 0, 18)
}

func TestFullLedger(t *testing.T) { // P2005, P2006
	g, _ := started(t)
	for i := 0; g.accounts.Len() < 4096; i++ {
		g.accounts.Put(api.Hash{byte(i), byte(i >> 8)}, api.Hash{1})
	}
	do(t, g, Tx{Kind: Pay, From: 1, To: 999, Value: wide.Of(1)}, api.ErrSize)
	do(t, g, Tx{Kind: Propose, From: 1, N: 1}, api.ErrSize)
	do(t, g, Tx{Kind: Pay, From: 1, To: 2, Value: wide.Of(1)}, 0)
}

func TestSteps(t *testing.T) { // P2004
	g, m := started(t)
	closed(t, g, 2)
	want, _ := m.Steps(0, 1)
	for _, c := range [][2]int{{0, 1}, {-1, 1}, {-1 << 63, 1<<63 - 1}, {0, 3}, {0, 9}} {
		if l := g.Steps(c[0], c[1]); !reflect.DeepEqual(l, want) {
			t.Error(c, l)
		}
	}
	for _, c := range [][2]int{{1, 3}, {1, 0}, {0, 0}, {0, -1}, {1<<63 - 1, 1<<63 - 1}, {-5, -1 << 63}} {
		if l := g.Steps(c[0], c[1]); len(l) != 0 {
			t.Error(c, l)
		}
	}
}

func TestApart(t *testing.T) { // P2004
	g, _ := started(t)
	do(t, g, Tx{Kind: Propose, From: 2, N: 1}, 0)
	g.Oracle().Finalise(9, 0)
	g.Oracle().Propose(9, 1, 1, api.Hash{})
	g.Portal().Lock(g.accounts.Clone(), 1, wide.Of(1))
	if n, _ := g.Oracle().Counts(); n != 1 || g.Oracle().Bonds() != 1 {
		t.Error("shared")
	}
}

func TestAnything(t *testing.T) { // P2005, P2006, P2007
	r := rand.New(rand.NewSource(1))
	g := begin(t, 300)
	total := sum(g)
	m, _ := fold.New(1)
	deposited, relayed := uint64(0), uint64(0)
	var sent []message.Message
	for range 800 {
		final, _ := g.oracle.Final()
		s, _ := m.State(final)
		x := Tx{Kind: 1 + r.Intn(12), From: 1 + uint64(r.Intn(6)), To: uint64(r.Intn(9)), Value: wide.Of(uint64(r.Intn(20))), N: r.Intn(5), Yes: r.Intn(2) == 0}
		if proposals, _ := g.oracle.Counts(); x.Kind == Finalise && proposals > 0 {
			x.N = r.Intn(proposals)
		}
		if x.Kind == Deposit {
			x.To = 7
		}
		if x.Kind == Batch {
			x.Data = batch(uint64(g.Height()), uint64(r.Intn(4)))
		}
		if x.Kind == Propose {
			x.N = g.Known()
			x.Root, _ = m.Root(x.N)
		}
		if x.Kind == Relay || x.Kind == Replay {
			if len(sent) == 0 {
				continue
			}
			x.Message = sent[r.Intn(len(sent))]
			x.Proof = s.Prove(chain.SentKey(x.Message.Nonce))
		}
		x.Nonce = g.Account(x.From).Nonce
		status := g.portal.Status(x.Message)
		e := g.Do(x)
		if e == 0 && x.Kind == Deposit {
			deposited += x.Value[0]
		}
		if e == 0 && g.portal.Status(x.Message) != status {
			relayed += x.Message.Value[0]
		}
		holds(t, g, total)
		has(t, g, 0, deposited-relayed)
		if r.Intn(3) == 0 {
			closed(t, g, 1)
			m.Feed(g.Blocks())
			sent = sentOf(m)
		}
	}
	if relayed == 0 || deposited == 0 {
		t.Error("too little happened", deposited, relayed)
	}
}

func sentOf(m *fold.Model) []message.Message {
	var l []message.Message
	for n := 1; n <= m.Number(); n++ {
		steps, _ := m.Steps(n-1, n)
		for i, e := range m.Receipts(n) {
			if t := steps[i].Tx; e == 0 && t.Kind == message.Withdraw {
				l = append(l, message.Message{Nonce: uint64(len(l)), Sender: t.From, Target: t.To, Value: t.Value, Gas: t.Gas, Data: t.Data})
			}
		}
	}
	return l
}

func TestLastBlock(t *testing.T) { // P2004
	g := begin(t, 50)
	closed(t, g, 4096)
	if n, e := g.Close(); n != 0 || e != api.ErrSize || g.Height() != 4096 || g.Now() != 4097 {
		t.Error(n, e)
	}
}

func TestNobodys(t *testing.T) { // P2001
	for _, g := range []*Ground{nil, {}} {
		n, e := g.Close()
		v, e2 := g.Total()
		if g.Do(Tx{Kind: Pay, From: 1, Proof: smt.Proof{}}) != api.ErrArg || n != 0 || e != api.ErrArg || g.Height() != 0 || g.Now() != 0 || g.Known() != 0 || len(g.Blocks()) != 0 || g.Steps(0, 9) != nil || g.Account(1) != (state.Account{}) || g.Root() != (api.Hash{}) || v != (api.Wide{}) || e2 != api.ErrArg || g.Oracle() != nil || g.Portal() != nil {
			t.Error("a call")
		}
	}
}
