package world

import (
	"math/rand"
	"reflect"
	"testing"

	"bascule/api"
	"bascule/chain"
	"bascule/game"
	"bascule/ground"
	"bascule/message"
	"bascule/oracle"
	"bascule/state"
	"bascule/wide"
)

func begin(t *testing.T, c ground.Config, funds uint64) *World {
	t.Helper()
	var l []chain.Row
	for who := uint64(1); who <= 6; who++ {
		l = append(l, chain.Row{Who: who, Balance: wide.Of(500)})
	}
	for _, who := range []uint64{Batcher, Proposer, Challenger, Relayer} {
		l = append(l, chain.Row{Who: who, Balance: wide.Of(funds)})
	}
	w, e := New(c, l...)
	if e != 0 {
		t.Fatal(e)
	}
	return w
}

var plain = ground.Config{Window: 1, Wait: 3, Clock: 3, Bond: 10}

func submit(t *testing.T, w *World, x ground.Tx, want api.Errno) {
	t.Helper()
	if e := w.Submit(x); e != want {
		t.Error("submit", e, want)
	}
}

func run(t *testing.T, w *World, blocks int) {
	t.Helper()
	if n, e := w.Run(blocks); n != blocks || e != 0 {
		t.Fatal(n, e)
	}
	holds(t, w)
}

func closed(t *testing.T, w *World) {
	t.Helper()
	if n, e := w.Close(); n != w.Height() || e != 0 {
		t.Fatal(n, e)
	}
	holds(t, w)
}

func deposit(from, to, value, gas uint64) ground.Tx {
	return ground.Tx{Kind: ground.Deposit, From: from, To: to, Value: wide.Of(value), Gas: gas}
}

func withdraw(from, nonce, to, value uint64) message.Tx {
	return message.Tx{Kind: message.Withdraw, From: from, Nonce: nonce, To: to, Value: wide.Of(value), Gas: 9}
}

func low(a api.Wide, _ api.Errno) uint64 { return a[0] }

// holds looks at P2105, P2106 and P2108, of a world whose open block has no deposits.
func holds(t *testing.T, w *World) {
	t.Helper()
	want := low(w.Supply())
	known := map[uint64]bool{}
	for n, b := range w.blocks {
		for _, m := range b.Deposits {
			status := w.Down(m)
			if n+1 > w.Known() {
				want += m.Value[0]
				if status != chain.Unknown {
					t.Error("known too early")
				}
			} else if status == chain.Unknown {
				t.Error("a deposit is not known")
			}
			if known[m.Nonce] {
				t.Error("a nonce twice")
			}
			known[m.Nonce] = true
		}
	}
	relayed, held := 0, 0
	for n, m := range w.Sent(w.Known()) {
		switch w.Up(m) {
		case chain.Relayed:
			relayed++
		case chain.Held:
			held++
			fallthrough
		default:
			want += m.Value[0]
		}
		if m.Nonce != uint64(n) {
			t.Error("the nonces of what was sent")
		}
	}
	if h, r := w.ground.Portal().Counts(); h != held || r != relayed {
		t.Error("relayed, and not sent", h, r, held, relayed)
	}
	if got := w.Account(0).Balance[0]; got != want {
		t.Error("escrow", got, want)
	}
}

func TestDown(t *testing.T) { // P2102, P2103, P2108
	w := begin(t, plain, 99)
	submit(t, w, deposit(1, 7, 5, 0), 0)
	submit(t, w, deposit(2, 101, 6, 9), 0)
	if len(w.Deposits()) != 0 {
		t.Error("not closed yet")
	}
	closed(t, w)
	d := w.Deposits()
	if len(d) != 2 || w.Down(d[0]) != chain.Unknown || w.Second(7) != (state.Account{}) || w.Known() != 0 {
		t.Error(d)
	}
	closed(t, w)
	if w.Down(d[0]) != chain.Relayed || w.Down(d[1]) != chain.Held || w.Second(7).Balance != wide.Of(5) || w.Second(0).Balance != wide.Of(6) || w.Known() != 1 || low(w.Supply()) != 11 || low(w.Total()) != 6*500+4*99 {
		t.Error("known")
	}
	if r, ok := w.Root(1); !ok || r == (api.Hash{}) {
		t.Error(r)
	}
	if r, ok := w.Root(2); ok || r != (api.Hash{}) {
		t.Error(r)
	}
	if a := w.Account(1); a.Balance != wide.Of(494) || a.Nonce != 1 {
		t.Error(a)
	}
}

func TestSubmitAndQueue(t *testing.T) { // P2102
	w := begin(t, plain, 99)
	x := ground.Tx{Kind: ground.Pay, From: 1, Nonce: 77, To: 2, Value: wide.Of(1)}
	submit(t, w, x, 0)
	submit(t, w, x, 0)
	submit(t, w, ground.Tx{Kind: ground.Pay, From: 0}, api.ErrTarget)
	if w.Queue(message.Tx{}) != api.ErrArg || w.Pool() != 0 {
		t.Error("a Tx that may not be")
	}
	data := []byte{1}
	for n := range uint64(64) {
		tx := withdraw(7, n, 8, 1)
		tx.Data = data
		if e := w.Queue(tx); e != 0 {
			t.Fatal(e)
		}
	}
	data[0] = 9
	if w.Queue(withdraw(7, 64, 8, 1)) != api.ErrSize || w.Queue(message.Tx{}) != api.ErrArg || w.Pool() != 64 || w.pool[5].Data[0] != 1 {
		t.Error("full")
	}
}

// next looks at what an actor would do, and lets it.
func next(t *testing.T, w *World, who uint64, want ground.Tx) {
	t.Helper()
	want.From, want.Nonce = who, w.Account(who).Nonce
	x, ok := w.Next(who)
	if !ok || !reflect.DeepEqual(x, want) {
		t.Errorf("next %+v, not %+v", x, want)
	}
	if e, ok := w.Act(who); e != 0 || !ok {
		t.Error("act", e, ok)
	}
}

func idle(t *testing.T, w *World, who uint64) {
	t.Helper()
	x, ok := w.Next(who)
	e, acted := w.Act(who)
	if ok || !reflect.DeepEqual(x, ground.Tx{}) || e != 0 || acted {
		t.Errorf("%d has something to do: %+v", who, x)
	}
}

func batch(epoch uint64, l ...message.Tx) ground.Tx {
	b, _ := message.PutBatch(message.Batch{Epoch: epoch, Txs: l})
	return ground.Tx{Kind: ground.Batch, Data: b}
}

func TestBatcher(t *testing.T) { // P2102
	c := plain
	c.Window = 2
	w := begin(t, c, 99)
	for _, who := range []uint64{0, 1, 10, 15, Batcher, Proposer, Challenger, Relayer} {
		idle(t, w, who)
	}
	var l []message.Tx
	for n := range uint64(11) {
		l = append(l, withdraw(7, n, 8, 1))
		w.Queue(l[n])
	}
	closed(t, w)
	closed(t, w)
	closed(t, w)
	next(t, w, Batcher, batch(2, l[:8]...)) // 1 is too late: the open block is 4
	if w.Pool() != 3 {
		t.Error(w.Pool())
	}
	next(t, w, Batcher, batch(3, l[8:]...))
	idle(t, w, Batcher)
	if w.Pool() != 0 {
		t.Error(w.Pool())
	}
	closed(t, w)
	next(t, w, Batcher, batch(4))
	closed(t, w)
	x := batch(5)
	x.From = 1
	submit(t, w, x, 0)
	next(t, w, Batcher, batch(5)) // what others posted is not seen before the block is closed
	closed(t, w)
	next(t, w, Batcher, batch(6))
	for range 7 {
		submit(t, w, ground.Tx{Kind: ground.Batch, From: 1}, 0)
	}
	w.Queue(l[0])
	closed(t, w)
	for range 8 {
		submit(t, w, ground.Tx{Kind: ground.Batch, From: 1}, 0)
	}
	if e, ok := w.Act(Batcher); e != api.ErrSize || !ok || w.Pool() != 1 {
		t.Error(e, ok)
	}
	if _, ok := w.Next(Batcher); !ok {
		t.Error("what was refused was not posted")
	}
}

func TestProposerAndFinal(t *testing.T) { // P2102
	w := begin(t, plain, 99)
	submit(t, w, deposit(1, 7, 5, 0), 0)
	closed(t, w)
	idle(t, w, Proposer)
	closed(t, w)
	root, _ := w.Root(1)
	next(t, w, Proposer, ground.Tx{Kind: ground.Propose, N: 1, Root: root})
	idle(t, w, Proposer)
	idle(t, w, Challenger)
	submit(t, w, ground.Tx{Kind: ground.Propose, From: 2, N: 1, Root: root}, 0)
	for range 3 {
		closed(t, w)
	}
	next(t, w, Proposer, ground.Tx{Kind: ground.Finalise, N: 0})
	if n, r := w.Final(); n != 1 || r != root {
		t.Error(n, r)
	}
	root, _ = w.Root(4)
	next(t, w, Proposer, ground.Tx{Kind: ground.Propose, N: 4, Root: root})
	idle(t, w, Proposer) // the other one's stale proposal is not its own
}

func TestStaleProposals(t *testing.T) { // P2102
	w := begin(t, plain, 99)
	submit(t, w, deposit(1, 7, 5, 0), 0)
	closed(t, w)
	closed(t, w)
	root, _ := w.Root(1)
	submit(t, w, ground.Tx{Kind: ground.Propose, From: 2, N: 1, Root: root}, 0)
	w.Act(Proposer)
	for range 3 {
		closed(t, w)
	}
	submit(t, w, ground.Tx{Kind: ground.Finalise, From: 2, N: 0}, 0)
	next(t, w, Proposer, ground.Tx{Kind: ground.Finalise, N: 1})
	if p, _ := w.Oracle().Proposal(1); p.Status != oracle.Stale {
		t.Error(p)
	}
	root, _ = w.Root(4)
	next(t, w, Proposer, ground.Tx{Kind: ground.Propose, N: 4, Root: root})
}

func TestStaleByNumberAlone(t *testing.T) { // P2102
	w := begin(t, plain, 99)
	closed(t, w)
	closed(t, w)
	submit(t, w, ground.Tx{Kind: ground.Propose, From: 2, N: 1}, 0)
	closed(t, w)
	w.Act(Proposer) // on 0, like the other one's; all roots are the same
	closed(t, w)
	closed(t, w)
	submit(t, w, ground.Tx{Kind: ground.Finalise, From: 2, N: 0}, 0)
	next(t, w, Proposer, ground.Tx{Kind: ground.Propose, N: 4})
	submit(t, w, ground.Tx{Kind: ground.Challenge, From: 3, N: 1}, 0)
	closed(t, w)
	next(t, w, Proposer, ground.Tx{Kind: ground.Finalise, N: 1})
	idle(t, w, Proposer)
}

func TestFarAhead(t *testing.T) { // P2102
	w := begin(t, plain, 99)
	for range 129 {
		closed(t, w)
	}
	next(t, w, Proposer, ground.Tx{Kind: ground.Propose, N: 128})
	w = begin(t, plain, 99)
	for range 140 {
		closed(t, w)
	}
	next(t, w, Proposer, ground.Tx{Kind: ground.Propose, N: 128})
}

// disputed is a world with a false proposal of 2 of number 1, that has three steps.
func disputed(t *testing.T, by uint64) *World {
	t.Helper()
	w := begin(t, plain, 99)
	for range 3 {
		submit(t, w, deposit(1, 7, 5, 0), 0)
	}
	closed(t, w)
	closed(t, w)
	submit(t, w, ground.Tx{Kind: ground.Propose, From: by, N: 1, Root: api.Hash{9}}, 0)
	return w
}

func TestChallenger(t *testing.T) { // P2102
	w := disputed(t, 2)
	next(t, w, Challenger, ground.Tx{Kind: ground.Challenge, N: 0})
	idle(t, w, Challenger)
	trace, _ := w.model.Trace(0, 1)
	submit(t, w, ground.Tx{Kind: ground.Post, From: 2, N: 0, Root: trace[1]}, 0)
	next(t, w, Challenger, ground.Tx{Kind: ground.Choose, N: 0, Yes: true})
	submit(t, w, ground.Tx{Kind: ground.Post, From: 2, N: 0, Root: api.Hash{8}}, 0)
	next(t, w, Challenger, ground.Tx{Kind: ground.Choose, N: 0})
	x, ok := w.Next(Challenger)
	if !ok || x.Kind != ground.Prove || x.N != 0 || len(x.Witness.Steps) == 0 {
		t.Error(x)
	}
	if e, ok := w.Act(Challenger); e != 0 || !ok {
		t.Error(e, ok)
	}
	if p, _ := w.Oracle().Proposal(0); p.Status != oracle.Refuted {
		t.Error(p)
	}
	idle(t, w, Challenger)
	if a := w.Account(Challenger); a.Balance != wide.Of(99-4-10+20) {
		t.Error(a)
	}
}

func TestChallengersTime(t *testing.T) { // P2102
	w := disputed(t, 2)
	submit(t, w, ground.Tx{Kind: ground.Challenge, From: 3, N: 0}, 0) // somebody else's does not keep it from its own
	next(t, w, Challenger, ground.Tx{Kind: ground.Challenge, N: 0})
	for range 3 {
		closed(t, w)
	}
	idle(t, w, Challenger)
	closed(t, w)
	next(t, w, Challenger, ground.Tx{Kind: ground.Timeout, N: 1})
	idle(t, w, Challenger)
	w = disputed(t, 2)
	for range 3 {
		closed(t, w)
	}
	idle(t, w, Challenger) // the wait is over
	w = begin(t, plain, 99)
	closed(t, w)
	closed(t, w)
	submit(t, w, ground.Tx{Kind: ground.Propose, From: 2, N: 1, Root: api.Hash{9}}, 0)
	next(t, w, Challenger, ground.Tx{Kind: ground.Challenge, N: 0}) // of no steps
	idle(t, w, Challenger)
	if p, _ := w.Oracle().Proposal(0); p.Status != oracle.Refuted {
		t.Error(p)
	}
}

func TestDefender(t *testing.T) { // P2102
	w := begin(t, plain, 99)
	for range 3 {
		submit(t, w, deposit(1, 7, 5, 0), 0)
	}
	closed(t, w)
	closed(t, w)
	root, _ := w.Root(1)
	next(t, w, Proposer, ground.Tx{Kind: ground.Propose, N: 1, Root: root})
	submit(t, w, ground.Tx{Kind: ground.Challenge, From: 3, N: 0}, 0)
	submit(t, w, ground.Tx{Kind: ground.Challenge, From: 4, N: 0}, 0)
	trace, _ := w.model.Trace(0, 1)
	next(t, w, Proposer, ground.Tx{Kind: ground.Post, N: 0, Root: trace[1]})
	next(t, w, Proposer, ground.Tx{Kind: ground.Post, N: 1, Root: trace[1]})
	idle(t, w, Proposer)
	submit(t, w, ground.Tx{Kind: ground.Choose, From: 4, N: 1, Yes: true}, 0)
	next(t, w, Proposer, ground.Tx{Kind: ground.Post, N: 1, Root: trace[2]})
	for range 3 {
		closed(t, w)
	}
	idle(t, w, Proposer)
	closed(t, w)
	next(t, w, Proposer, ground.Tx{Kind: ground.Timeout, N: 0})
	next(t, w, Proposer, ground.Tx{Kind: ground.Timeout, N: 1})
	next(t, w, Proposer, ground.Tx{Kind: ground.Finalise, N: 0})
	if a := w.Account(Proposer); a.Balance != wide.Of(99-7+20) || a.Nonce != 7 {
		t.Error(a)
	}
}

func TestRelayer(t *testing.T) { // P2102, P2103
	w := begin(t, plain, 99)
	submit(t, w, deposit(1, 7, 50, 0), 0)
	for n, to := range []uint64{8, 101, ground.Bonds, 0, 9} {
		w.Queue(withdraw(7, uint64(n), to, 2))
	}
	closed(t, w)
	w.Act(Batcher)
	closed(t, w)
	sent := w.Sent(1)
	if len(sent) != 5 || len(w.Sent(0)) != 0 || len(w.Sent(-1)) != 0 || len(w.Sent(1<<62)) != 5 || sent[1].Target != 101 || sent[4].Nonce != 4 {
		t.Error(sent)
	}
	idle(t, w, Relayer)
	w.Act(Proposer)
	for range 3 {
		closed(t, w)
	}
	idle(t, w, Relayer)
	w.Act(Proposer)
	s, _ := w.model.State(1)
	p := s.Prove(chain.SentKey(0))
	next(t, w, Relayer, ground.Tx{Kind: ground.Relay, Message: sent[0], Proof: p})
	for _, want := range []api.Errno{api.ErrAbort, api.ErrTarget, api.OK} {
		if e, ok := w.Act(Relayer); e != want || !ok {
			t.Error(e, ok)
		}
	}
	idle(t, w, Relayer)
	for n, want := range []int{chain.Relayed, chain.Held, chain.Unknown, chain.Held, chain.Relayed} {
		if w.Up(sent[n]) != want {
			t.Error(n, w.Up(sent[n]))
		}
	}
	holds(t, w)
	sent[0].Value = wide.Of(1)
	if w.Up(sent[0]) != chain.Unknown {
		t.Error("another message")
	}
}

func TestRun(t *testing.T) { // P2102, P2107
	w := begin(t, plain, 99)
	for _, n := range []int{-1 << 63, -1, 1001, 1<<63 - 1} {
		if k, e := w.Run(n); k != 0 || e != api.ErrArg {
			t.Error(k, e)
		}
	}
	run(t, w, 0)
	run(t, w, 3)
	if w.Height() != 3 || w.Known() != 2 {
		t.Error(w.Height(), w.Known())
	}
	submit(t, w, deposit(1, 7, 50, 0), 0)
	run(t, w, 1)
	w.Queue(withdraw(7, 0, 8, 2))
	run(t, w, 1)
	submit(t, w, deposit(1, 7, 50, 0), 0)
	run(t, w, 1)
	run(t, w, 1)
	w.Queue(withdraw(7, 0, 8, 2))
	run(t, w, 20)
	sent := w.Sent(99)
	if len(sent) == 0 || w.Up(sent[0]) != chain.Relayed {
		t.Error(sent)
	}
}

func TestActsOfARun(t *testing.T) { // P2102
	w := begin(t, plain, 999)
	submit(t, w, deposit(1, 7, 50, 0), 0)
	run(t, w, 1)
	for n, to := range []uint64{101, 8, 0, 9} {
		w.Queue(withdraw(7, uint64(n), to, 2))
	}
	for final := 0; final == 0; {
		run(t, w, 1)
		final, _ = w.Final()
	}
	// All in the block that made their number final: the Proposer's next proposal, and relays behind others' errors.
	if n, _ := w.Oracle().Counts(); n != 2 || w.Account(Proposer).Nonce != 3 {
		t.Error("the Proposer", n)
	}
	for i, m := range w.Sent(1) {
		if w.Up(m) != []int{chain.Held, chain.Relayed, chain.Held, chain.Relayed}[i] {
			t.Error("the Relayer", i)
		}
	}
	nonce := w.Account(Batcher).Nonce
	for range 8 {
		submit(t, w, ground.Tx{Kind: ground.Batch, From: 1}, 0)
	}
	run(t, w, 1)
	if w.Account(Batcher).Nonce != nonce+1 {
		t.Error("the Batcher goes on behind an error")
	}
}

func TestManyActs(t *testing.T) { // P2102
	w := begin(t, ground.Config{Window: 1, Wait: 36, Clock: 3, Bond: 10}, 999)
	submit(t, w, deposit(1, 7, 400, 0), 0)
	run(t, w, 2)
	for n := range uint64(256) {
		w.Queue(withdraw(7, n, 8, 1))
		if n%8 == 7 {
			run(t, w, 1)
		}
	}
	// The first final number is 1, the second one is all of these.
	for final := 0; final < 2; {
		run(t, w, 1)
		final, _ = w.Final()
	}
	if _, relayed := w.ground.Portal().Counts(); relayed != 200 {
		t.Error("in one block", relayed)
	}
	run(t, w, 1)
	if _, relayed := w.ground.Portal().Counts(); relayed != 256 || w.Account(Relayer).Nonce != 256 {
		t.Error("in two blocks", relayed)
	}
}

func TestConstants(t *testing.T) { // P2101
	if Batcher != 11 || Proposer != 12 || Challenger != 13 || Relayer != 14 {
		t.Error("actors")
	}
}

func TestRunsEnd(t *testing.T) { // P2102
	w := begin(t, plain, 1<<40)
	for range 4 {
		run(t, w, 1000)
	}
	if n, e := w.Run(1000); n != 96 || e != api.ErrSize || w.Height() != 4096 {
		t.Error(n, e)
	}
	if n, e := w.Close(); n != 0 || e != api.ErrSize {
		t.Error(n, e)
	}
	final, root := w.Final()
	if r, ok := w.Root(final); !ok || r != root {
		t.Error(final)
	}
}

func TestFalseProposal(t *testing.T) { // P2104; P2 of the whole
	w := disputed(t, 2)
	run(t, w, 20)
	if p, _ := w.Oracle().Proposal(0); p.Status != oracle.Refuted {
		t.Error(p)
	}
	n, r := w.Final()
	if root, _ := w.Root(n); n == 0 || root != r {
		t.Error(n)
	}
	for who, low := range map[uint64]uint64{Proposer: 80, Challenger: 90} {
		if b := w.Account(who).Balance[0]; b+20 < low {
			t.Error("an honest bond is lost", who, b)
		}
	}
}

// disturb does anything as one of accounts 1 to 6.
func disturb(w *World, r *rand.Rand) {
	who := uint64(1 + r.Intn(6))
	o := w.Oracle()
	proposals, disputes := o.Counts()
	pick := func(n int) int { return max(0, n-1-r.Intn(6)) }
	x := ground.Tx{Kind: 1 + r.Intn(12), From: who, To: []uint64{7, 8, 100, 101, 0, 102}[r.Intn(6)], Value: wide.Of(uint64(r.Intn(4))), Gas: uint64(r.Intn(40)), Yes: r.Intn(2) == 0}
	switch x.Kind {
	case ground.Batch:
		t := withdraw(7, w.Second(7).Nonce, []uint64{8, 101, 0, 100}[r.Intn(4)], uint64(r.Intn(3)))
		x.Data = batch(uint64(max(0, w.Height()-r.Intn(2))), t).Data
		if r.Intn(3) == 0 {
			x.Data = x.Data[1:]
		}
	case ground.Propose:
		x.N = w.Known() - r.Intn(2)
		if x.Root, _ = w.Root(x.N); r.Intn(3) > 0 {
			x.Root = api.Hash{byte(r.Int())}
		}
	case ground.Challenge, ground.Finalise:
		x.N = pick(proposals)
	case ground.Post, ground.Choose, ground.Prove, ground.Timeout:
		x.N = pick(disputes)
		d, _ := o.Dispute(x.N)
		p, _ := o.Proposal(d.Proposal)
		if x.From = p.Who; x.Kind != ground.Post {
			x.From = d.Who
		}
		if x.From == Proposer || x.From == Challenger {
			return
		}
		trace, _ := w.model.Trace(p.Base, p.Number)
		if mid := (d.Game.Segment.Lo + d.Game.Segment.Hi) / 2; mid < len(trace) && r.Intn(2) == 0 {
			x.Root = trace[mid]
		}
		if t, ok := w.look().answer(d, seen{Proposal: p}); ok && game.Turn(d.Game) == game.Challenger {
			x.Witness = t.Witness
		}
	case ground.Relay, ground.Replay:
		if sent := w.Sent(w.Known()); len(sent) > 0 {
			x.Message = sent[r.Intn(len(sent))]
			final, _ := w.Final()
			s, _ := w.model.State(final)
			x.Proof = s.Prove(chain.SentKey(x.Message.Nonce))
		}
	}
	w.Submit(x)
}

func TestWhateverOthersDo(t *testing.T) { // P2104, P2105, P2106, P2108
	refuted, final, relayed := 0, 0, 0
	for seed := range int64(12) {
		r := rand.New(rand.NewSource(seed))
		w := begin(t, ground.Config{Window: 1 + r.Intn(2), Wait: 3 + r.Intn(2), Clock: 2 + r.Intn(3), Bond: 5}, 1<<30)
		for range 40 {
			for range r.Intn(12) {
				disturb(w, r)
			}
			for _, who := range []uint64{Batcher, Proposer, Relayer} {
				if r.Intn(2) == 0 {
					w.Act(who)
				}
			}
			for acted := true; acted; {
				_, acted = w.Act(Challenger)
			}
			closed(t, w)
			n, root := w.Final()
			if want, ok := w.Root(n); !ok || root != want {
				t.Fatal("a false root is final", seed, n)
			}
		}
		n, _ := w.Final()
		final += n
		proposals, _ := w.Oracle().Counts()
		for i := range proposals {
			p, _ := w.Oracle().Proposal(i)
			if truth, _ := w.Root(p.Number); p.Status == oracle.Refuted && p.Who != Proposer && p.Root != truth {
				refuted++
			}
		}
		_, k := w.ground.Portal().Counts()
		relayed += k
	}
	if refuted < 5 || final < 50 || relayed < 3 {
		t.Error("too little happened", refuted, final, relayed)
	}
}

func TestArrives(t *testing.T) { // P2107; P5 of the whole
	for seed := range int64(6) {
		r := rand.New(rand.NewSource(seed))
		c := ground.Config{Window: 1 + r.Intn(2), Wait: 3, Clock: 3, Bond: 5}
		w := begin(t, c, 1<<30)
		submit(t, w, deposit(1, 7, 200, 0), 0)
		for range 25 {
			for range r.Intn(6) {
				disturb(w, r)
			}
			w.Queue(withdraw(7, w.Second(7).Nonce+uint64(w.Pool()), []uint64{8, 101, 0}[r.Intn(3)], 1))
			run(t, w, 1)
		}
		known := w.Known()
		bound := c.Window + 2*c.Wait + game.Longest(128*16, c.Clock) + 9
		run(t, w, bound)
		sent := w.Sent(known)
		for _, m := range sent {
			if w.Up(m) == chain.Unknown {
				t.Error("not there", seed, m)
			}
		}
		if len(sent) == 0 {
			t.Error("nothing was sent", seed)
		}
		proposals, _ := w.Oracle().Counts()
		for i := range proposals {
			if p, _ := w.Oracle().Proposal(i); p.Who == Proposer && p.Status == oracle.Refuted {
				t.Error("an honest bond is lost")
			}
		}
	}
}

func TestApart(t *testing.T) { // P2101
	w := disputed(t, 2)
	w.Oracle().Propose(9, 9, 1, api.Hash{})
	if n, _ := w.Oracle().Counts(); n != 1 {
		t.Error("shared")
	}
	x := deposit(1, 7, 1, 0)
	x.Data = []byte{5}
	submit(t, w, x, 0)
	closed(t, w)
	d := w.Deposits()
	d[3].Data[0] = 9
	if w.Deposits()[3].Data[0] != 5 {
		t.Error("shared")
	}
}

func TestNobodys(t *testing.T) { // P2101
	for _, c := range []ground.Config{{Window: 0, Wait: 3, Clock: 3}, {Window: 1, Wait: 0, Clock: 3}} {
		if w, e := New(c); w != nil || e != api.ErrArg {
			t.Error(e)
		}
	}
	if w, e := New(plain, chain.Row{Who: ground.Fees}); w != nil || e != api.ErrArg {
		t.Error(e)
	}
	for _, w := range []*World{nil, {}} {
		x, ok := w.Next(Batcher)
		e, acted := w.Act(Batcher)
		n, e2 := w.Close()
		k, e3 := w.Run(1)
		f, h := w.Final()
		root, ok2 := w.Root(0)
		a, e4 := w.Total()
		b, e5 := w.Supply()
		if w.Submit(ground.Tx{}) != api.ErrArg || w.Queue(message.Tx{}) != api.ErrArg || ok || !reflect.DeepEqual(x, ground.Tx{}) || e != api.ErrArg || acted || n != 0 || e2 != api.ErrArg || k != 0 || e3 != api.ErrArg || w.Height() != 0 || w.Known() != 0 || f != 0 || h != (api.Hash{}) || root != (api.Hash{}) || ok2 || a != (api.Wide{}) || e4 != api.ErrArg || b != (api.Wide{}) || e5 != api.ErrArg {
			t.Error("a call")
		}
		if w.Account(1) != (state.Account{}) || w.Second(1) != (state.Account{}) || w.Sent(9) != nil || w.Deposits() != nil || w.Up(message.Message{}) != 0 || w.Down(message.Message{}) != 0 || w.Oracle() != nil || w.Pool() != 0 {
			t.Error("a look")
		}
	}
}
