package portal

import (
	"encoding/binary"
	"math/rand"
	"testing"

	"bascule/api"
	"bascule/chain"
	"bascule/message"
	"bascule/smt"
	"bascule/state"
	"bascule/wide"
)

func top() api.Wide { return api.Wide{^uint64(0), ^uint64(0), ^uint64(0), ^uint64(0)} }

func msg(nonce, target, value, gas uint64, data ...byte) message.Message {
	return message.Message{Nonce: nonce, Sender: 9, Target: target, Value: wide.Of(value), Gas: gas, Data: data}
}

// sent is a second chain's state in which these messages were sent.
func sent(l ...message.Message) *state.State {
	s := state.New()
	for _, m := range l {
		s.Put(chain.SentKey(m.Nonce), message.Hash(false, m))
	}
	s.Set(7, state.Account{Nonce: 1})
	return s
}

func ledger(escrow, one uint64) *state.State {
	l := state.New()
	l.Set(0, state.Account{Balance: wide.Of(escrow)})
	l.Set(1, state.Account{Balance: wide.Of(one)})
	return l
}

// relay relays by a state's own proof, and looks that an error leaves the ledger.
func relay(t *testing.T, p *Portal, l, s *state.State, m message.Message, want api.Errno) {
	t.Helper()
	root := l.Root()
	if e := p.Relay(l, s.Root(), m, s.Prove(chain.SentKey(m.Nonce))); e != want || e != 0 && l.Root() != root {
		t.Error("relay", e)
	}
}

func replay(t *testing.T, p *Portal, l *state.State, m message.Message, gas uint64, want api.Errno) {
	t.Helper()
	root := l.Root()
	if e := p.Replay(l, m, gas); e != want || e != 0 && l.Root() != root {
		t.Error("replay", e)
	}
}

func stands(t *testing.T, p *Portal, m message.Message, status, held, relayed int) {
	t.Helper()
	h, r := p.Counts()
	if p.Status(m) != status || h != held || r != relayed || p.Done(m.Nonce) != (status != 0) {
		t.Error("stands", p.Status(m), h, r)
	}
}

func balance(l *state.State, who, want uint64) bool { return l.Account(who).Balance == wide.Of(want) }

func TestLock(t *testing.T) { // P1902, P1906
	p, l := New(), ledger(5, 10)
	if e := p.Lock(l, 1, wide.Of(4)); e != 0 || !balance(l, 0, 9) || !balance(l, 1, 6) {
		t.Error(e)
	}
	root := l.Root()
	if e := p.Lock(l, 0, wide.Of(1)); e != api.ErrTarget {
		t.Error(e)
	}
	if e := p.Lock(l, 1, wide.Of(7)); e != api.ErrFunds {
		t.Error(e)
	}
	if l.Root() != root || p.Lock(l, 1, wide.Of(6)) != 0 || !balance(l, 0, 15) || l.Len() != 1 {
		t.Error("all of it")
	}
	l.Set(0, state.Account{Balance: top()})
	l.Set(1, state.Account{Balance: wide.Of(1)})
	root = l.Root()
	if e := p.Lock(l, 1, wide.Of(1)); e != api.ErrOver || l.Root() != root {
		t.Error(e)
	}
	if e := p.Lock(l, 99, api.Wide{}); e != 0 || l.Root() != root {
		t.Error(e)
	}
}

func TestRelay(t *testing.T) { // P1902, P1903, P1904
	good, bad, rich, nobody := msg(0, 5, 4, 0), msg(1, 101, 2, 9), msg(2, 5, 50, 0), msg(3, 0, 1, 9)
	call := msg(4, 100, 1, 20, binary.BigEndian.AppendUint64(nil, 3)...)
	s := sent(good, bad, rich, nobody, call)
	p, l := New(), ledger(10, 0)
	relay(t, p, l, s, good, 0)
	stands(t, p, good, chain.Relayed, 0, 1)
	if !balance(l, 0, 6) || !balance(l, 5, 4) {
		t.Error("paid")
	}
	relay(t, p, l, s, good, api.ErrReplay)
	relay(t, p, l, s, msg(0, 5, 3, 0), api.ErrReplay)
	relay(t, p, l, s, bad, api.ErrAbort)
	stands(t, p, bad, chain.Held, 1, 1)
	relay(t, p, l, s, bad, api.ErrReplay)
	relay(t, p, l, s, rich, api.ErrFunds)
	stands(t, p, rich, chain.Unknown, 1, 1)
	relay(t, p, l, s, rich, api.ErrFunds)
	relay(t, p, l, s, nobody, api.ErrTarget)
	stands(t, p, nobody, chain.Held, 2, 1)
	relay(t, p, l, s, call, 0)
	stands(t, p, call, chain.Relayed, 2, 2)
	if l.Account(100).Words[0] != 3 || !balance(l, 100, 1) || !balance(l, 0, 5) {
		t.Error("called")
	}
	if p.Status(msg(0, 5, 3, 0)) != chain.Unknown || !p.Done(0) || p.Done(9) {
		t.Error("another message of that number")
	}
}

func TestRelayRefuses(t *testing.T) { // P1902
	m := msg(0, 5, 4, 0)
	s := sent(m)
	p, l := New(), ledger(10, 0)
	q := s.Prove(chain.SentKey(0))
	wrong := m
	wrong.Gas = api.MaxGas + 1
	for i, c := range []struct {
		root api.Hash
		m    message.Message
		q    smt.Proof
		want api.Errno
	}{
		{s.Root(), wrong, q, api.ErrArg},
		{api.Hash{}, m, q, api.ErrProof},
		{s.Root(), m, smt.Proof{}, api.ErrProof},
		{s.Root(), m, smt.Proof{Mask: api.Hash{1}}, api.ErrProof},
		{s.Root(), msg(0, 5, 5, 0), q, api.ErrProof},
		{s.Root(), msg(1, 5, 4, 0), q, api.ErrProof},
		{s.Root(), msg(1, 5, 4, 0), s.Prove(chain.SentKey(1)), api.ErrProof},
	} {
		if e := p.Relay(l, c.root, c.m, c.q); e != c.want || p.Done(c.m.Nonce) || !balance(l, 0, 10) {
			t.Error(i, e)
		}
	}
	down := state.New()
	down.Put(chain.SentKey(0), message.Hash(true, m))
	relay(t, p, l, down, m, api.ErrProof)
	relay(t, p, l, s, m, 0)
}

func TestReplay(t *testing.T) { // P1902, P1904
	m, bad, late := msg(0, 100, 4, 1), msg(1, 101, 2, 9), msg(2, 5, 4, 0)
	s := sent(m, bad, late)
	p, l := New(), ledger(3, 0)
	replay(t, p, l, m, 50, api.ErrNone)
	relay(t, p, l, s, m, api.ErrGas)
	replay(t, p, l, m, 2, api.ErrGas)
	replay(t, p, l, m, api.MaxGas+1, api.ErrArg)
	replay(t, p, l, m, 50, api.ErrFunds)
	stands(t, p, m, chain.Held, 1, 0)
	wrong := m
	wrong.Gas = api.MaxGas + 1
	replay(t, p, l, wrong, 50, api.ErrArg)
	l.Set(0, state.Account{Balance: wide.Of(9)})
	replay(t, p, l, m, 50, 0)
	stands(t, p, m, chain.Relayed, 0, 1)
	if !balance(l, 0, 5) || !balance(l, 100, 4) {
		t.Error("paid")
	}
	replay(t, p, l, m, 50, api.ErrReplay)
	relay(t, p, l, s, bad, api.ErrAbort)
	for range 3 {
		replay(t, p, l, bad, 50, api.ErrAbort)
	}
	l.Set(5, state.Account{Balance: top()})
	relay(t, p, l, s, late, api.ErrOver)
	stands(t, p, late, chain.Held, 2, 1)
	replay(t, p, l, late, 50, api.ErrOver)
}

func TestFullLedger(t *testing.T) { // P1902, P1906
	m := msg(0, 5, 4, 0)
	s := sent(m)
	p, l := New(), ledger(9, 9)
	for i := 0; l.Len() < 4096; i++ {
		l.Put(api.Hash{byte(i), byte(i >> 8)}, api.Hash{1})
	}
	relay(t, p, l, s, m, api.ErrSize)
	if !balance(l, 0, 9) {
		t.Error("the escrow")
	}
	l.Set(0, state.Account{})
	l.Put(api.Hash{5: 1}, api.Hash{1})
	root := l.Root()
	if e := p.Lock(l, 1, wide.Of(2)); e != api.ErrSize || l.Root() != root {
		t.Error(e)
	}
	if e := p.Lock(l, 1, wide.Of(9)); e != 0 || !balance(l, 0, 9) {
		t.Error(e)
	}
}

func TestValue(t *testing.T) { // P1904, P1905, P1906
	r := rand.New(rand.NewSource(1))
	var all []message.Message
	for n := range uint64(12) {
		all = append(all, msg(n, []uint64{0, 5, 6, 100, 101, 102}[r.Intn(6)], uint64(r.Intn(12)), uint64(r.Intn(25))))
	}
	s := sent(all...)
	p, l := New(), ledger(10, 60)
	total, _ := l.Total()
	for range 300 {
		m := all[r.Intn(len(all))]
		status, escrow := p.Status(m), l.Account(0).Balance
		var e api.Errno
		add := api.Wide{}
		switch r.Intn(3) {
		case 0:
			e = p.Relay(l, s.Root(), m, s.Prove(chain.SentKey(m.Nonce)))
		case 1:
			e = p.Replay(l, m, uint64(r.Intn(60)))
		case 2:
			if v := wide.Of(uint64(r.Intn(3))); p.Lock(l, 1, v) == 0 {
				add = v
			}
		}
		want, _ := wide.Add(escrow, add)
		if now := p.Status(m); now == chain.Relayed && status != chain.Relayed {
			want, _ = wide.Sub(want, m.Value)
			if e != 0 {
				t.Error("relayed of an error")
			}
		} else if now < status {
			t.Error("backward")
		}
		if sum, _ := l.Total(); sum != total || l.Account(0).Balance != want {
			t.Error("value", sum, want)
		}
	}
}

func TestApart(t *testing.T) { // P1903
	a, b := msg(0, 5, 4, 0), msg(1, 101, 2, 9)
	s := sent(a, b)
	p, l := New(), ledger(10, 0)
	relay(t, p, l, s, a, 0)
	c := p.Clone()
	relay(t, p, l, s, b, api.ErrAbort)
	stands(t, c, b, chain.Unknown, 0, 1)
	stands(t, p, b, chain.Held, 1, 1)
	stands(t, c, a, chain.Relayed, 0, 1)
}

func TestNobodys(t *testing.T) { // P1901
	m := msg(0, 5, 4, 0)
	s := sent(m)
	q := s.Prove(chain.SentKey(0))
	for _, p := range []*Portal{nil, {}} {
		l := ledger(10, 10)
		h, r := p.Counts()
		if p.Lock(l, 1, api.Wide{}) != api.ErrArg || p.Relay(l, s.Root(), m, q) != api.ErrArg || p.Replay(l, m, 1) != api.ErrArg || p.Status(m) != 0 || p.Done(0) || h != 0 || r != 0 || p.Clone() != nil {
			t.Error("a portal")
		}
	}
	for _, l := range []*state.State{nil, {}} {
		p := New()
		if p.Lock(l, 0, api.Wide{}) != api.ErrArg || p.Relay(l, s.Root(), m, q) != api.ErrArg || p.Replay(l, m, 1) != api.ErrArg || p.Done(0) {
			t.Error("a ledger")
		}
	}
}
