package ground

import (
	"bascule/api"
	"bascule/message"
)

const mostAhead = 128 // numbers that a proposal may be above the final one, so that its steps fit a dispute

func (g *Ground) pay(t Tx) api.Errno {
	if own(t.To) {
		return api.ErrTarget
	}
	return g.move(t.From, t.To, t.Value)
}

func (g *Ground) deposit(t Tx) api.Errno {
	// The queue tells its errors first, but nothing may stand in it, if the value can't be locked.
	next := g.inbox.Clone()
	_, e := next.Deposit(message.Message{Sender: t.From, Target: t.To, Value: t.Value, Gas: t.Gas, Data: t.Data})
	if e != api.OK {
		return e
	}
	if e = g.portal.Lock(g.accounts, t.From, t.Value); e == api.OK {
		g.inbox = next
	}
	return e
}

func (g *Ground) batch(t Tx) api.Errno { return g.inbox.Post(t.Data) }

// bonded brings a bond to what asks for one, or takes it back, if that is refused.
func (g *Ground) bonded(who uint64, bring func() api.Errno) api.Errno {
	if e := g.move(who, Bonds, g.bond()); e != api.OK {
		return e
	}
	e := bring()
	if e != api.OK {
		g.move(Bonds, who, g.bond())
	}
	return e
}

func (g *Ground) propose(t Tx) api.Errno {
	final, _ := g.oracle.Final()
	switch {
	case t.N > g.Known():
		return api.ErrEarly
	case t.N > final+mostAhead:
		return api.ErrSize
	}
	return g.bonded(t.From, func() api.Errno {
		_, e := g.oracle.Propose(g.Now(), t.From, t.N, t.Root)
		return e
	})
}

func (g *Ground) challenge(t Tx) api.Errno {
	p, ok := g.oracle.Proposal(t.N)
	if !ok {
		return api.ErrNone
	}
	return g.bonded(t.From, func() api.Errno {
		_, e := g.oracle.Challenge(g.Now(), t.From, t.N, len(g.Steps(p.Base, p.Number)))
		return e
	})
}

func (g *Ground) post(t Tx) api.Errno { return g.oracle.Post(g.Now(), t.From, t.N, t.Root) }

func (g *Ground) choose(t Tx) api.Errno { return g.oracle.Choose(g.Now(), t.From, t.N, t.Yes) }

func (g *Ground) prove(t Tx) api.Errno {
	d, ok := g.oracle.Dispute(t.N)
	if !ok {
		return api.ErrNone
	}
	p, _ := g.oracle.Proposal(d.Proposal)
	steps, lo := g.Steps(p.Base, p.Number), d.Game.Segment.Lo
	if lo < 0 || lo >= len(steps) {
		return api.ErrTurn
	}
	return g.oracle.Prove(g.Now(), t.From, t.N, steps[lo], t.Witness)
}

func (g *Ground) timeout(t Tx) api.Errno { return g.oracle.Timeout(g.Now(), t.N) }

func (g *Ground) finalise(t Tx) api.Errno { return g.oracle.Finalise(g.Now(), t.N) }

func (g *Ground) relay(t Tx) api.Errno {
	if paysItself(t.Message) {
		return api.ErrTarget
	}
	_, root := g.oracle.Final()
	return g.portal.Relay(g.accounts, root, t.Message, t.Proof)
}

func (g *Ground) replay(t Tx) api.Errno {
	if paysItself(t.Message) {
		return api.ErrTarget
	}
	return g.portal.Replay(g.accounts, t.Message, t.Gas)
}

// paysItself tells whether a message would pay to what only the first chain itself pays to.
func paysItself(m message.Message) bool { return m.Target == Bonds || m.Target == Fees }
