package world

import (
	"slices"

	"bascule/api"
	"bascule/chain"
	"bascule/claim"
	"bascule/derive"
	"bascule/game"
	"bascule/ground"
	"bascule/message"
	"bascule/oracle"
	"bascule/witness"
)

const mostAhead = 128 // numbers that a proposal may be above the final one

// actor answers what tells what an actor would do next; nil of nobody.
func (w *World) actor(who uint64) func() (ground.Tx, bool) {
	switch who {
	case Batcher:
		return w.nextBatch
	case Proposer:
		return func() (ground.Tx, bool) { return w.look().nextPropose() }
	case Challenger:
		return func() (ground.Tx, bool) { return w.look().nextChallenge() }
	case Relayer:
		return w.nextRelay
	}
	return nil
}

// nextBatch answers a batch of the first number that can have one, and has none.
func (w *World) nextBatch() (ground.Tx, bool) {
	height := w.ground.Height()
	for n := max(1, height-w.config.Window+1); n <= height; n++ {
		if _, _, found := derive.Find(w.blocks, n, w.config.Window); found || slices.Contains(w.posted, uint64(n)) {
			continue
		}
		b, e := message.PutBatch(message.Batch{Epoch: uint64(n), Txs: w.pool[:min(len(w.pool), api.MaxTxs)]})
		return ground.Tx{Kind: ground.Batch, Data: b}, e == api.OK
	}
	return ground.Tx{}, false
}

// nextRelay answers a relay of the first message that is final, and not done.
func (w *World) nextRelay() (ground.Tx, bool) {
	final, _ := w.Final()
	p := w.ground.Portal()
	for _, m := range w.Sent(final) {
		if p.Done(m.Nonce) || m.Target == ground.Bonds || m.Target == ground.Fees {
			continue
		}
		if w.proven.state == nil || w.proven.number != final {
			s, ok := w.model.State(final)
			if !ok {
				return ground.Tx{}, false
			}
			w.proven = proven{final, s}
		}
		return ground.Tx{Kind: ground.Relay, Message: m, Proof: w.proven.state.Prove(chain.SentKey(m.Nonce))}, true
	}
	return ground.Tx{}, false
}

// seen is a proposal, and what the actors look at beside it.
type seen struct {
	oracle.Proposal
	place      int
	disputed   bool // a dispute of it is not paid
	challenged bool // one of these is the Challenger's
}

// view is the oracle as the actors see it.
type view struct {
	world     *World
	now       int
	final     int
	root      api.Hash
	proposals []seen
	disputes  []oracle.Dispute
}

func (w *World) look() view {
	o := w.ground.Oracle()
	proposals, disputes := o.Counts()
	v := view{world: w, now: w.ground.Now(), proposals: make([]seen, 0, proposals), disputes: make([]oracle.Dispute, 0, disputes)}
	v.final, v.root = o.Final()
	for n := range proposals {
		p, _ := o.Proposal(n)
		v.proposals = append(v.proposals, seen{Proposal: p, place: n})
	}
	for n := range disputes {
		d, _ := o.Dispute(n)
		v.disputes = append(v.disputes, d)
		if !d.Paid {
			p := &v.proposals[d.Proposal]
			p.disputed = true
			p.challenged = p.challenged || d.Who == Challenger
		}
	}
	return v
}

// current tells whether a proposal is on the final number and root.
func (v view) current(p seen) bool { return p.Base == v.final && p.From == v.root }

// waited tells whether a proposal's wait is over.
func (v view) waited(p seen) bool { return v.now >= p.At+v.world.config.Wait }

// late tells whether there is no time left for whose turn it is.
func (v view) late(g game.Game) bool {
	side := game.Turn(g)
	return side != game.Nobody && v.now-g.At > g.Clocks[side]
}

// dispute answers what is done with the first dispute of which there is anything to do: a timeout, where there is no time, else the side's move.
func (v view) dispute(side int, mine func(d oracle.Dispute, p seen) bool, move func(d oracle.Dispute, p seen) (ground.Tx, bool)) (ground.Tx, bool) {
	for n, d := range v.disputes {
		p := v.proposals[d.Proposal]
		if d.Paid || !mine(d, p) {
			continue
		}
		if v.late(d.Game) {
			return ground.Tx{Kind: ground.Timeout, N: n}, true
		}
		if game.Turn(d.Game) != side {
			continue
		}
		if t, ok := move(d, p); ok {
			t.N = n
			return t, true
		}
	}
	return ground.Tx{}, false
}

// nextPropose answers what the Proposer would do next.
func (v view) nextPropose() (ground.Tx, bool) {
	mine := func(d oracle.Dispute, p seen) bool { return p.Who == Proposer }
	if t, ok := v.dispute(game.Defender, mine, v.post); ok {
		return t, true
	}
	waits := false
	for _, p := range v.proposals {
		if p.Who != Proposer || p.Status != oracle.Open {
			continue
		}
		if v.waited(p) && (!v.current(p) || !p.disputed) {
			return ground.Tx{Kind: ground.Finalise, N: p.place}, true
		}
		waits = waits || v.current(p)
	}
	n := min(v.world.ground.Known(), v.final+mostAhead)
	root, ok := v.world.model.Root(n)
	if n <= v.final || waits || !ok {
		return ground.Tx{}, false
	}
	return ground.Tx{Kind: ground.Propose, N: n, Root: root}, true
}

// post answers the root that the model has at the segment's middle.
func (v view) post(d oracle.Dispute, p seen) (ground.Tx, bool) {
	trace, _ := v.world.model.Trace(p.Base, p.Number)
	mid, ok := claim.Honest(trace, d.Game.Segment)
	return ground.Tx{Kind: ground.Post, Root: mid}, ok
}

// nextChallenge answers what the Challenger would do next.
func (v view) nextChallenge() (ground.Tx, bool) {
	mine := func(d oracle.Dispute, p seen) bool { return d.Who == Challenger }
	if t, ok := v.dispute(game.Challenger, mine, v.answer); ok {
		return t, true
	}
	for _, p := range v.proposals {
		if p.Status != oracle.Open || !v.current(p) || v.waited(p) || p.challenged {
			continue
		}
		if root, ok := v.world.model.Root(p.Number); ok && root != p.Root {
			return ground.Tx{Kind: ground.Challenge, N: p.place}, true
		}
	}
	return ground.Tx{}, false
}

// answer answers what the model says to a posted middle, or the proof of the last step.
func (v view) answer(d oracle.Dispute, p seen) (ground.Tx, bool) {
	model, s := v.world.model, d.Game.Segment
	if s.Posted {
		trace, _ := model.Trace(p.Base, p.Number)
		agree, ok := claim.Judge(trace, s)
		return ground.Tx{Kind: ground.Choose, Yes: agree}, ok
	}
	steps, ok := model.Steps(p.Base, p.Number)
	if !ok || s.Lo >= len(steps) {
		return ground.Tx{}, false
	}
	before, ok := model.Before(p.Base, p.Number, s.Lo)
	if !ok {
		return ground.Tx{}, false
	}
	w, e := witness.Make(before, steps[s.Lo])
	return ground.Tx{Kind: ground.Prove, Witness: w}, e == api.OK
}
