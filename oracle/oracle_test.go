package oracle

import (
	"math/rand"
	"reflect"
	"slices"
	"testing"

	"bascule/api"
	"bascule/chain"
	"bascule/claim"
	"bascule/game"
	"bascule/message"
	"bascule/state"
	"bascule/wide"
	"bascule/witness"
)

const (
	proposer   = 12
	challenger = 13
	other      = 14
)

// scene is a true row of steps.
type scene struct {
	steps  []message.Input
	states []*state.State
	trace  []api.Hash
}

func newScene(n int) scene {
	s, _ := chain.Genesis(chain.Row{Who: 1, Balance: wide.Of(50)})
	c := scene{states: []*state.State{s.Clone()}, trace: []api.Hash{s.Root()}}
	for i := range n {
		x := message.Input{Tx: message.Tx{Kind: message.Transfer, From: 1, Nonce: uint64(i), To: 2, Value: wide.Of(1)}}
		chain.Apply(s, x)
		c.steps, c.states, c.trace = append(c.steps, x), append(c.states, s.Clone()), append(c.trace, s.Root())
	}
	return c
}

func (c scene) last() api.Hash { return c.trace[len(c.trace)-1] }

func (c scene) oracle(t *testing.T) *Oracle {
	t.Helper()
	o, e := New(c.trace[0], 5, 3)
	if e != 0 {
		t.Fatal(e)
	}
	return o
}

// want looks at an error.
func want(t *testing.T, e, w api.Errno) {
	t.Helper()
	if e != w {
		t.Error("error", e, w)
	}
}

// wantNumber looks at a number and an error.
func wantNumber(t *testing.T, n int, e api.Errno) func(w int, we api.Errno) {
	return func(w int, we api.Errno) {
		t.Helper()
		if n != w || e != we {
			t.Error("number", n, e, w, we)
		}
	}
}

// wantPays looks at what is paid, and how many bonds are left.
func wantPays(t *testing.T, o *Oracle, bonds int, l ...Pay) {
	t.Helper()
	if p := o.Pays(); !slices.Equal(p, l) || o.Bonds() != bonds || len(o.Pays()) != 0 {
		t.Error("pays", p, o.Bonds())
	}
	held(t, o)
}

// held looks at P1806.
func held(t *testing.T, o *Oracle) {
	t.Helper()
	n := 0
	proposals, disputes := o.Counts()
	for i := range proposals {
		if p, _ := o.Proposal(i); p.Status == Open {
			n++
		}
	}
	for i := range disputes {
		d, _ := o.Dispute(i)
		p, _ := o.Proposal(d.Proposal)
		if !d.Paid {
			n++
		}
		if !d.Paid && (p.Status != Open || d.Game.Winner != game.Nobody) {
			t.Error("not settled", i)
		}
	}
	if o.Bonds() != n {
		t.Error("bonds", o.Bonds(), n)
	}
}

func status(o *Oracle, n int) int {
	p, _ := o.Proposal(n)
	return p.Status
}

func TestNew(t *testing.T) { // P1802
	for _, c := range [][2]int{{0, 1}, {1, 0}, {-1, 1}, {1<<20 + 1, 1}, {1, 1<<20 + 1}} {
		if o, e := New(api.Hash{}, c[0], c[1]); o != nil || e != api.ErrArg {
			t.Error(c, e)
		}
	}
	if Open != 0 || Done != 1 || Refuted != 2 || Stale != 3 {
		t.Error("status")
	}
	if o, e := New(api.Hash{}, 1, 1); o == nil || e != 0 {
		t.Error(e)
	} else if n, e := o.Propose(0, 1, 1, api.Hash{}); n != 0 || e != 0 {
		t.Error("at the time 0", e)
	}
	o, e := New(api.Hash{7}, 1<<20, 1<<20)
	if n, r := o.Final(); e != 0 || n != 0 || r != (api.Hash{7}) || o.Bonds() != 0 || len(o.Pays()) != 0 {
		t.Error(n, r, e)
	}
}

func TestPropose(t *testing.T) { // P1802, P1804
	c := newScene(1)
	o := c.oracle(t)
	n, e := o.Propose(7, proposer, 2, c.last())
	wantNumber(t, n, e)(0, 0)
	if p, ok := o.Proposal(0); !ok || p != (Proposal{Number: 2, Base: 0, At: 7, Status: Open, Root: c.last(), From: c.trace[0], Who: proposer}) {
		t.Error(p)
	}
	for _, x := range [][2]int{{-1, 2}, {1<<40 + 1, 2}, {7, 0}, {7, -5}, {7, 1<<40 + 1}} {
		n, e := o.Propose(x[0], proposer, x[1], c.last())
		wantNumber(t, n, e)(0, api.ErrArg)
	}
	n, e = o.Propose(1<<40, proposer, 1<<40, c.last())
	wantNumber(t, n, e)(1, 0)
	wantPays(t, o, 2)
	want(t, o.Finalise(11, 0), api.ErrEarly)
	want(t, o.Finalise(12, 0), 0)
	wantPays(t, o, 1, Pay{proposer, 1})
	if n, r := o.Final(); n != 2 || r != c.last() || status(o, 0) != Done {
		t.Error(n, r)
	}
	want(t, o.Finalise(12, 0), api.ErrDone)
	want(t, o.Finalise(12, 2), api.ErrNone)
	want(t, o.Finalise(12, -1), api.ErrNone)
	want(t, o.Finalise(-1, 2), api.ErrArg)
	n, e = o.Propose(12, proposer, 2, c.last())
	wantNumber(t, n, e)(0, api.ErrArg)
	want(t, o.Finalise(1<<40, 1), api.ErrEarly)
}

func TestStale(t *testing.T) { // P1804, P1807
	c := newScene(3)
	o := c.oracle(t)
	o.Propose(1, proposer, 1, c.last())
	o.Propose(1, other, 3, c.last())
	o.Challenge(2, 20, 1, 3)
	o.Challenge(2, 21, 1, 3)
	o.Challenge(2, 22, 1, 3)
	want(t, o.Finalise(6, 1), api.ErrEarly) // disputed
	want(t, o.Finalise(6, 0), 0)
	want(t, o.Timeout(6, 1), 0) // the Defender has no time
	wantPays(t, o, 0, Pay{proposer, 1}, Pay{21, 2}, Pay{20, 1}, Pay{22, 1})
	want(t, o.Finalise(6, 1), api.ErrLost)
	o = c.oracle(t)
	o.Propose(1, proposer, 1, c.last())
	o.Propose(1, other, 3, c.last())
	o.Challenge(2, 20, 1, 3)
	o.Challenge(2, 21, 1, 3)
	o.Finalise(6, 0)
	o.Propose(6, proposer, 2, c.last())
	want(t, o.Finalise(6, 1), 0) // stale, though disputed
	wantPays(t, o, 1, Pay{proposer, 1}, Pay{other, 1}, Pay{20, 1}, Pay{21, 1})
	if n, _ := o.Final(); n != 1 || status(o, 1) != Stale {
		t.Error(n)
	}
	want(t, o.Finalise(6, 1), api.ErrDone)
	want(t, o.Post(6, other, 0, api.Hash{}), api.ErrDone)
	if p, _ := o.Proposal(2); p.Base != 1 || p.From != c.last() {
		t.Error(p)
	}
}

func TestChallenge(t *testing.T) { // P1802
	c := newScene(3)
	o := c.oracle(t)
	o.Propose(7, proposer, 2, c.last())
	for _, x := range []struct {
		now, proposal, count int
		e                    api.Errno
	}{
		{-1, 9, 3, api.ErrArg}, {1<<40 + 1, 0, 3, api.ErrArg}, {7, 1, 3, api.ErrNone}, {7, -1, 3, api.ErrNone}, {12, 0, 3, api.ErrLate}, {6, 0, 3, api.ErrArg}, {7, 0, -1, api.ErrArg}, {7, 0, 4097, api.ErrArg},
	} {
		n, e := o.Challenge(x.now, challenger, x.proposal, x.count)
		wantNumber(t, n, e)(0, x.e)
	}
	n, e := o.Challenge(11, challenger, 0, 3)
	wantNumber(t, n, e)(0, 0)
	g, _ := game.New(3, c.trace[0], c.last(), 3, 11)
	if d, ok := o.Dispute(0); !ok || d != (Dispute{Proposal: 0, Who: challenger, Game: g}) {
		t.Error(d)
	}
	wantPays(t, o, 2)
	n, e = o.Challenge(7, other, 0, 0)
	wantNumber(t, n, e)(1, 0) // of no steps another root is false at once
	wantPays(t, o, 0, Pay{other, 2}, Pay{challenger, 1})
	n, e = o.Challenge(12, other, 0, 0)
	wantNumber(t, n, e)(0, api.ErrDone)
	o.Propose(7, proposer, 2, c.trace[0])
	n, e = o.Challenge(7, other, 1, 0)
	wantNumber(t, n, e)(2, 0)
	wantPays(t, o, 1, Pay{proposer, 1})
	if p, d := o.Counts(); p != 2 || d != 3 || status(o, 1) != Open || status(o, 0) != Refuted {
		t.Error(p, d)
	}
	want(t, o.Finalise(12, 1), 0)
	want(t, o.Finalise(12, 0), api.ErrLost)
}

func TestMoves(t *testing.T) { // P1803, P1808
	c := newScene(2)
	o := c.oracle(t)
	o.Propose(7, proposer, 2, api.Hash{9}) // false
	o.Challenge(8, challenger, 0, 2)
	o.Challenge(8, other, 0, 2)
	x, w := message.Input{}, witness.Witness{}
	for _, now := range []int{-1, 1<<40 + 1} {
		for _, e := range []api.Errno{o.Post(now, proposer, 9, api.Hash{}), o.Choose(now, challenger, 9, true), o.Prove(now, challenger, 9, x, w), o.Timeout(now, 9)} {
			want(t, e, api.ErrArg)
		}
	}
	for _, n := range []int{-1, 2} {
		for _, e := range []api.Errno{o.Post(8, proposer, n, api.Hash{}), o.Choose(8, challenger, n, true), o.Prove(8, challenger, n, x, w), o.Timeout(8, n)} {
			want(t, e, api.ErrNone)
		}
	}
	want(t, o.Post(8, challenger, 0, c.trace[1]), api.ErrTurn)
	want(t, o.Choose(8, other, 0, true), api.ErrTurn)
	want(t, o.Choose(8, challenger, 0, true), api.ErrTurn)
	want(t, o.Prove(8, other, 0, x, w), api.ErrTurn)
	want(t, o.Timeout(11, 0), api.ErrEarly)
	want(t, o.Post(12, proposer, 0, c.trace[1]), api.ErrLate)
	want(t, o.Post(9, proposer, 0, c.trace[1]), 0)
	want(t, o.Choose(9, challenger, 0, true), 0)
	want(t, o.Finalise(12, 0), api.ErrEarly)
	if d, _ := o.Dispute(0); !claim.Last(d.Game.Segment) || d.Game.Segment.Lo != 1 {
		t.Error(d)
	}
	want(t, o.Prove(9, challenger, 0, x, w), api.ErrArg)
	wantPays(t, o, 3)
	w, _ = witness.Make(c.states[1], c.steps[1])
	want(t, o.Prove(9, challenger, 0, c.steps[1], w), 0)
	wantPays(t, o, 0, Pay{challenger, 2}, Pay{other, 1})
	if d, _ := o.Dispute(0); !d.Paid || d.Game.Winner != game.Challenger || status(o, 0) != Refuted {
		t.Error(d)
	}
	if d, _ := o.Dispute(1); !d.Paid || d.Game.Winner != game.Nobody {
		t.Error(d)
	}
	for n := range 2 {
		for _, e := range []api.Errno{o.Post(8, 1, n, api.Hash{}), o.Choose(8, 1, n, true), o.Prove(8, 1, n, x, w), o.Timeout(8, n)} {
			want(t, e, api.ErrDone)
		}
	}
}

func TestDefended(t *testing.T) { // P1803, P1804
	c := newScene(1)
	o := c.oracle(t)
	o.Propose(7, proposer, 2, c.last())
	o.Challenge(8, challenger, 0, 1)
	o.Challenge(8, other, 0, 1)
	w, _ := witness.Make(c.states[0], c.steps[0])
	want(t, o.Prove(9, challenger, 0, c.steps[0], w), 0)
	wantPays(t, o, 2, Pay{proposer, 1})
	want(t, o.Finalise(12, 0), api.ErrEarly) // the second dispute
	want(t, o.Timeout(12, 1), 0)
	want(t, o.Finalise(12, 0), 0)
	wantPays(t, o, 0, Pay{proposer, 1}, Pay{proposer, 1})
	if d, _ := o.Dispute(1); d.Game.Winner != game.Defender || !d.Paid {
		t.Error(d)
	}
}

func TestLimits(t *testing.T) { // P1802
	c := newScene(1)
	o := c.oracle(t)
	for i := range 4096 {
		if n, e := o.Propose(1, proposer, 1, c.last()); n != i || e != 0 {
			t.Fatal(n, e)
		}
		if n, e := o.Challenge(1, challenger, i, 1); n != i || e != 0 {
			t.Fatal(n, e)
		}
	}
	n, e := o.Propose(1, proposer, 1, c.last())
	wantNumber(t, n, e)(0, api.ErrSize)
	n, e = o.Challenge(1, challenger, 5, 9999)
	wantNumber(t, n, e)(0, api.ErrSize)
	wantPays(t, o, 8192)
}

func TestAnything(t *testing.T) { // P1806, P1807, P1808
	r := rand.New(rand.NewSource(1))
	c := newScene(3)
	for range 30 {
		o := c.oracle(t)
		paid := map[int]bool{}
		now, final := 0, 0
		for range 120 {
			now += r.Intn(3)
			who, p, d := uint64(r.Intn(3)), r.Intn(12), r.Intn(12)
			switch r.Intn(7) {
			case 0:
				o.Propose(now, who, r.Intn(9), []api.Hash{c.last(), {9}}[r.Intn(2)])
			case 1:
				o.Challenge(now, who, p, r.Intn(4))
			case 2:
				o.Post(now, who, d, c.trace[1])
			case 3:
				o.Choose(now, who, d, r.Intn(2) == 0)
			case 4:
				i := r.Intn(3)
				w, _ := witness.Make(c.states[i], c.steps[i])
				o.Prove(now, who, d, c.steps[i], w)
			case 5:
				o.Timeout(now, d)
			case 6:
				base, from := o.Final()
				if o.Finalise(now, p) == api.OK && status(o, p) == Done {
					x, _ := o.Proposal(p)
					if n, h := o.Final(); n != x.Number || n <= final || h != x.Root || x.Base != base || x.From != from {
						t.Error("not one line")
					}
					final, _ = o.Final()
				}
			}
			held(t, o)
			won := map[int]bool{}
			_, disputes := o.Counts()
			for i := range disputes {
				x, _ := o.Dispute(i)
				won[x.Proposal] = won[x.Proposal] || x.Game.Winner == game.Challenger
				if paid[i] && !x.Paid {
					t.Error("paid, and not any more")
				}
				paid[i] = x.Paid
			}
			proposals, _ := o.Counts()
			for i := range proposals {
				if (status(o, i) == Refuted) != won[i] {
					t.Error("refuted")
				}
			}
		}
	}
}

func TestApart(t *testing.T) { // P1805
	c := newScene(1)
	o := c.oracle(t)
	o.Propose(1, proposer, 1, c.last())
	o.Challenge(1, challenger, 0, 1)
	o.Challenge(1, challenger, 0, 1)
	o.Timeout(9, 0)
	later := o.Clone()
	later.Challenge(2, other, 0, 0)
	if status(later, 0) != Refuted || status(o, 0) != Open || o.Bonds() != 2 {
		t.Error("shared")
	}
	k := o.Clone()
	if !reflect.DeepEqual(k, o) {
		t.Error("another one")
	}
	k.Propose(9, other, 1, c.last())
	k.Timeout(9, 1)
	k.Finalise(9, 0)
	if d, _ := o.Dispute(1); d.Paid || status(o, 0) != Open {
		t.Error("shared")
	}
	wantPays(t, o, 2, Pay{proposer, 1})
	wantPays(t, k, 1, Pay{proposer, 1}, Pay{proposer, 1}, Pay{proposer, 1})
}

func TestNobodys(t *testing.T) { // P1801
	for _, o := range []*Oracle{nil, {}} {
		n, e := o.Propose(1, 1, 1, api.Hash{})
		wantNumber(t, n, e)(0, api.ErrArg)
		n, e = o.Challenge(1, 1, 0, 1)
		wantNumber(t, n, e)(0, api.ErrArg)
		for _, e := range []api.Errno{o.Post(1, 1, 0, api.Hash{}), o.Choose(1, 1, 0, true), o.Prove(1, 1, 0, message.Input{}, witness.Witness{}), o.Timeout(1, 0), o.Finalise(1, 0)} {
			want(t, e, api.ErrArg)
		}
		number, root := o.Final()
		p, ok := o.Proposal(0)
		d, ok2 := o.Dispute(0)
		a, b := o.Counts()
		if o.Pays() != nil || o.Bonds() != 0 || number != 0 || root != (api.Hash{}) || p != (Proposal{}) || ok || d != (Dispute{}) || ok2 || a != 0 || b != 0 || o.Clone() != nil {
			t.Error("a look")
		}
	}
}
