package game

import (
	"math/rand"
	"testing"

	"bascule/api"
	"bascule/chain"
	"bascule/claim"
	"bascule/message"
	"bascule/state"
	"bascule/wide"
	"bascule/witness"
)

var one, two, three = api.Hash{1}, api.Hash{2}, api.Hash{3}

func begin(t *testing.T, count int, from, to api.Hash, clock, now int) Game {
	t.Helper()
	g, e := New(count, from, to, clock, now)
	if e != 0 || !Right(g) {
		t.Fatal(g, e)
	}
	return g
}

func TestNew(t *testing.T) { // P1702
	g := begin(t, 5, one, two, 9, 7)
	if g != (Game{Segment: claim.Segment{Hi: 5, From: one, To: two}, Clocks: [2]int{9, 9}, At: 7, Winner: Nobody}) || Turn(g) != Defender {
		t.Error(g)
	}
	if g := begin(t, 0, one, one, 9, 7); g != (Game{At: 7, Winner: Defender}) || Turn(g) != Nobody {
		t.Error(g)
	}
	if g := begin(t, 0, one, two, 9, 7); g != (Game{At: 7, Winner: Challenger}) || Turn(g) != Nobody {
		t.Error(g)
	}
	if g := begin(t, 1, one, two, 1, 0); Turn(g) != Challenger {
		t.Error(g)
	}
	begin(t, 4096, one, two, 1<<20, 1<<40)
	for i, c := range [][3]int{{-1, 5, 5}, {4097, 5, 5}, {5, 0, 5}, {5, -1, 5}, {5, 1<<20 + 1, 5}, {5, 5, -1}, {5, 5, 1<<40 + 1}, {0, 0, 5}, {0, 5, -1}, {-1 << 63, -1 << 63, -1 << 63}, {1<<63 - 1, 1<<63 - 1, 1<<63 - 1}} {
		if g, e := New(c[0], one, two, c[1], c[2]); e != api.ErrArg || g != (Game{}) {
			t.Error(i, g, e)
		}
	}
}

func TestRight(t *testing.T) { // P1702
	good := begin(t, 5, one, two, 9, 7)
	for i, c := range []struct {
		change func(g *Game)
		right  bool
		turn   int
	}{
		{func(g *Game) {}, true, Defender},
		{func(g *Game) { g.Segment.Posted = true }, true, Challenger},
		{func(g *Game) { g.Segment.Lo = 4 }, true, Challenger},
		{func(g *Game) { g.Clocks, g.At = [2]int{0, 1 << 20}, 1<<40 }, true, Defender},
		{func(g *Game) { g.Segment.Lo = 5 }, false, Nobody},
		{func(g *Game) { g.Clocks[0] = -1 }, false, Nobody},
		{func(g *Game) { g.Clocks[1] = 1<<20 + 1 }, false, Nobody},
		{func(g *Game) { g.At = -1 }, false, Nobody},
		{func(g *Game) { g.At = 1<<40 + 1 }, false, Nobody},
		{func(g *Game) { g.Winner = 2 }, false, Nobody},
		{func(g *Game) { g.Winner = -2 }, false, Nobody},
		{func(g *Game) { g.Winner, g.At, g.Segment.Lo = Defender, -1, 9 }, true, Nobody},
		{func(g *Game) { g.Winner = Challenger }, true, Nobody},
		{func(g *Game) { *g = Game{} }, true, Nobody},
	} {
		g := good
		c.change(&g)
		if Right(g) != c.right || Turn(g) != c.turn {
			t.Error(i, Right(g), Turn(g))
		}
		for now := range 2 {
			if e := all(g, 50*now+20)[3]; !c.right && e != api.ErrArg || c.right && c.turn == Nobody && e != api.ErrDone {
				t.Error(i, e)
			}
		}
	}
}

// all answers the errors of all moves at one time; of each but OK the game must be zero.
func all(g Game, now int) [4]api.Errno {
	a, e := Post(g, now, three)
	b, e2 := Choose(g, now, true)
	c, e3 := Prove(g, now, message.Input{}, witness.Witness{})
	d, e4 := Timeout(g, now)
	for i, x := range []Game{a, b, c, d} {
		if e := [4]api.Errno{e, e2, e3, e4}[i]; e != 0 && x != (Game{}) {
			panic("an error, and a game")
		}
	}
	return [4]api.Errno{e, e2, e3, e4}
}

func TestErrors(t *testing.T) { // P1702
	const arg, done, turn, late, early = api.ErrArg, api.ErrDone, api.ErrTurn, api.ErrLate, api.ErrEarly
	g := begin(t, 5, one, two, 9, 7)
	posted, _ := Post(g, 9, three)
	last := begin(t, 1, one, two, 9, 7)
	won := begin(t, 0, one, two, 9, 7)
	for i, c := range []struct {
		g    Game
		now  int
		want [4]api.Errno
	}{
		{g, 7, [4]api.Errno{0, turn, turn, early}},
		{g, 16, [4]api.Errno{0, turn, turn, early}},
		{g, 17, [4]api.Errno{late, turn, turn, 0}},
		{g, 6, [4]api.Errno{arg, arg, arg, arg}},
		{g, -1, [4]api.Errno{arg, arg, arg, arg}},
		{g, 1<<40 + 1, [4]api.Errno{arg, arg, arg, arg}},
		{g, 1 << 40, [4]api.Errno{late, turn, turn, 0}},
		{posted, 18, [4]api.Errno{turn, 0, turn, early}},
		{posted, 19, [4]api.Errno{turn, late, turn, 0}},
		{last, 16, [4]api.Errno{turn, turn, arg, early}},
		{last, 17, [4]api.Errno{turn, turn, late, 0}},
		{won, 7, [4]api.Errno{done, done, done, done}},
		{won, 6, [4]api.Errno{done, done, done, done}},
		{won, -1, [4]api.Errno{arg, arg, arg, arg}},
	} {
		if got := all(c.g, c.now); got != c.want {
			t.Error(i, got)
		}
	}
}

func TestMoves(t *testing.T) { // P1702
	g := begin(t, 5, one, two, 9, 7)
	p, e := Post(g, 10, three)
	if e != 0 || p.Clocks != [2]int{6, 9} || p.At != 10 || p.Segment != (claim.Segment{Hi: 5, From: one, To: two, Mid: three, Posted: true}) || p.Winner != Nobody {
		t.Error(p, e)
	}
	c, e := Choose(p, 19, true)
	if e != 0 || c.Clocks != [2]int{6, 0} || c.At != 19 || c.Segment != (claim.Segment{Lo: 2, Hi: 5, From: three, To: two}) {
		t.Error(c, e)
	}
	if c, _ := Choose(p, 10, false); c.Segment != (claim.Segment{Hi: 2, From: one, To: three}) {
		t.Error(c)
	}
	if x, e := Timeout(c, 26); e != 0 || x.Winner != Challenger || x.Clocks != c.Clocks || x.At != 19 || x.Segment != c.Segment {
		t.Error(x, e)
	}
	if x, e := Timeout(p, 20); e != 0 || x.Winner != Defender || x.At != 10 || x.Clocks != p.Clocks {
		t.Error(x, e)
	}
}

// steps is a row of inputs, and the states ahead of each and behind all.
func steps(n int) (l []message.Input, states []*state.State, trace []api.Hash) {
	s, _ := chain.Genesis(chain.Row{Who: 1, Balance: wide.Of(50)})
	states, trace = append(states, s.Clone()), append(trace, s.Root())
	for i := range n {
		x := message.Input{Tx: message.Tx{Kind: message.Transfer, From: 1, Nonce: uint64(i), To: 2, Value: wide.Of(1)}}
		chain.Apply(s, x)
		l, states, trace = append(l, x), append(states, s.Clone()), append(trace, s.Root())
	}
	return l, states, trace
}

func TestProve(t *testing.T) { // P1702
	l, states, trace := steps(1)
	w, _ := witness.Make(states[0], l[0])
	g := begin(t, 1, trace[0], trace[1], 9, 7)
	if x, e := Prove(g, 9, l[0], w); e != 0 || x.Winner != Defender || x.Clocks != [2]int{9, 7} || x.At != 9 || x.Segment != g.Segment {
		t.Error(x, e)
	}
	if x, e := Prove(begin(t, 1, trace[0], one, 9, 7), 9, l[0], w); e != 0 || x.Winner != Challenger {
		t.Error(x, e)
	}
	if x, e := Prove(begin(t, 1, one, trace[1], 9, 7), 9, l[0], w); e != api.ErrProof || x != (Game{}) {
		t.Error(x, e)
	}
	if x, e := Prove(g, 9, l[0], witness.Witness{}); e != api.ErrForm || x != (Game{}) {
		t.Error(x, e)
	}
}

// play plays a game in which one side knows the trace, and the other one does anything in its time; it answers who won, and when.
func play(t *testing.T, r *rand.Rand, n int, honest int, to api.Hash, clock int) (winner, end int) {
	t.Helper()
	l, states, trace := steps(n)
	g := begin(t, n, trace[0], to, clock, 100)
	now := 100
	for g.Winner == Nobody {
		left := g.Clocks[Turn(g)]
		now = g.At + r.Intn(left+1)
		var e api.Errno
		lo := g.Segment.Lo
		switch mine := Turn(g) == honest; {
		case !mine && r.Intn(9) == 0:
			now = g.At + left + 1
			g, e = Timeout(g, now)
		case Turn(g) == Defender:
			mid, _ := claim.Honest(trace, g.Segment)
			if !mine && r.Intn(2) == 0 {
				mid = api.Hash{byte(r.Int())}
			}
			g, e = Post(g, now, mid)
		case g.Segment.Posted:
			agree, _ := claim.Judge(trace, g.Segment)
			g, e = Choose(g, now, agree == (mine || r.Intn(2) == 0))
		default:
			w, _ := witness.Make(states[lo], l[lo])
			next, e2 := Prove(g, now, l[lo], w)
			if e = e2; e2 == api.ErrProof && !mine {
				next, e = Timeout(g, g.At+left+1) // it can't prove what it does not know
			}
			g = next
		}
		if e != 0 {
			t.Fatal(e)
		}
	}
	return g.Winner, now
}

func TestTruthWins(t *testing.T) { // P1703, P1704
	r := rand.New(rand.NewSource(1))
	for range 60 {
		n, clock := 1+r.Intn(9), 1+r.Intn(20)
		_, _, trace := steps(n)
		winner, end := play(t, r, n, Challenger, api.Hash{77}, clock)
		if winner != Challenger || end > 100+Longest(n, clock) {
			t.Error("false", winner, end)
		}
		winner, end = play(t, r, n, Defender, trace[n], clock)
		if winner != Defender || end > 100+Longest(n, clock) {
			t.Error("true", winner, end)
		}
	}
}

func TestLongest(t *testing.T) { // P1703
	const most, least = 1<<63 - 1, -1 << 63
	for _, c := range [][3]int{{0, 5, 12}, {1, 5, 12}, {2, 5, 14}, {4096, 1 << 20, 1<<21 + 26}, {3, 0, 6}, {-1, -4, -6}, {1, most, most}, {most, most, most}, {1, least, least}, {1, most/2 - 1, most - 1}, {1, most / 2, most}} {
		if n := Longest(c[0], c[1]); n != c[2] {
			t.Error(c, n)
		}
	}
}
