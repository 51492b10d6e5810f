package claim

import (
	"math/rand"
	"testing"

	"bascule/api"
)

var one, two, three = api.Hash{1}, api.Hash{2}, api.Hash{3}

func TestOpen(t *testing.T) { // P1602
	for _, n := range []int{1, 2, 4096} {
		if s, e := Open(n, one, two); e != 0 || s != (Segment{Hi: n, From: one, To: two}) || !Right(s) {
			t.Error(s, e)
		}
	}
	for _, n := range []int{-1 << 63, -1, 0, 4097, 1<<63 - 1} {
		if s, e := Open(n, one, two); e != api.ErrArg || s != (Segment{}) {
			t.Error(s, e)
		}
	}
}

func TestRight(t *testing.T) { // P1602
	for i, c := range []struct {
		s           Segment
		right, last bool
		middle      int
	}{
		{Segment{Lo: 0, Hi: 1}, true, true, 0},
		{Segment{Lo: 5, Hi: 6, From: one, To: two}, true, true, 5},
		{Segment{Lo: 0, Hi: 3}, true, false, 1},
		{Segment{Lo: 3, Hi: 4096, Posted: true, Mid: one}, true, false, 2049},
		{Segment{Lo: 3, Hi: 5, Posted: true}, true, false, 4},
		{Segment{Lo: 3, Hi: 4, Posted: true}, false, false, 0},
		{Segment{Lo: 3, Hi: 5, Mid: one}, false, false, 0},
		{Segment{Lo: 3, Hi: 3}, false, false, 0},
		{Segment{Lo: -1, Hi: 3}, false, false, 0},
		{Segment{Lo: 3, Hi: 4097}, false, false, 0},
		{Segment{Lo: -1 << 63, Hi: 1<<63 - 1}, false, false, 0},
		{Segment{Lo: 1<<63 - 1, Hi: -1 << 63, Posted: true}, false, false, 0},
		{Segment{}, false, false, 0},
	} {
		if Right(c.s) != c.right || Last(c.s) != c.last || Middle(c.s) != c.middle {
			t.Error(i, Right(c.s), Last(c.s), Middle(c.s))
		}
	}
}

func TestMoves(t *testing.T) { // P1602
	s, _ := Open(7, one, two)
	p, e := Post(s, three)
	if e != 0 || p != (Segment{0, 7, one, two, three, true}) {
		t.Error(p, e)
	}
	if x, e := Choose(p, true); e != 0 || x != (Segment{Lo: 3, Hi: 7, From: three, To: two}) {
		t.Error(x, e)
	}
	if x, e := Choose(p, false); e != 0 || x != (Segment{Lo: 0, Hi: 3, From: one, To: three}) {
		t.Error(x, e)
	}
	if x, e := Choose(s, true); e != api.ErrTurn || x != (Segment{}) {
		t.Error(x, e)
	}
	if x, e := Post(p, three); e != api.ErrTurn || x != (Segment{}) {
		t.Error(x, e)
	}
	last, _ := Open(1, one, two)
	if x, e := Post(last, three); e != api.ErrTurn || x != (Segment{}) {
		t.Error(x, e)
	}
	if x, e := Post(Segment{}, three); e != api.ErrArg || x != (Segment{}) {
		t.Error(x, e)
	}
	if x, e := Choose(Segment{Posted: true}, true); e != api.ErrArg || x != (Segment{}) {
		t.Error(x, e)
	}
	if x, e := Choose(Segment{}, true); e != api.ErrArg || x != (Segment{}) {
		t.Error(x, e)
	}
}

func TestRounds(t *testing.T) { // P1602
	for n, want := range map[int]int{-1 << 63: 0, -1: 0, 0: 0, 1: 0, 2: 1, 3: 2, 4: 2, 5: 3, 4095: 12, 4096: 12, 4097: 13, 1 << 62: 62, 1<<62 + 1: 63, 1<<63 - 1: 63} {
		if Rounds(n) != want {
			t.Error(n, Rounds(n))
		}
	}
}

func TestHonest(t *testing.T) { // P1603
	trace := []api.Hash{{10}, {11}, {12}, {13}}
	s, _ := Open(3, trace[0], two)
	if h, ok := Honest(trace, s); h != trace[1] || !ok {
		t.Error(h, ok)
	}
	if h, ok := Honest(trace[:2], s); h != trace[1] || !ok {
		t.Error(h, ok)
	}
	p, _ := Post(s, trace[1])
	q, _ := Post(s, two)
	last, _ := Open(1, one, two)
	for i, c := range []struct {
		trace []api.Hash
		s     Segment
	}{{trace, p}, {trace, last}, {trace, Segment{}}, {trace[:1], s}, {nil, s}} {
		if h, ok := Honest(c.trace, c.s); h != (api.Hash{}) || ok {
			t.Error(i)
		}
	}
	if agree, ok := Judge(trace, p); !agree || !ok {
		t.Error("agree")
	}
	if agree, ok := Judge(trace, q); agree || !ok {
		t.Error("not agree")
	}
	for i, c := range []struct {
		trace []api.Hash
		s     Segment
	}{{trace, s}, {trace, last}, {trace, Segment{Posted: true}}, {trace[:1], p}, {nil, p}} {
		if agree, ok := Judge(c.trace, c.s); agree || ok {
			t.Error(i)
		}
	}
}

func TestHalving(t *testing.T) { // P1604, P1605
	r := rand.New(rand.NewSource(1))
	for range 300 {
		n := 1 + r.Intn(100)
		trace := make([]api.Hash, n+1)
		for i := range trace {
			trace[i] = api.Hash{1, byte(i)}
		}
		judged, _ := Open(n, trace[0], api.Hash{2})
		posted, _ := Open(n, trace[0], trace[n])
		rounds := 0
		for ; !Last(judged); rounds++ {
			mid := api.Hash{2, byte(r.Int())}
			if r.Intn(2) == 0 {
				mid = trace[r.Intn(n+1)]
			}
			if r.Intn(2) == 0 {
				mid = trace[Middle(judged)]
			}
			judged, _ = Post(judged, mid)
			agree, ok := Judge(trace, judged)
			if !ok {
				t.Fatal("no judgement")
			}
			judged, _ = Choose(judged, agree)
		}
		if rounds > Rounds(n) || judged.From != trace[judged.Lo] || judged.To == trace[judged.Hi] {
			t.Error("not found", n, rounds)
		}
		for rounds = 0; !Last(posted); rounds++ {
			h, ok := Honest(trace, posted)
			if !ok {
				t.Fatal("nothing to post")
			}
			posted, _ = Post(posted, h)
			posted, _ = Choose(posted, r.Intn(2) == 0)
		}
		if rounds > Rounds(n) || posted.From != trace[posted.Lo] || posted.To != trace[posted.Hi] {
			t.Error("not held", n, rounds)
		}
	}
}
