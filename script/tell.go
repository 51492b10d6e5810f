package script

import (
	"bascule/api"
	"bascule/chain"
	"bascule/digest"
	"bascule/ground"
	"bascule/message"
	"bascule/wide"
	"bascule/world"
)

const (
	plainFunds = 500 // of the accounts 1 to 6
	lastPlain  = 6
)

// teller has the world that lines are about, and what the line so far says.
type teller struct {
	world *world.World
	told  []byte
}

// say tells numbers, a blank ahead of each.
func (t *teller) say(l ...api.Wide) {
	for _, n := range l {
		t.told = append(t.told, ' ')
		t.told = append(t.told, wide.Print(n)...)
	}
}

// count tells numbers that are not wide.
func (t *teller) count(l ...int) {
	for _, n := range l {
		t.say(wide.Of(uint64(n)))
	}
}

func number(yes bool) int {
	if yes {
		return 1
	}
	return 0
}

// data answers the data of a number.
func data(n uint64) []byte {
	b := make([]byte, 8)
	for i := range b {
		b[i] = byte(n >> (56 - 8*i))
	}
	return b
}

// tell does what a line says, and tells what comes of it.
func (t *teller) tell(x Line) {
	switch x.Verb {
	case "new":
		t.begin(x.Args)
	case "deposit", "pay", "propose", "challenge", "finalise", "timeout", "post", "choose", "replay":
		t.count(int(t.world.Submit(t.first(x.Verb, x.Args))))
	case "transfer", "withdraw", "again":
		t.count(int(t.world.Queue(t.second(x.Verb, x.Args))))
	case "act":
		e, acted := t.world.Act(x.Args[0])
		t.count(int(e), number(acted))
	case "close":
		n, e := t.world.Close()
		t.count(int(e), n)
	case "run":
		n, e := t.world.Run(int(x.Args[0]))
		t.count(int(e), n)
	default:
		t.look(x)
	}
}

// begin makes a world, or leaves none.
func (t *teller) begin(a []uint64) {
	c := ground.Config{Window: int(a[0]), Wait: int(a[1]), Clock: int(a[2]), Bond: a[3]}
	w, e := world.New(c, rows(a[4])...)
	t.world = w
	t.count(int(e))
}

// rows answers what each account of a new world has.
func rows(funds uint64) []chain.Row {
	var l []chain.Row
	for who := uint64(1); who <= lastPlain; who++ {
		l = append(l, chain.Row{Who: who, Balance: wide.Of(plainFunds)})
	}
	for _, who := range []uint64{world.Batcher, world.Proposer, world.Challenger, world.Relayer} {
		l = append(l, chain.Row{Who: who, Balance: wide.Of(funds)})
	}
	return l
}

// first answers the Tx of the first chain that a line asks for.
func (t *teller) first(verb string, a []uint64) ground.Tx {
	x := ground.Tx{From: a[0]}
	switch verb {
	case "deposit":
		x.Kind, x.To, x.Value, x.Gas, x.Data = ground.Deposit, a[1], wide.Of(a[2]), a[3], data(a[4])
	case "pay":
		x.Kind, x.To, x.Value = ground.Pay, a[1], wide.Of(a[2])
	case "replay":
		x.Kind, x.Message, x.Gas = ground.Replay, at(t.world.Sent(t.world.Known()), a[1]), a[2]
	default:
		x.N = int(a[1])
		t.disputed(verb, a, &x)
	}
	return x
}

// disputed fills in what lines about proposals and disputes ask for beside their number.
func (t *teller) disputed(verb string, a []uint64, x *ground.Tx) {
	switch verb {
	case "propose":
		x.Kind = ground.Propose
		if x.Root = digest.Sum(data(a[2])); a[2] == 0 {
			x.Root, _ = t.world.Root(x.N)
		}
	case "challenge":
		x.Kind = ground.Challenge
	case "finalise":
		x.Kind = ground.Finalise
	case "timeout":
		x.Kind = ground.Timeout
	case "post":
		x.Kind, x.Root = ground.Post, digest.Sum(data(a[2]))
	case "choose":
		x.Kind, x.Yes = ground.Choose, a[2] != 0
	}
}

// second answers the Tx of the second chain that a line asks for.
func (t *teller) second(verb string, a []uint64) message.Tx {
	x := message.Tx{From: a[0], Nonce: a[1]}
	switch verb {
	case "transfer":
		x.Kind, x.To, x.Value = message.Transfer, a[2], wide.Of(a[3])
	case "withdraw":
		x.Kind, x.To, x.Value, x.Gas, x.Data = message.Withdraw, a[2], wide.Of(a[3]), a[4], data(a[5])
	case "again":
		x.Kind, x.Gas = message.Replay, a[3]
		x.Data, _ = message.PutMessage(at(t.world.Deposits(), a[2]))
	}
	return x
}

// at answers the n-th message, or a zero one.
func at(l []message.Message, n uint64) message.Message {
	if n >= uint64(len(l)) {
		return message.Message{}
	}
	return l[n]
}

// look tells how the world stands.
func (t *teller) look(x Line) {
	w := t.world
	switch x.Verb {
	case "height":
		t.count(w.Height(), w.Known(), w.Pool())
	case "final":
		n, root := w.Final()
		r, ok := w.Root(n)
		t.count(n, number(ok && r == root))
	case "account":
		a := w.Account(x.Args[0])
		t.account(a.Nonce, a.Balance, a.Words)
	case "second":
		a := w.Second(x.Args[0])
		t.account(a.Nonce, a.Balance, a.Words)
	case "sums":
		total, _ := w.Total()
		supply, _ := w.Supply()
		t.say(total, supply)
	case "ups":
		for _, m := range w.Sent(w.Known()) {
			t.count(w.Up(m))
		}
	case "downs":
		for _, m := range w.Deposits() {
			t.count(w.Down(m))
		}
	case "proposals":
		t.proposals()
	case "disputes":
		t.disputes()
	}
}

func (t *teller) account(nonce uint64, balance api.Wide, words [16]uint64) {
	t.say(wide.Of(nonce), balance, wide.Of(words[0]), wide.Of(words[1]), wide.Of(words[2]), wide.Of(words[3]))
}

func (t *teller) proposals() {
	o := t.world.Oracle()
	n, _ := o.Counts()
	for i := range n {
		p, _ := o.Proposal(i)
		t.say(wide.Of(uint64(p.Number)), wide.Of(p.Who), wide.Of(uint64(p.Status)))
	}
}

func (t *teller) disputes() {
	o := t.world.Oracle()
	_, n := o.Counts()
	for i := range n {
		d, _ := o.Dispute(i)
		t.say(wide.Of(uint64(d.Proposal)), wide.Of(d.Who), wide.Of(uint64(d.Game.Winner+1)), wide.Of(uint64(number(d.Paid))))
	}
}
