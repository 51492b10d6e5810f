package chain

import (
	"encoding/binary"
	"math/rand"
	"reflect"
	"slices"
	"testing"

	"bascule/api"
	"bascule/digest"
	"bascule/message"
	"bascule/state"
	"bascule/wide"
)

func top() api.Wide { return api.Wide{^uint64(0), ^uint64(0), ^uint64(0), ^uint64(0)} }

func be(n uint64) []byte { return binary.BigEndian.AppendUint64(nil, n) }

func msg(nonce, target, value, gas uint64, data ...byte) message.Message {
	return message.Message{Nonce: nonce, Sender: 9, Target: target, Value: wide.Of(value), Gas: gas, Data: data}
}

func down(m message.Message) message.Input {
	return message.Input{Deposit: true, Mint: m.Value, Message: m}
}

func tx(kind int, from, nonce, to, value uint64) message.Input {
	return message.Input{Tx: message.Tx{Kind: kind, From: from, Nonce: nonce, To: to, Value: wide.Of(value)}}
}

func again(from, nonce uint64, m message.Message, gas uint64) message.Input {
	b, _ := message.PutMessage(m)
	return message.Input{Tx: message.Tx{Kind: message.Replay, From: from, Nonce: nonce, Gas: gas, Data: b}}
}

func begin(t *testing.T, l ...Row) *state.State {
	t.Helper()
	s, e := Genesis(l...)
	if e != 0 {
		t.Fatal(e)
	}
	return s
}

// apply applies an input, and looks that what was not touched is as it was.
func apply(t *testing.T, s *state.State, x message.Input, want api.Errno) {
	t.Helper()
	was := s.Clone()
	who, slots := Touches(s, x)
	if e := Apply(s, x); e != want {
		t.Error("receipt", e, want)
	}
	for _, n := range who {
		was.Set(n, s.Account(n))
	}
	for _, k := range slots {
		was.Put(k, s.Slot(k))
	}
	if was.Root() != s.Root() { // P1105
		t.Error("more was changed than touched")
	}
}

func balance(s *state.State, who, want uint64) bool { return s.Account(who).Balance == wide.Of(want) }

func TestNames(t *testing.T) { // P1102
	m := msg(1, 2, 3, 4, 5)
	h, r := message.Hash(true, m), api.Hash{7}
	if StatusKey(m) != digest.Tagged("status", h[:]) || SentKey(8) != digest.Tagged("sent", be(8)) || Output(9, r) != digest.Tagged("output", be(9), r[:]) {
		t.Error("names")
	}
}

func TestGenesis(t *testing.T) { // P1102
	s := begin(t, Row{1, wide.Of(5)}, Row{2, api.Wide{}}, Row{3, api.Wide{0, 1}})
	if n, _ := s.Total(); n != (api.Wide{5, 1}) || s.Len() != 2 || !balance(s, 1, 5) {
		t.Error(n)
	}
	if begin(t).Root() != (api.Hash{}) {
		t.Error("no rows")
	}
	many := make([]Row, 65)
	for i := range many {
		many[i].Who = uint64(i + 1)
	}
	begin(t, many[:64]...)
	for i, l := range [][]Row{many, {{0, wide.Of(1)}}, {{0, api.Wide{}}}, {{100, wide.Of(1)}}, {{103, api.Wide{}}}, {{1, wide.Of(1)}, {1, wide.Of(1)}}, {{1, api.Wide{}}, {1, api.Wide{}}}, {{1, top()}, {2, wide.Of(1)}}} {
		if s, e := Genesis(l...); s != nil || e != api.ErrArg {
			t.Error(i, e)
		}
	}
	begin(t, Row{104, top()}, Row{99, api.Wide{}})
}

func TestDeposits(t *testing.T) { // P1102, P1103, P1104
	s := begin(t)
	good, bad, nobody := msg(0, 7, 5, 0), msg(1, 101, 6, 9), msg(2, 0, 7, 9)
	apply(t, s, down(good), 0)
	if !balance(s, 7, 5) || Status(s, good) != Relayed || s.Slot(StatusKey(good)) != (api.Hash{31: 2}) {
		t.Error("relayed")
	}
	apply(t, s, down(bad), api.ErrAbort)
	if !balance(s, 0, 6) || Status(s, bad) != Held || !balance(s, 101, 0) || s.Slot(StatusKey(bad)) != (api.Hash{31: 1}) {
		t.Error("held")
	}
	apply(t, s, down(nobody), api.ErrTarget)
	if !balance(s, 0, 13) || Status(s, nobody) != Held {
		t.Error("held of nobody")
	}
	was := s.Root()
	apply(t, s, down(good), api.ErrReplay)
	apply(t, s, down(bad), api.ErrReplay)
	x := down(msg(3, 7, 5, 0))
	x.Mint = wide.Of(4)
	apply(t, s, x, api.ErrFunds)
	x.Message = good
	apply(t, s, x, api.ErrReplay)
	if s.Root() != was || Status(s, msg(9, 9, 9, 9)) != Unknown {
		t.Error("a refused one changes something")
	}
	apply(t, s, down(msg(4, 100, 1, 20, be(3)...)), 0)
	if a := s.Account(100); a.Words[0] != 3 || a.Balance != wide.Of(1) {
		t.Error(a)
	}
	apply(t, s, down(msg(5, 100, 1, 2)), api.ErrGas)
}

func TestDepositsThatDoNotFit(t *testing.T) { // P1102
	s := begin(t, Row{7, top()})
	m := msg(0, 7, 5, 0)
	apply(t, s, down(m), api.ErrOver)
	if !balance(s, 0, 5) || Status(s, m) != Held {
		t.Error("held, where the target's does not fit")
	}
	s.Set(0, state.Account{Balance: top()})
	was := s.Root()
	apply(t, s, down(msg(1, 101, 5, 9)), api.ErrOver)
	if s.Root() != was {
		t.Error("the messenger's does not fit")
	}
	odd := msg(2, 8, 5, 0)
	s.Put(StatusKey(odd), api.Hash{0: 9, 31: 7})
	if Status(s, odd) != 7 {
		t.Error("a status is the last byte")
	}
	apply(t, s, down(odd), api.ErrReplay)
	apply(t, s, again(1, 0, odd, 0), api.ErrReplay)
	s.Put(StatusKey(odd), api.Hash{0: 9})
	apply(t, s, down(odd), 0)
	if s.Slot(StatusKey(odd)) != (api.Hash{31: 2}) {
		t.Error("a status is put alone")
	}
}

func TestTxs(t *testing.T) { // P1102
	s := begin(t, Row{1, wide.Of(50)})
	was := s.Root()
	for i, c := range []struct {
		x message.Input
		e api.Errno
	}{
		{tx(message.Transfer, 0, 0, 2, 0), api.ErrTarget},
		{tx(message.Transfer, 1, 1, 2, 5), api.ErrNonce},
		{message.Input{}, api.ErrArg},
		{tx(4, 1, 0, 2, 5), api.ErrArg},
	} {
		if e := Apply(s, c.x); e != c.e || s.Root() != was {
			t.Error(i, e)
		}
	}
	last := state.Account{Nonce: ^uint64(0), Balance: wide.Of(9)}
	s.Set(5, last)
	apply(t, s, tx(message.Transfer, 5, ^uint64(0), 2, 1), api.ErrOver)
	if s.Account(5) != last {
		t.Error("the last nonce")
	}
	nonce := uint64(0)
	for i, c := range []struct {
		to, value uint64
		e         api.Errno
		left      uint64
	}{
		{2, 5, 0, 45}, {0, 5, api.ErrTarget, 45}, {0, 99, api.ErrTarget, 45}, {2, 46, api.ErrFunds, 45}, {1, 45, 0, 45}, {1, 46, api.ErrFunds, 45}, {101, 5, 0, 40}, {2, 40, 0, 0}, {3, 0, 0, 0},
	} {
		apply(t, s, tx(message.Transfer, 1, nonce, c.to, c.value), c.e)
		nonce++
		if a := s.Account(1); a.Nonce != nonce || a.Balance != wide.Of(c.left) {
			t.Error(i, a)
		}
	}
	if !balance(s, 2, 45) || !balance(s, 101, 5) {
		t.Error("moved")
	}
	s.Set(6, state.Account{Balance: top()})
	apply(t, s, tx(message.Transfer, 2, 0, 6, 1), api.ErrOver)
	x := tx(message.Transfer, 6, 0, 6, 0)
	x.Tx.Value = top()
	apply(t, s, x, 0)
	if a := s.Account(6); a.Balance != top() || a.Nonce != 1 || !balance(s, 2, 45) {
		t.Error("to oneself", a)
	}
}

func TestWithdraws(t *testing.T) { // P1102, P1103, P1104
	s := begin(t, Row{1, wide.Of(50)})
	x := tx(message.Withdraw, 1, 0, 33, 20)
	x.Tx.Gas, x.Tx.Data = 7, []byte{1, 2}
	m := message.Message{Nonce: 0, Sender: 1, Target: 33, Value: wide.Of(20), Gas: 7, Data: []byte{1, 2}}
	apply(t, s, x, 0)
	if n, _ := s.Total(); n != wide.Of(30) || s.Slot(SentKey(0)) != message.Hash(false, m) || s.Account(0).Nonce != 1 {
		t.Error("sent")
	}
	apply(t, s, tx(message.Withdraw, 1, 1, 33, 31), api.ErrFunds)
	apply(t, s, tx(message.Withdraw, 1, 2, 0, 30), 0)
	if s.Account(0).Nonce != 2 || s.Slot(SentKey(1)) == (api.Hash{}) || s.Slot(SentKey(2)) != (api.Hash{}) || s.Account(1).Nonce != 3 {
		t.Error("the second one")
	}
	s.Set(0, state.Account{Nonce: ^uint64(0)})
	apply(t, s, tx(message.Withdraw, 1, 3, 33, 1), api.ErrFunds)
	apply(t, s, tx(message.Withdraw, 1, 4, 33, 0), api.ErrOver)
	if s.Account(1).Nonce != 5 || s.Account(0).Nonce != ^uint64(0) {
		t.Error("the last number")
	}
}

func TestReplays(t *testing.T) { // P1102, P1103, P1104
	s := begin(t)
	poor, bad, nobody := msg(0, 100, 5, 3, be(2)...), msg(1, 101, 6, 9), msg(2, 0, 7, 9)
	apply(t, s, again(1, 0, poor, 50), api.ErrNone)
	apply(t, s, down(poor), api.ErrGas)
	apply(t, s, down(bad), api.ErrAbort)
	apply(t, s, down(nobody), api.ErrTarget)
	apply(t, s, again(1, 1, poor, 9), api.ErrGas)
	apply(t, s, again(1, 2, bad, 50), api.ErrAbort)
	apply(t, s, again(1, 3, nobody, 50), api.ErrTarget)
	holder := s.Account(0)
	s.Set(0, state.Account{Balance: wide.Of(4)})
	apply(t, s, again(1, 4, poor, 50), api.ErrFunds)
	if Status(s, poor) != Held || s.Account(100) != (state.Account{}) {
		t.Error("without funds")
	}
	s.Set(0, holder)
	apply(t, s, again(1, 5, poor, 50), 0)
	if Status(s, poor) != Relayed || !balance(s, 0, 13) || s.Account(100).Words[0] != 2 || !balance(s, 100, 5) {
		t.Error("relayed")
	}
	apply(t, s, again(1, 6, poor, 50), api.ErrReplay)
	if s.Account(1).Nonce != 7 {
		t.Error("each raises the nonce")
	}
	own := msg(3, 1, 5, 0)
	s.Put(StatusKey(own), api.Hash{31: 1})
	apply(t, s, again(1, 7, own, 0), 0)
	if a := s.Account(1); a.Nonce != 8 || a.Balance != wide.Of(5) {
		t.Error("the target is From itself", a)
	}
}

func TestTouches(t *testing.T) { // P1102
	s := begin(t, Row{1, wide.Of(50)})
	s.Set(0, state.Account{Nonce: 5})
	m := msg(0, 7, 5, 0)
	for i, c := range []struct {
		x     message.Input
		who   []uint64
		slots []api.Hash
	}{
		{down(m), []uint64{0, 7}, []api.Hash{StatusKey(m)}},
		{down(msg(0, 0, 5, 0)), []uint64{0}, []api.Hash{StatusKey(msg(0, 0, 5, 0))}},
		{tx(message.Transfer, 9, 0, 2, 5), []uint64{2, 9}, nil},
		{tx(message.Transfer, 2, 0, 2, 5), []uint64{2}, nil},
		{tx(message.Transfer, 0, 0, 0, 5), []uint64{0}, nil},
		{tx(message.Withdraw, 9, 0, 2, 5), []uint64{0, 9}, []api.Hash{SentKey(5)}},
		{again(9, 0, m, 5), []uint64{0, 7, 9}, []api.Hash{StatusKey(m)}},
		{again(3, 0, m, 5), []uint64{0, 3, 7}, []api.Hash{StatusKey(m)}},
		{again(7, 0, m, 5), []uint64{0, 7}, []api.Hash{StatusKey(m)}},
		{message.Input{}, nil, nil},
	} {
		root := s.Root()
		who, slots := Touches(s, c.x)
		if !slices.Equal(who, c.who) || !slices.Equal(slots, c.slots) || s.Root() != root {
			t.Error(i, who, slots)
		}
	}
}

func TestFull(t *testing.T) { // P1102
	s := begin(t, Row{1, wide.Of(50)})
	for i := range uint64(4091) {
		s.Put(api.Hash{byte(i), byte(i >> 8)}, api.Hash{1})
	}
	if e := Apply(s, down(msg(0, 7, 5, 0))); e != 0 || s.Len() != 4094 {
		t.Error(e, s.Len())
	}
	if e := Apply(s, tx(message.Transfer, 1, 0, 1, 0)); e != api.ErrSize || s.Account(1).Nonce != 0 {
		t.Error(e)
	}
	if e := Apply(s, message.Input{}); e != api.ErrArg {
		t.Error(e)
	}
	s.Put(api.Hash{}, api.Hash{})
	if e := Apply(s, tx(message.Transfer, 1, 0, 1, 0)); e != api.ErrSize || s.Len() != 4093 {
		t.Error(e, s.Len())
	}
	s.Put(api.Hash{1}, api.Hash{})
	if e := Apply(s, tx(message.Transfer, 1, 0, 1, 0)); e != 0 || s.Len() != 4092 {
		t.Error(e, s.Len())
	}
}

func TestAnyInputs(t *testing.T) { // P1103, P1104, P1105
	r := rand.New(rand.NewSource(1))
	s := begin(t, Row{1, wide.Of(40)}, Row{2, wide.Of(40)})
	var sent []message.Message
	all := map[uint64]message.Message{}
	for step := range 300 {
		n := func(most int) uint64 { return uint64(r.Intn(most)) }
		from := 1 + n(2)
		nonce := s.Account(from).Nonce
		m := msg(n(12), []uint64{0, 1, 100, 101, 102}[n(5)], n(9), n(30))
		if old, ok := all[m.Nonce]; ok {
			m = old
		}
		all[m.Nonce] = m
		x := []message.Input{down(m), tx(message.Transfer, from, nonce, n(3), n(30)), tx(message.Withdraw, from, nonce, n(5), n(3)), again(from, nonce, m, n(60)), tx(message.Transfer, from, nonce+1, 2, 1)}[n(5)]
		before, _ := s.Total()
		status, count := Status(s, m), s.Account(0).Nonce
		e := Apply(s, x)
		after, _ := s.Total()
		want := before
		if x.Deposit && e != api.ErrReplay && e != api.ErrFunds && e != api.ErrOver {
			want, _ = wide.Add(before, x.Mint)
		}
		if x.Tx.Kind == message.Withdraw && e == api.OK {
			want, _ = wide.Sub(before, x.Tx.Value)
			sent = append(sent, message.Message{Nonce: count, Sender: from, Target: x.Tx.To, Value: x.Tx.Value})
		}
		if now := Status(s, m); after != want || now < status || status == Relayed && now != Relayed || s.Account(0).Nonce != uint64(len(sent)) {
			t.Fatal(step, e, before, after)
		}
	}
	for n, m := range sent {
		if s.Slot(SentKey(uint64(n))) != message.Hash(false, m) {
			t.Error("not sent", n)
		}
	}
	if len(sent) == 0 {
		t.Error("nothing was sent")
	}
}

func TestNobodys(t *testing.T) { // P1101
	for _, s := range []*state.State{nil, {}} {
		who, slots := Touches(s, down(msg(0, 1, 1, 1)))
		if Apply(s, down(msg(0, 1, 1, 1))) != api.ErrArg || who != nil || slots != nil || Status(s, message.Message{}) != 0 {
			t.Error("a call")
		}
	}
	m := msg(0, 7, 5, 0, 1, 2, 3)
	x := down(m)
	s := begin(t)
	Apply(s, x)
	if !reflect.DeepEqual(x, down(msg(0, 7, 5, 0, 1, 2, 3))) {
		t.Error("changed")
	}
}
