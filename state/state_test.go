package state

import (
	"bytes"
	"encoding/binary"
	"math/rand"
	"reflect"
	"testing"

	"bascule/api"
	"bascule/digest"
	"bascule/machine"
	"bascule/message"
	"bascule/proof"
	"bascule/smt"
	"bascule/wide"
)

func be(l ...uint64) []byte {
	var b []byte
	for _, n := range l {
		b = binary.BigEndian.AppendUint64(b, n)
	}
	return b
}

func TestForms(t *testing.T) { // P1003
	a := Account{Nonce: 1, Balance: api.Wide{2, 3}, Words: [16]uint64{4, 15: 5}}
	raw := append(append(be(1), wide.Bytes(a.Balance)...), be(a.Words[:]...)...)
	if !bytes.Equal(Bytes(a), raw) || Value(a) != digest.Tagged("state", raw) || Value(Account{}) != (api.Hash{}) || Key(7) != digest.Tagged("account", be(7)) {
		t.Error("forms")
	}
	if x, e := From(raw); x != a || e != 0 {
		t.Error(x, e)
	}
	for _, b := range [][]byte{nil, raw[1:], append(raw, 0)} {
		if x, e := From(b); x != (Account{}) || e != api.ErrForm {
			t.Error(x, e)
		}
	}
}

func TestState(t *testing.T) { // P1002, P1004
	s := New()
	a, b := Account{Nonce: 1, Balance: api.Wide{5}}, Account{Words: [16]uint64{9: 1}}
	k, v := api.Hash{1}, api.Hash{2}
	if s.Set(1, a) != 0 || s.Set(2, b) != 0 || s.Put(k, v) != 0 || s.Account(1) != a || s.Account(2) != b || s.Account(3) != (Account{}) || s.Slot(k) != v || s.Slot(v) != (api.Hash{}) || s.Len() != 3 {
		t.Error("looks")
	}
	m, _ := smt.New(smt.Pair{Key: Key(1), Value: Value(a)}, smt.Pair{Key: Key(2), Value: Value(b)}, smt.Pair{Key: k, Value: v})
	if s.Root() != m.Root() || !reflect.DeepEqual(s.Prove(k), m.Prove(k)) || !proof.Check(s.Root(), Key(1), Value(a), s.Prove(Key(1))) {
		t.Error("root")
	}
	if s.Put(Key(1), v) != api.ErrThere || s.Slot(Key(1)) != (api.Hash{}) || s.Root() != m.Root() || s.Len() != 3 {
		t.Error("a slot of an account")
	}
	c := s.Clone()
	s.Set(1, Account{})
	s.Put(k, api.Hash{})
	if s.Len() != 1 || s.Account(1) != (Account{}) || s.Slot(k) != (api.Hash{}) || c.Root() != m.Root() || c.Account(1) != a || c.Slot(k) != v || c.Len() != 3 {
		t.Error("apart")
	}
	c.Set(1, b)
	c.Put(k, k)
	s.Set(2, Account{})
	if s.Root() != (api.Hash{}) || s.Len() != 0 || s.Account(1) != (Account{}) || s.Slot(k) != (api.Hash{}) {
		t.Error("empty again")
	}
}

func TestSlotsOfAccounts(t *testing.T) { // P1002
	s := New()
	v, a := api.Hash{2}, Account{Nonce: 1}
	if s.Put(Key(1), v) != 0 || s.Slot(Key(1)) != v || s.Account(1) != (Account{}) {
		t.Error("a slot there")
	}
	if s.Set(1, a) != 0 || s.Slot(Key(1)) != (api.Hash{}) || s.Account(1) != a || s.Len() != 1 || s.Put(Key(1), v) != api.ErrThere {
		t.Error("an account over it")
	}
	if s.Set(1, Account{}) != 0 || s.Slot(Key(1)) != (api.Hash{}) || s.Len() != 0 || s.Put(Key(1), v) != 0 || s.Slot(Key(1)) != v {
		t.Error("a slot again")
	}
	if s.Set(1, Account{}) != 0 || s.Slot(Key(1)) != (api.Hash{}) || s.Len() != 0 {
		t.Error("a zero account over it")
	}
}

func TestTotal(t *testing.T) { // P1002
	s := New()
	top := api.Wide{^uint64(0), ^uint64(0), ^uint64(0), ^uint64(0)}
	s.Set(1, Account{Balance: api.Wide{5}})
	s.Set(9, Account{Balance: api.Wide{0, 1}})
	s.Set(3, Account{Nonce: 7})
	if n, e := s.Total(); n != (api.Wide{5, 1}) || e != 0 {
		t.Error(n, e)
	}
	s.Set(4, Account{Balance: top})
	if n, e := s.Total(); n != (api.Wide{}) || e != api.ErrOver {
		t.Error(n, e)
	}
}

func TestFull(t *testing.T) { // P1002
	s := New()
	for i := range uint64(4095) {
		s.Put(api.Hash{byte(i), byte(i >> 8), 1}, api.Hash{1})
	}
	one := Account{Nonce: 1}
	if s.Set(1, one) != 0 || s.Len() != 4096 || s.Set(2, one) != api.ErrSize || s.Account(2) != (Account{}) || s.Put(api.Hash{}, api.Hash{1}) != api.ErrSize || s.Len() != 4096 {
		t.Error("full")
	}
	if s.Set(2, Account{}) != 0 || s.Put(api.Hash{}, api.Hash{}) != 0 || s.Set(1, Account{Nonce: 2}) != 0 || s.Clone().Len() != 4096 {
		t.Error("nothing further")
	}
	if s.Set(1, Account{}) != 0 || s.Set(2, one) != 0 || s.Len() != 4096 {
		t.Error("room again")
	}
}

func TestTargets(t *testing.T) { // P1003
	const ld, in, st = machine.Load, machine.Input, machine.Store
	want := map[uint64][]machine.Instr{
		100: {{Op: ld}, {Op: in}, {Op: machine.Add}, {Op: st}, {}},
		101: {{Op: machine.Abort}},
		102: {{Op: ld, Arg: 1}, {Op: machine.Value}, {Op: machine.Add}, {Op: st, Arg: 1}, {Op: machine.Caller}, {Op: st, Arg: 2}, {}},
		103: {{Op: in}, {Op: machine.Dup}, {Op: machine.Branch, Arg: 4}, {}, {Op: machine.Push, Arg: 1}, {Op: machine.Sub}, {Op: ld, Arg: 3}, {Op: machine.Push, Arg: 1}, {Op: machine.Add}, {Op: st, Arg: 3}, {Op: machine.Jump, Arg: 1}},
	}
	for who := range uint64(300) {
		l := Target(who)
		if len(l) != len(want[who]) || len(l) > 0 && !reflect.DeepEqual(l, want[who]) || !machine.Right(l) {
			t.Error(who, l)
		}
	}
	Target(100)[0].Op = machine.Abort
	if Target(100)[0].Op != ld {
		t.Error("shared")
	}
}

func TestExecute(t *testing.T) { // P1003, P1005
	top := api.Wide{^uint64(0), ^uint64(0), ^uint64(0), ^uint64(0)}
	a := Account{Nonce: 3, Balance: api.Wide{10}, Words: [16]uint64{0: 5, 1: 6, 3: 7}}
	msg := func(target uint64, value api.Wide, data ...byte) message.Message {
		return message.Message{Nonce: 1, Sender: 77, Target: target, Value: value, Gas: 3, Data: data}
	}
	for i, c := range []struct {
		m    message.Message
		gas  uint64
		e    api.Errno
		want func(a *Account)
	}{
		{msg(100, api.Wide{4}, be(2)...), 20, 0, func(a *Account) { a.Words[0], a.Balance = 7, api.Wide{14} }},
		{msg(100, api.Wide{}, 1), 10, 0, func(a *Account) { a.Words[0] += 1 << 56 }},
		{msg(100, api.Wide{}), 9, api.ErrGas, nil},
		{msg(101, api.Wide{4}), 9, api.ErrAbort, nil},
		{msg(101, api.Wide{4}), 0, api.ErrGas, nil},
		{msg(102, api.Wide{4, 1}), 100, 0, func(a *Account) { a.Words[1], a.Words[2], a.Balance = 10, 77, api.Wide{14, 1} }},
		{msg(103, api.Wide{}, be(3)...), 100, 0, func(a *Account) { a.Words[3] = 10 }},
		{msg(103, api.Wide{}, be(1<<40)...), api.MaxGas, api.ErrGas, nil},
		{msg(103, api.Wide{}), api.MaxGas + 1, api.ErrArg, nil},
		{msg(7, api.Wide{1}), api.MaxGas + 1, api.ErrArg, nil},
		{msg(7, api.Wide{1}), 0, 0, func(a *Account) { a.Balance = api.Wide{11} }},
		{msg(0, api.Wide{1}), 0, 0, func(a *Account) { a.Balance = api.Wide{11} }},
		{msg(7, top), 0, api.ErrOver, nil},
		{msg(100, top), 99, api.ErrOver, nil},
		{msg(100, top), 1, api.ErrGas, nil},
	} {
		want := a
		if c.want != nil {
			c.want(&want)
		}
		if x, e := Execute(a, c.m, c.gas); x != want || e != c.e {
			t.Error(i, x, e)
		}
	}
	long := msg(7, api.Wide{})
	long.Data = make([]byte, 1<<20)
	if x, e := Execute(a, long, 5); x != a || e != 0 {
		t.Error(e)
	}
}

func TestRootTellsAll(t *testing.T) { // P1004
	r := rand.New(rand.NewSource(1))
	s, u := New(), New()
	for range 60 {
		who, a := uint64(r.Intn(5)), Account{Nonce: uint64(r.Intn(3))}
		key, v := api.Hash{byte(r.Intn(4))}, api.Hash{byte(r.Intn(3))}
		if r.Intn(2) == 0 {
			s, u = u, s
		}
		s.Set(who, a)
		s.Put(key, v)
		same := true
		for n := range uint64(5) {
			same = same && s.Account(n) == u.Account(n) && s.Slot(api.Hash{byte(n)}) == u.Slot(api.Hash{byte(n)})
		}
		if same != (s.Root() == u.Root()) {
			t.Error("root", same)
		}
	}
}

func TestNobodys(t *testing.T) { // P1001
	for _, s := range []*State{nil, {}} {
		n, e := s.Total()
		if s.Account(1) != (Account{}) || s.Set(1, Account{}) != api.ErrArg || s.Slot(api.Hash{}) != (api.Hash{}) || s.Put(api.Hash{}, api.Hash{}) != api.ErrArg || s.Root() != (api.Hash{}) || s.Prove(api.Hash{}).Sides != nil || n != (api.Wide{}) || e != api.ErrArg || s.Len() != 0 || s.Clone() != nil {
			t.Error("a call")
		}
	}
}
