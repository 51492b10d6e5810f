package state

import (
	"bascule/api"
	"bascule/codec"
	"bascule/digest"
	"bascule/machine"
	"bascule/message"
	"bascule/wide"
)

const mostSteps = 1 << 17 // more than any call has gas for

// Key answers the key of an account.
func Key(who uint64) api.Hash {
	w := codec.NewWriter()
	w.Uint(who)
	return digest.Tagged("account", w.Bytes())
}

// Value answers an account's value in a map.
func Value(a Account) api.Hash {
	if a == (Account{}) {
		return api.Hash{}
	}
	return digest.Tagged("state", Bytes(a))
}

// Bytes answers an account as bytes.
func Bytes(a Account) []byte {
	w := codec.NewWriter()
	w.Uint(a.Nonce)
	w.Wide(a.Balance)
	w.Uint(a.Words[:]...)
	return w.Bytes()
}

// From answers the account that bytes tell.
func From(b []byte) (Account, api.Errno) {
	r := codec.NewReader(b)
	a := Account{Nonce: r.Uint(), Balance: r.Wide()}
	for i := range a.Words {
		a.Words[i] = r.Uint()
	}
	if r.Done() != api.OK {
		return Account{}, api.ErrForm
	}
	return a, api.OK
}

// Target answers the code of an account; none of most.
func Target(who uint64) []machine.Instr {
	switch who {
	case 100: // a counter
		return []machine.Instr{{Op: machine.Load}, {Op: machine.Input}, {Op: machine.Add}, {Op: machine.Store}, {Op: machine.Stop}}
	case 101: // gives up
		return []machine.Instr{{Op: machine.Abort}}
	case 102: // a till
		return []machine.Instr{{Op: machine.Load, Arg: 1}, {Op: machine.Value}, {Op: machine.Add}, {Op: machine.Store, Arg: 1}, {Op: machine.Caller}, {Op: machine.Store, Arg: 2}, {Op: machine.Stop}}
	case 103: // a mill
		return []machine.Instr{
			{Op: machine.Input}, {Op: machine.Dup}, {Op: machine.Branch, Arg: 4}, {Op: machine.Stop},
			{Op: machine.Push, Arg: 1}, {Op: machine.Sub}, {Op: machine.Load, Arg: 3}, {Op: machine.Push, Arg: 1},
			{Op: machine.Add}, {Op: machine.Store, Arg: 3}, {Op: machine.Jump, Arg: 1},
		}
	}
	return nil
}

// Execute answers the target's account a behind a call of m; of an error it is as it was.
func Execute(a Account, m message.Message, gas uint64) (Account, api.Errno) {
	if gas > api.MaxGas {
		return a, api.ErrArg
	}
	now := a
	if code := Target(m.Target); len(code) > 0 {
		c := machine.Context{Caller: m.Sender, Value: m.Value[0], Input: words(m.Data)}
		s, _ := machine.Run(code, c, machine.Start(gas, a.Words), mostSteps)
		if s.Status != machine.Stopped {
			return a, s.E
		}
		now.Words = s.Words
	}
	sum, e := wide.Add(a.Balance, m.Value)
	if e != api.OK {
		return a, e
	}
	now.Balance = sum
	return now, api.OK
}

// words answers data in words of eight bytes, zeros behind the last.
func words(data []byte) []uint64 {
	l := make([]uint64, (len(data)+7)/8)
	for i, x := range data {
		l[i/8] |= uint64(x) << (56 - i%8*8)
	}
	return l
}
