package message

import (
	"bytes"
	"encoding/binary"
	"math/rand"
	"reflect"
	"testing"

	"bascule/api"
	"bascule/digest"
	"bascule/wide"
)

func be(l ...uint64) []byte {
	var b []byte
	for _, n := range l {
		b = binary.BigEndian.AppendUint64(b, n)
	}
	return b
}

func join(l ...[]byte) []byte { return bytes.Join(l, nil) }

func bytesOfMessage(m Message) []byte {
	return join(be(m.Nonce, m.Sender, m.Target), wide.Bytes(m.Value), be(m.Gas, uint64(len(m.Data))), m.Data)
}

func bytesOfTx(t Tx) []byte {
	return join(be(uint64(t.Kind), t.From, t.Nonce, t.To), wide.Bytes(t.Value), be(t.Gas, uint64(len(t.Data))), t.Data)
}

func some(n int) []byte { return bytes.Repeat([]byte{7}, n) }

var someMessage = Message{1, 2, 3, api.Wide{4, 5}, api.MaxGas, some(64)}

func TestMessages(t *testing.T) { // P902, P903
	for i, c := range []struct {
		m    Message
		want bool
	}{
		{Message{}, true}, {someMessage, true},
		{Message{Gas: api.MaxGas + 1}, false}, {Message{Gas: 1 << 63}, false}, {Message{Data: some(65)}, false}, {Message{Data: some(100000)}, false},
	} {
		b, e := PutMessage(c.m)
		raw := bytesOfMessage(c.m)
		x, e2 := GetMessage(raw)
		if RightMessage(c.m) != c.want {
			t.Error(i)
		}
		if c.want && (e != 0 || !bytes.Equal(b, raw) || e2 != 0 || !reflect.DeepEqual(x.Data, append([]byte(nil), c.m.Data...)) || x.Nonce != c.m.Nonce || x.Sender != c.m.Sender || x.Target != c.m.Target || x.Value != c.m.Value || x.Gas != c.m.Gas) {
			t.Error(i, b, e, x, e2)
		}
		if !c.want && (b != nil || e != api.ErrArg || e2 != api.ErrForm || !reflect.DeepEqual(x, Message{})) {
			t.Error(i, b, e, x, e2)
		}
		if Hash(true, c.m) != digest.Tagged("down", raw) || Hash(false, c.m) != digest.Tagged("up", raw) {
			t.Error("hash", i)
		}
	}
	if Transfer != 1 || Withdraw != 2 || Replay != 3 {
		t.Error("kinds")
	}
	if b, _ := PutMessage(Message{}); len(b) != 72 {
		t.Error(len(b))
	}
}

func TestTxs(t *testing.T) { // P902
	m := bytesOfMessage(someMessage)
	for i, c := range []struct {
		t    Tx
		want bool
	}{
		{Tx{Kind: Transfer, From: 1, Nonce: 2, To: 3, Value: api.Wide{4}}, true},
		{Tx{Kind: Transfer, Gas: 1}, false}, {Tx{Kind: Transfer, Data: some(1)}, false}, {Tx{Kind: Transfer, Data: []byte{}}, true},
		{Tx{Kind: Withdraw, From: 1, To: 3, Value: api.Wide{4}, Gas: api.MaxGas, Data: some(64)}, true},
		{Tx{Kind: Withdraw, Data: some(65)}, false}, {Tx{Kind: Withdraw, Gas: api.MaxGas + 1}, false},
		{Tx{Kind: Replay, From: 1, Nonce: 2, Gas: 5, Data: m}, true},
		{Tx{Kind: Replay, To: 1, Data: m}, false}, {Tx{Kind: Replay, Value: api.Wide{0, 1}, Data: m}, false}, {Tx{Kind: Replay, Data: m[1:]}, false}, {Tx{Kind: Replay, Data: append(m, 0)}, false}, {Tx{Kind: Replay}, false},
		{Tx{Kind: Replay, Data: m, Gas: api.MaxGas + 1}, false},
		{Tx{}, false}, {Tx{Kind: -1}, false}, {Tx{Kind: 4}, false}, {Tx{Kind: 1<<62 + 1}, false},
	} {
		x := Input{Tx: c.t}
		b, e := PutInput(x)
		raw := join(be(0), bytesOfTx(c.t))
		if RightTx(c.t) != c.want || RightInput(x) != c.want || (e == 0) != c.want || c.want && !bytes.Equal(b, raw) || !c.want && e != api.ErrArg {
			t.Error(i, b, e)
		}
		got, e := GetInput(raw)
		if c.want && (e != 0 || got.Deposit || !bytes.Equal(bytesOfTx(got.Tx), raw[8:])) || !c.want && (e != api.ErrForm || !reflect.DeepEqual(got, Input{})) {
			t.Error("get", i, got, e)
		}
	}
}

func TestInputs(t *testing.T) { // P902, P903
	good := Input{Deposit: true, Mint: api.Wide{9}, Message: someMessage}
	raw := join(be(1), wide.Bytes(good.Mint), bytesOfMessage(someMessage))
	b, e := PutInput(good)
	if x, e2 := GetInput(b); e != 0 || e2 != 0 || !bytes.Equal(b, raw) || !reflect.DeepEqual(x, good) {
		t.Error(e, e2)
	}
	for i, change := range []func(x *Input){
		func(x *Input) { x.Tx.Kind = Transfer },
		func(x *Input) { x.Tx.From = 1 },
		func(x *Input) { x.Tx.Nonce = 1 },
		func(x *Input) { x.Tx.To = 1 },
		func(x *Input) { x.Tx.Value[3] = 1 },
		func(x *Input) { x.Tx.Gas = 1 },
		func(x *Input) { x.Tx.Data = some(1) },
		func(x *Input) { x.Message.Gas = api.MaxGas + 1 },
		func(x *Input) { x.Deposit = false },
		func(x *Input) { *x = Input{Tx: Tx{Kind: Transfer}, Mint: api.Wide{1}} },
		func(x *Input) { *x = Input{Tx: Tx{Kind: Transfer}, Message: Message{Nonce: 1}} },
		func(x *Input) { *x = Input{Tx: Tx{Kind: Transfer}, Message: Message{Sender: 1}} },
		func(x *Input) { *x = Input{Tx: Tx{Kind: Transfer}, Message: Message{Target: 1}} },
		func(x *Input) { *x = Input{Tx: Tx{Kind: Transfer}, Message: Message{Value: api.Wide{1}}} },
		func(x *Input) { *x = Input{Tx: Tx{Kind: Transfer}, Message: Message{Gas: 1}} },
		func(x *Input) { *x = Input{Tx: Tx{Kind: Transfer}, Message: Message{Data: some(1)}} },
	} {
		x := good
		change(&x)
		if b, e := PutInput(x); RightInput(x) || b != nil || e != api.ErrArg {
			t.Error(i, e)
		}
	}
	empty := Input{Tx: Tx{Kind: Transfer, Data: []byte{}}, Message: Message{Data: []byte{}}}
	if !RightInput(empty) || !RightInput(Input{Deposit: true, Tx: Tx{Data: []byte{}}}) {
		t.Error("empty lists and nil ones mean the same")
	}
	for n := range raw {
		if x, e := GetInput(raw[:n]); e != api.ErrForm || !reflect.DeepEqual(x, Input{}) {
			t.Error(n, e)
		}
	}
	for _, bad := range [][]byte{append(bytes.Clone(raw), 0), join(be(2), raw[8:]), join(be(0), raw[8:]), join(be(1<<63), raw[8:])} {
		if _, e := GetInput(bad); e != api.ErrForm {
			t.Error(e)
		}
	}
}

func TestBatches(t *testing.T) { // P902, P903
	tx := Tx{Kind: Withdraw, From: 1, Nonce: 1 << 63, To: 3, Value: api.Wide{4}, Gas: 5, Data: some(6)}
	replay := Tx{Kind: Replay, Data: bytesOfMessage(someMessage)}
	for n := range 11 {
		x := Batch{Epoch: 1<<64 - 1}
		raw := be(x.Epoch, uint64(n))
		for i := range n {
			x.Txs = append(x.Txs, []Tx{tx, replay}[i%2])
			raw = append(raw, bytesOfTx(x.Txs[i])...)
		}
		b, e := PutBatch(x)
		got, e2 := GetBatch(raw)
		if n <= api.MaxTxs && (e != 0 || !bytes.Equal(b, raw) || e2 != 0 || got.Epoch != x.Epoch || len(got.Txs) != n) {
			t.Error(n, e, e2)
		}
		for i := range got.Txs {
			if !reflect.DeepEqual(got.Txs[i], x.Txs[i]) {
				t.Error(got.Txs[i])
			}
		}
		if n > api.MaxTxs && (e != api.ErrArg || b != nil || e2 != api.ErrForm || !reflect.DeepEqual(got, Batch{})) {
			t.Error(n, e, e2)
		}
		if _, e := GetBatch(append(raw, 0)); e != api.ErrForm {
			t.Error(n, e)
		}
	}
	bad := Batch{Txs: []Tx{tx, {}}}
	if b, e := PutBatch(bad); b != nil || e != api.ErrArg {
		t.Error(e)
	}
	if _, e := GetBatch(join(be(0, 2), bytesOfTx(tx), bytesOfTx(Tx{}))); e != api.ErrForm {
		t.Error(e)
	}
}

func TestAnyBytes(t *testing.T) { // P8, P903
	r := rand.New(rand.NewSource(1))
	good, _ := PutInput(Input{Deposit: true, Message: someMessage})
	for range 2000 {
		b := bytes.Clone(good)
		b[r.Intn(len(b))] ^= 1 << r.Intn(8)
		if x, e := GetInput(b); e == 0 {
			if again, e := PutInput(x); e != 0 || !bytes.Equal(again, b) {
				t.Error(b)
			}
		}
	}
}

func TestNames(t *testing.T) { // P904
	seen := map[api.Hash]bool{}
	for _, m := range []Message{{}, {Nonce: 1}, {Sender: 1}, {Target: 1}, {Value: api.Wide{1}}, {Gas: 1}, {Data: []byte{0}}, {Data: []byte{0, 0}}, {Data: some(100)}} {
		for _, down := range []bool{true, false} {
			h := Hash(down, m)
			if seen[h] {
				t.Error("a name twice", m)
			}
			seen[h] = true
		}
	}
	if Hash(true, Message{}) != Hash(true, Message{Data: []byte{}}) {
		t.Error("nil data")
	}
}
