package message

import (
	"bascule/api"
	"bascule/codec"
)

// parser reads what it is of, out of a reader; that it may be is asked behind it.
type parser interface {
	parse(r *codec.Reader)
}

// read hands all of b to p, and tells whether that was just what p asked for.
func read(b []byte, p parser) bool {
	r := codec.NewReader(b)
	p.parse(r)
	return r.Done() == api.OK
}

// messageBytes answers the bytes of any message, also of one whose data are too long for a Blob.
func messageBytes(m Message) []byte {
	w := codec.NewWriter()
	w.Uint(m.Nonce, m.Sender, m.Target)
	w.Wide(m.Value)
	w.Uint(m.Gas, uint64(len(m.Data)))
	return append(w.Bytes(), m.Data...)
}

func txBytes(t Tx) []byte {
	w := codec.NewWriter()
	w.Uint(uint64(t.Kind), t.From, t.Nonce, t.To)
	w.Wide(t.Value)
	w.Uint(t.Gas)
	w.Blob(t.Data)
	return w.Bytes()
}

func number(n uint64) []byte {
	w := codec.NewWriter()
	w.Uint(n)
	return w.Bytes()
}

func (m *Message) parse(r *codec.Reader) {
	m.Nonce, m.Sender, m.Target = r.Uint(), r.Uint(), r.Uint()
	m.Value = r.Wide()
	m.Gas = r.Uint()
	m.Data = r.Blob()
}

func (t *Tx) parse(r *codec.Reader) {
	t.Kind = r.Count(Replay)
	t.From, t.Nonce, t.To = r.Uint(), r.Uint(), r.Uint()
	t.Value = r.Wide()
	t.Gas = r.Uint()
	t.Data = r.Blob()
}

func (x *Input) parse(r *codec.Reader) {
	x.Deposit = r.Count(1) == 1
	if x.Deposit {
		x.Mint = r.Wide()
		x.Message.parse(r)
		return
	}
	x.Tx.parse(r)
}

func (x *Batch) parse(r *codec.Reader) {
	x.Epoch = r.Uint()
	x.Txs = make([]Tx, r.Count(api.MaxTxs))
	for i := range x.Txs {
		x.Txs[i].parse(r)
	}
}

// PutMessage answers a message as bytes.
func PutMessage(m Message) ([]byte, api.Errno) {
	if !RightMessage(m) {
		return nil, api.ErrArg
	}
	return messageBytes(m), api.OK
}

// GetMessage answers the message that bytes tell.
func GetMessage(b []byte) (Message, api.Errno) {
	var m Message
	if !read(b, &m) || !RightMessage(m) {
		return Message{}, api.ErrForm
	}
	return m, api.OK
}

// PutInput answers an input as bytes.
func PutInput(x Input) ([]byte, api.Errno) {
	switch {
	case !RightInput(x):
		return nil, api.ErrArg
	case !x.Deposit:
		return append(number(0), txBytes(x.Tx)...), api.OK
	}
	w := codec.NewWriter()
	w.Uint(1)
	w.Wide(x.Mint)
	return append(w.Bytes(), messageBytes(x.Message)...), api.OK
}

// GetInput answers the input that bytes tell.
func GetInput(b []byte) (Input, api.Errno) {
	var x Input
	if !read(b, &x) || !RightInput(x) {
		return Input{}, api.ErrForm
	}
	return x, api.OK
}

// PutBatch answers a batch as bytes.
func PutBatch(x Batch) ([]byte, api.Errno) {
	if !rightBatch(x) {
		return nil, api.ErrArg
	}
	b := append(number(x.Epoch), number(uint64(len(x.Txs)))...)
	for _, t := range x.Txs {
		b = append(b, txBytes(t)...)
	}
	return b, api.OK
}

// GetBatch answers the batch that bytes tell.
func GetBatch(b []byte) (Batch, api.Errno) {
	var x Batch
	if !read(b, &x) || !rightBatch(x) {
		return Batch{}, api.ErrForm
	}
	return x, api.OK
}
