// Package whole tests what holds of all layers together.
package whole

import (
	"math/rand"
	"reflect"
	"slices"
	"strings"
	"testing"

	"bascule/api"
	"bascule/book"
	"bascule/chain"
	"bascule/claim"
	"bascule/codec"
	"bascule/derive"
	"bascule/digest"
	"bascule/fold"
	"bascule/game"
	"bascule/ground"
	"bascule/inbox"
	"bascule/lane"
	"bascule/machine"
	"bascule/message"
	"bascule/oracle"
	"bascule/portal"
	"bascule/proof"
	"bascule/script"
	"bascule/smt"
	"bascule/state"
	"bascule/wide"
	"bascule/witness"
	"bascule/world"
)

// pure are all functions of the layers, but state.Execute, which answers an account beside an error, and machine.Run, which may go on as long as there is gas.
func pure() []any {
	return []any{
		wide.Of, wide.Low, wide.Add, wide.Sub, wide.Mul, wide.Div, wide.Compare, wide.Bytes, wide.From, wide.Print, wide.Parse,
		digest.Sum, digest.Frame, digest.Tagged, digest.Pair, digest.Print, digest.Parse,
		codec.NewWriter, codec.NewReader, book.New, book.Check, smt.New, smt.Leaf, smt.Above,
		proof.Right, proof.Root, proof.Check, proof.Update, proof.Walk, proof.Put, proof.Get,
		lane.Root, lane.Prove, lane.Check, lane.Put, lane.Get,
		machine.Right, machine.Code, machine.Decode, machine.Root, machine.Start, machine.Step, machine.Hash, machine.Prove, machine.One,
		message.RightMessage, message.RightTx, message.RightInput, message.Hash, message.PutMessage, message.GetMessage, message.PutInput, message.GetInput, message.PutBatch, message.GetBatch,
		state.New, state.Key, state.Value, state.Bytes, state.From, state.Target,
		chain.Genesis, chain.Apply, chain.Touches, chain.Status, chain.StatusKey, chain.SentKey, chain.Output,
		witness.Make, witness.One, witness.Put, witness.Get, inbox.New, inbox.Digest,
		derive.Known, derive.Find, derive.Inputs, derive.All, fold.New,
		claim.Open, claim.Right, claim.Middle, claim.Last, claim.Post, claim.Choose, claim.Rounds, claim.Honest, claim.Judge,
		game.New, game.Right, game.Turn, game.Post, game.Choose, game.Prove, game.Timeout, game.Longest,
		oracle.New, portal.New, ground.New, world.New,
		script.Fits, script.Print, script.Parse, script.Read, script.Tell, script.Story,
	}
}

func objects() []any {
	return []any{&codec.Writer{}, &codec.Reader{}, &book.Book{}, &smt.Map{}, &state.State{}, &inbox.Inbox{}, &fold.Model{}, &oracle.Oracle{}, &portal.Portal{}, &ground.Ground{}, &world.World{}}
}

// maker makes arguments of any type, at the edges more often than not; what was answered before comes back as an argument.
type maker struct {
	r    *rand.Rand
	seen map[reflect.Type][]reflect.Value
}

func (m *maker) number() int64 {
	l := []int64{-1 << 63, -1, 7, 8, 11, 12, 13, 14, 64, 65, 100, 101, 102, 103, 128, 1 << 12, 1 << 20, 1 << 31, 1 << 40, 1<<40 + 1, 1 << 62, 1<<63 - 1}
	if m.r.Intn(2) == 0 {
		return int64(m.r.Intn(6))
	}
	return l[m.r.Intn(len(l))]
}

func (m *maker) text() string {
	l := []string{"", "0", "close", "new 1 3 3 10 99", "new 1 3 3 10 99\nrun 5\nfinal\n", "act 13", "x\n", "down", strings.Repeat("9", 80), strings.Repeat("tag", 100)}
	return l[m.r.Intn(len(l))]
}

func (m *maker) value(t reflect.Type, depth int) reflect.Value {
	if old := m.seen[t]; len(old) > 0 && (t.Kind() == reflect.Pointer && m.r.Intn(8) > 0 || m.r.Intn(3) == 0) {
		return old[m.r.Intn(len(old))]
	}
	v := reflect.New(t).Elem()
	switch t.Kind() {
	case reflect.Bool:
		v.SetBool(m.r.Intn(2) == 0)
	case reflect.Int:
		v.SetInt(m.number())
	case reflect.Uint64:
		v.SetUint(uint64(m.number()))
	case reflect.Uint8:
		v.SetUint(uint64(m.r.Intn(256)))
	case reflect.String:
		v.SetString(m.text())
	case reflect.Slice:
		n := []int{0, 1, 2, 3, 9, 33, 70}[m.r.Intn(7)]
		if depth > 2 {
			n = m.r.Intn(3)
		}
		v = reflect.MakeSlice(t, n, n+m.r.Intn(4))
		for i := range n {
			v.Index(i).Set(m.value(t.Elem(), depth+1))
		}
	case reflect.Array:
		for i := range v.Len() {
			if m.r.Intn(5) == 0 {
				v.Index(i).Set(m.value(t.Elem(), depth+1))
			}
		}
	case reflect.Struct:
		for i := range v.NumField() {
			if v.Field(i).CanSet() {
				v.Field(i).Set(m.value(v.Field(i).Type(), depth+1))
			}
		}
	case reflect.Pointer:
		if m.r.Intn(2) == 0 {
			v = reflect.New(t.Elem())
		}
	}
	return v
}

func (m *maker) keep(v reflect.Value) {
	t := v.Type()
	if k := t.Kind(); v.IsZero() || k != reflect.Pointer && k != reflect.Struct && k != reflect.Array && k != reflect.Slice {
		return
	}
	if old := m.seen[t]; len(old) >= 30 {
		old[m.r.Intn(len(old))] = v
		return
	}
	m.seen[t] = append(m.seen[t], v)
}

// call calls a function with anything, and looks that all is zero beside an error.
func (m *maker) call(t *testing.T, name string, f reflect.Value) {
	t.Helper()
	kind := f.Type()
	var in []reflect.Value
	for i := range kind.NumIn() {
		in = append(in, m.value(kind.In(i), 0))
	}
	if name == "Run" && in[1].Int() > 3 && in[1].Int() < 1000 { // a world's: shorter ones say as much
		in[1] = reflect.ValueOf(3)
	}
	call := f.Call
	if kind.IsVariadic() {
		call = f.CallSlice
	}
	out := call(in)
	failed := slices.ContainsFunc(out, func(v reflect.Value) bool { e, ok := v.Interface().(api.Errno); return ok && e != api.OK })
	for _, v := range out {
		_, isError := v.Interface().(api.Errno)
		did := name == "Act" || name == "Run" // these tell what was done beside an error
		if failed && !isError && !did && !v.IsZero() && (v.Kind() != reflect.Slice || v.Len() > 0) {
			t.Error("not zero beside an error", name, kind)
		}
		m.keep(v)
	}
}

func TestWhateverIsCalled(t *testing.T) { // P9
	m := &maker{rand.New(rand.NewSource(1)), map[reflect.Type][]reflect.Value{}}
	var rows []chain.Row
	for _, who := range []uint64{1, 2, 11, 12, 13, 14} {
		rows = append(rows, chain.Row{Who: who, Balance: wide.Of(1000)})
	}
	c := ground.Config{Window: 1, Wait: 3, Clock: 3, Bond: 1}
	w, _ := world.New(c, rows...)
	g, _ := ground.New(c, rows...)
	s, _ := chain.Genesis(rows...)
	for _, x := range []any{w, g, s} {
		m.keep(reflect.ValueOf(x))
	}
	functions, types := pure(), objects()
	for range 60000 {
		if m.r.Intn(2) == 0 {
			m.call(t, "", reflect.ValueOf(functions[m.r.Intn(len(functions))]))
			continue
		}
		kind := reflect.TypeOf(types[m.r.Intn(len(types))])
		method := kind.Method(m.r.Intn(kind.NumMethod()))
		m.call(t, method.Name, method.Func)
	}
}

func TestTheSameSteps(t *testing.T) { // P9
	story := strings.Join([]string{
		"new 1 3 3 10 200", "deposit 1 7 50 0 0", "deposit 2 101 6 9 0", "deposit 3 100 4 20 5", "run 2", "withdraw 7 0 8 3 0 0", "withdraw 7 1 101 4 9 0", "propose 4 1 9", "run 20",
		"ups", "downs", "sums", "final", "proposals", "disputes", "account 12", "second 7", "height",
	}, "\n")
	first := script.Story(story)
	for range 3 {
		if script.Story(story) != first {
			t.Error("the same steps say another thing")
		}
	}
	if !strings.Contains(first, "\nfinal = 16 1\n") || !strings.Contains(first, "\nproposals = 1 4 2 ") {
		t.Error(first)
	}
}
