package machine

import (
	"bytes"
	"encoding/binary"
	"math/rand"
	"reflect"
	"slices"
	"testing"

	"bascule/api"
	"bascule/digest"
	"bascule/lane"
	"bascule/proof"
	"bascule/smt"
)

func TestRight(t *testing.T) { // P802
	for op := -3; op < 25; op++ {
		for _, arg := range []uint64{0, 1, 15, 16, 31, 32, 1 << 40} {
			want := op >= Stop && op <= Abort
			switch op {
			case Push, Jump, Branch, Input:
			case Dup, Swap:
				want = want && arg < 32
			case Load, Store:
				want = want && arg < 16
			default:
				want = want && arg == 0
			}
			l := []Instr{{Push, 7}, {op, arg}}
			b, e := Code(l)
			if Right(l) != want || (e == 0) != want || !want && (e != api.ErrArg || b != nil) {
				t.Error(op, arg, e)
			}
			raw := append([]byte{1, 0, 0, 0, 0, 0, 0, 0, 7, byte(op)}, binary.BigEndian.AppendUint64(nil, arg)...)
			if want && !bytes.Equal(b, raw) {
				t.Error(b)
			}
			x, e := Decode(raw)
			if want && (e != 0 || !slices.Equal(x, l)) || !want && (e != api.ErrForm || x != nil) {
				t.Error("decode", op, arg, e)
			}
			if Root(l) != lane.Root(raw[:9], raw[9:]) {
				t.Error("root", op, arg)
			}
		}
	}
}

func TestCode(t *testing.T) { // P802
	if !Right(nil) || !Right(make([]Instr, 128)) || Right(make([]Instr, 129)) || Root(nil) != lane.Root() {
		t.Error("right")
	}
	if b, e := Code(make([]Instr, 129)); b != nil || e != api.ErrArg {
		t.Error(e)
	}
	for n := range 30 {
		l, e := Decode(make([]byte, n))
		if good := n%9 == 0; good != (e == 0) || good && len(l) != n/9 || !good && e != api.ErrForm {
			t.Error(n, e)
		}
	}
	if _, e := Decode(make([]byte, 9*128)); e != 0 {
		t.Error(e)
	}
	if l, e := Decode(make([]byte, 9*129)); e != api.ErrForm || l != nil {
		t.Error(e)
	}
	w := [16]uint64{3: 4}
	if s := Start(9, w); !reflect.DeepEqual(s, State{Gas: 9, Words: w}) {
		t.Error(s)
	}
}

// run answers what a piece of code leaves, with gas enough.
func run(t *testing.T, c Context, l ...Instr) State {
	t.Helper()
	s, _ := Run(l, c, Start(1000, [16]uint64{2: 22, 15: 99}), 1000)
	return s
}

func push(l ...uint64) []Instr {
	var out []Instr
	for _, x := range l {
		out = append(out, Instr{Push, x})
	}
	return out
}

func TestOps(t *testing.T) { // P803
	const big = 1<<64 - 1
	c := Context{Caller: 5, Value: 6, Input: []uint64{7, 8}}
	for i, x := range []struct {
		before []uint64
		do     Instr
		after  []uint64
		e      api.Errno
	}{
		{[]uint64{1, 2, 3}, Instr{Pop, 0}, []uint64{1, 2}, 0},
		{nil, Instr{Pop, 0}, nil, api.ErrStack},
		{[]uint64{1, 2, 3}, Instr{Dup, 0}, []uint64{1, 2, 3, 3}, 0},
		{[]uint64{1, 2, 3}, Instr{Dup, 2}, []uint64{1, 2, 3, 1}, 0},
		{[]uint64{1, 2, 3}, Instr{Dup, 3}, nil, api.ErrStack},
		{[]uint64{1, 2, 3}, Instr{Swap, 0}, []uint64{1, 3, 2}, 0},
		{[]uint64{1, 2, 3}, Instr{Swap, 1}, []uint64{3, 2, 1}, 0},
		{[]uint64{1, 2, 3}, Instr{Swap, 2}, nil, api.ErrStack},
		{[]uint64{9, 2, 3}, Instr{Add, 0}, []uint64{9, 5}, 0},
		{[]uint64{big, 3}, Instr{Add, 0}, []uint64{2}, 0},
		{[]uint64{2, 3}, Instr{Sub, 0}, []uint64{big}, 0},
		{[]uint64{1 << 63, 6}, Instr{Mul, 0}, []uint64{0}, 0},
		{[]uint64{17, 5}, Instr{Div, 0}, []uint64{3}, 0},
		{[]uint64{17, 5}, Instr{Mod, 0}, []uint64{2}, 0},
		{[]uint64{17, 0}, Instr{Div, 0}, nil, api.ErrZero},
		{[]uint64{17, 0}, Instr{Mod, 0}, nil, api.ErrZero},
		{[]uint64{0}, Instr{Div, 0}, nil, api.ErrStack},
		{[]uint64{2, 3}, Instr{Less, 0}, []uint64{1}, 0},
		{[]uint64{3, 3}, Instr{Less, 0}, []uint64{0}, 0},
		{[]uint64{3, 3}, Instr{Same, 0}, []uint64{1}, 0},
		{[]uint64{3, 4}, Instr{Same, 0}, []uint64{0}, 0},
		{nil, Instr{Load, 2}, []uint64{22}, 0},
		{nil, Instr{Load, 3}, []uint64{0}, 0},
		{nil, Instr{Input, 1}, []uint64{8}, 0},
		{nil, Instr{Input, 2}, []uint64{0}, 0},
		{nil, Instr{Input, big}, []uint64{0}, 0},
		{nil, Instr{Value, 0}, []uint64{6}, 0},
		{nil, Instr{Caller, 0}, []uint64{5}, 0},
		{nil, Instr{Store, 0}, nil, api.ErrStack},
		{nil, Instr{Branch, 0}, nil, api.ErrStack},
		{[]uint64{1}, Instr{Abort, 0}, nil, api.ErrAbort},
	} {
		s := run(t, c, append(append(push(x.before...), x.do), Instr{})...)
		if x.e == 0 && (s.Status != Stopped || s.E != 0 || !slices.Equal(s.Stack, x.after) || s.PC != len(x.before)+1) {
			t.Error(i, s)
		}
		if x.e != 0 && (s.Status != Failed || s.E != x.e || !slices.Equal(s.Stack, x.before) || s.PC != len(x.before)) {
			t.Error(i, s)
		}
	}
	if s := run(t, c, Instr{Push, 77}, Instr{Store, 15}); s.Words != [16]uint64{2: 22, 15: 77} || s.E != api.ErrOp || s.PC != 2 || len(s.Stack) != 0 {
		t.Error(s)
	}
}

func TestJumps(t *testing.T) { // P803
	for i, x := range []struct {
		l    []Instr
		pc   int
		last api.Errno
	}{
		{[]Instr{{Jump, 2}, {Abort, 0}, {Stop, 0}}, 2, 0},
		{[]Instr{{Jump, 1 << 63}}, 128, api.ErrOp},
		{[]Instr{{Jump, 129}}, 128, api.ErrOp},
		{[]Instr{{Push, 1}, {Branch, 3}, {Abort, 0}, {Stop, 0}}, 3, 0},
		{[]Instr{{Push, 1 << 63}, {Branch, 127}}, 127, api.ErrOp},
		{[]Instr{{Push, 0}, {Branch, 9}, {Stop, 0}}, 2, 0},
		{nil, 0, api.ErrOp},
	} {
		if s := run(t, Context{}, x.l...); s.PC != x.pc || s.E != x.last || len(s.Stack) != 0 {
			t.Error(i, s)
		}
	}
}

func TestCosts(t *testing.T) { // P803
	l := []Instr{{Load, 2}, {Store, 3}, {Stop, 0}}
	for gas := range uint64(10) {
		s, n := Run(l, Context{}, Start(gas, [16]uint64{}), 99)
		want, steps, left := api.ErrGas, 3, uint64(0)
		switch {
		case gas < 2:
			steps = 1
		case gas < 7:
			steps = 2
		case gas >= 8:
			want, left = 0, gas-8
		}
		if s.E != want || n != steps || s.Gas != left || n > int(gas)+1 { // P806
			t.Error(gas, s, n)
		}
	}
	s := Step([]Instr{{Div, 0}}, Context{}, State{Gas: 5})
	if s.E != api.ErrStack || s.Gas != 4 {
		t.Error("the cost comes ahead of the stack", s)
	}
	if s := Step([]Instr{{Pop, 0}}, Context{}, State{}); s.E != api.ErrGas {
		t.Error("gas comes ahead of the stack", s)
	}
	if s := Step([]Instr{{Pop, 0}}, Context{}, State{PC: -1, Gas: 5}); s.E != api.ErrOp || s.Gas != 5 || s.PC != -1 {
		t.Error("the place comes ahead of the cost", s)
	}
}

func TestLongStacks(t *testing.T) { // P803
	for i, x := range []struct {
		words int
		do    Instr
		e     api.Errno
	}{
		{31, Instr{Push, 1}, 0}, {32, Instr{Push, 1}, api.ErrStack}, {32, Instr{Dup, 31}, api.ErrStack}, {32, Instr{Swap, 30}, 0}, {32, Instr{Swap, 31}, api.ErrStack},
		{33, Instr{Swap, 31}, api.ErrStack}, {33, Instr{Stop, 0}, api.ErrStack}, {33, Instr{Abort, 0}, api.ErrStack}, {32, Instr{Abort, 0}, api.ErrAbort}, {33, Instr{Jump, 0}, api.ErrStack},
		{33, Instr{Pop, 0}, 0}, {33, Instr{Div, 0}, api.ErrZero}, {34, Instr{Div, 0}, api.ErrStack}, {34, Instr{Branch, 0}, api.ErrStack}, {33, Instr{Branch, 0}, 0},
	} {
		if s := Step([]Instr{x.do}, Context{}, State{Gas: 9, Stack: make([]uint64, x.words)}); s.E != x.e {
			t.Error(i, s)
		}
	}
}

func TestStillness(t *testing.T) { // P801, P803
	bad := []Instr{{77, 0}}
	s := State{Gas: 7, Stack: []uint64{1}}
	if x, n := Run(bad, Context{}, s, 5); n != 1 || !reflect.DeepEqual(x, State{Gas: 7, Status: Failed, E: api.ErrOp, Stack: []uint64{1}}) {
		t.Error(x, n)
	}
	for _, status := range []int{Stopped, Failed, -1, 9} {
		s := State{PC: 0, Gas: 7, Status: status, E: 3, Stack: []uint64{1}}
		for _, l := range [][]Instr{bad, {{Stop, 0}}} {
			if x, n := Run(l, Context{}, s, 5); n != 0 || !reflect.DeepEqual(x, s) || !reflect.DeepEqual(Step(l, Context{}, s), s) {
				t.Error(x, n)
			}
		}
	}
	loop := []Instr{{Jump, 0}}
	for _, most := range []int{-1 << 63, -1, 0, 1, 10} {
		if x, n := Run(loop, Context{}, State{Gas: 100}, most); n != max(most, 0) || x.Gas != uint64(100-n) {
			t.Error(x, n)
		}
	}
	room := []uint64{1, 2, 3, 4}
	Run([]Instr{{Push, 9}, {Push, 9}, {Pop, 0}, {Pop, 0}, {Pop, 0}, {Push, 8}}, Context{}, State{Gas: 99, Stack: room[:2]}, 9)
	if !slices.Equal(room, []uint64{1, 2, 3, 4}) {
		t.Error("changed", room)
	}
	if x := Step(nil, Context{}, State{Status: 1, Stack: room}); &x.Stack[0] == &room[0] {
		t.Error("shared")
	}
}

func be(l ...uint64) []byte {
	var b []byte
	for _, n := range l {
		b = binary.BigEndian.AppendUint64(b, n)
	}
	return b
}

func TestHash(t *testing.T) { // P802, P805
	words := [16]uint64{1: 3, 15: 1 << 63}
	m, _ := smt.New(smt.Pair{Key: api.Hash{31: 1}, Value: api.Hash{31: 3}}, smt.Pair{Key: api.Hash{31: 15}, Value: api.Hash{24: 128}})
	root := m.Root()
	s := State{PC: -2, Gas: 9, Status: 1, E: 34, Stack: []uint64{7, 8}, Words: words}
	if Hash(s) != digest.Tagged("machine", append(be(1<<64-2, 9, 1, 34, 2, 7, 8), root[:]...)) {
		t.Error("hash")
	}
	long := State{Stack: make([]uint64, 20000)}
	long.Stack[19999] = 5
	if Hash(long) != digest.Tagged("machine", append(be(append([]uint64{0, 0, 0, 0, 20000}, long.Stack...)...), make([]byte, 32)...)) {
		t.Error("a long stack")
	}
}

// code is a random row of instructions, most of them at home among each other.
func code(r *rand.Rand) []Instr {
	l := make([]Instr, 1+r.Intn(12))
	for i := range l {
		op := r.Intn(20)
		if r.Intn(3) == 0 {
			op = Push
		}
		l[i] = Instr{Op: op}
		switch op {
		case Push, Jump, Branch, Input, Dup, Swap:
			l[i].Arg = uint64(r.Intn(6))
		case Load, Store:
			l[i].Arg = uint64(r.Intn(16))
		}
	}
	return l
}

func TestOneIsTheSame(t *testing.T) { // P804, P805
	r := rand.New(rand.NewSource(1))
	for range 60 {
		l := code(r)
		c := Context{Caller: 3, Value: 4, Input: []uint64{5, 0}}
		words := [16]uint64{7}
		words[r.Intn(16)] = 8
		s := Start(uint64(r.Intn(40)), words)
		for range 12 {
			w, e := Prove(l, c, s)
			if s.Status != Running || s.PC >= len(l) {
				if e != api.ErrArg || !reflect.DeepEqual(w, Witness{}) {
					t.Error("a witness of no step", e)
				}
				break
			}
			before, after, e2 := One(Root(l), c, w)
			next := Step(l, c, s)
			if e != 0 || e2 != 0 || before != Hash(s) || after != Hash(next) {
				t.Fatal(l, s, e, e2)
			}
			s = next
		}
	}
}

func TestProve(t *testing.T) { // P804
	l := []Instr{{Push, 1}, {Store, 3}, {Load, 2}, {Add, 0}}
	s := State{PC: 1, Gas: 9, Stack: []uint64{4}, Words: [16]uint64{0: 5, 2: 6}}
	w, e := Prove(l, Context{}, s)
	if e != 0 || w.Instr != l[1] || w.At.Place != 1 || w.At.Count != 4 || w.State.Words != [16]uint64{} || w.State.Gas != 9 || w.Word.Key != (api.Hash{31: 3}) || w.Word.Old != (api.Hash{}) {
		t.Error(w, e)
	}
	s.PC = 2
	if w, _ := Prove(l, Context{}, s); w.Word.Key != (api.Hash{31: 2}) || w.Word.Old != (api.Hash{31: 6}) {
		t.Error(w.Word)
	}
	s.PC = 3
	if w, _ := Prove(l, Context{}, s); w.Word.Key != (api.Hash{}) || w.Word.Old != (api.Hash{31: 5}) {
		t.Error(w.Word)
	}
	for _, s := range []State{{PC: 4}, {PC: -1}, {Status: 1}} {
		if _, e := Prove(l, Context{}, s); e != api.ErrArg {
			t.Error(e)
		}
	}
	if _, e := Prove([]Instr{{0, 5}}, Context{}, State{}); e != api.ErrArg {
		t.Error(e)
	}
}

func TestOneRefuses(t *testing.T) { // P804
	l := []Instr{{Push, 1}, {Store, 3}, {Stop, 0}}
	s := State{PC: 1, Gas: 9, Stack: []uint64{4}, Words: [16]uint64{3: 5, 2: 6}}
	root := Root(l)
	for i, x := range []struct {
		change func(w *Witness)
		want   api.Errno
	}{
		{func(w *Witness) { w.State.Words[3] = 5 }, api.ErrForm},
		{func(w *Witness) { w.State.Status = Stopped }, api.ErrForm},
		{func(w *Witness) { w.State.Stack = make([]uint64, 33) }, api.ErrForm},
		{func(w *Witness) { w.State.PC = 2 }, api.ErrForm},
		{func(w *Witness) { w.Instr = Instr{Store, 16} }, api.ErrForm},
		{func(w *Witness) { w.Instr = Instr{Store, 4} }, api.ErrProof},
		{func(w *Witness) { w.At.Sides = nil }, api.ErrProof},
		{func(w *Witness) { w.At.Place, w.State.PC = 2, 2 }, api.ErrProof},
		{func(w *Witness) { w.Words[0]++ }, api.ErrProof},
		{func(w *Witness) { w.Word.Old[31]++ }, api.ErrProof},
		{func(w *Witness) { w.Word.Key[31]++ }, api.ErrProof},
		{func(w *Witness) { w.Word.Proof.Sides = nil }, api.ErrProof},
		{func(w *Witness) { // a value that is no word's
			m, _ := smt.New(smt.Pair{Key: w.Word.Key, Value: api.Hash{1, 31: 5}})
			w.Words, w.Word = m.Root(), proof.Step{Key: w.Word.Key, Old: api.Hash{1, 31: 5}, Proof: m.Prove(w.Word.Key)}
		}, api.ErrProof},
	} {
		w, _ := Prove(l, Context{}, s)
		x.change(&w)
		if a, b, e := One(root, Context{}, w); e != x.want || a != (api.Hash{}) || b != (api.Hash{}) {
			t.Error(i, e)
		}
	}
	w, _ := Prove(l, Context{}, s)
	if _, _, e := One(api.Hash{}, Context{}, w); e != api.ErrProof {
		t.Error(e)
	}
	if _, _, e := One(root, Context{}, w); e != 0 || w.State.Words != [16]uint64{} || len(w.State.Stack) != 1 {
		t.Error("changed", e)
	}
	long := append(slices.Clone(l), make([]Instr, 200)...)
	w.At, _ = lane.Prove(1, lines(long)...)
	if _, _, e := One(Root(long), Context{}, w); e != 0 {
		t.Error("how long the code is is not asked", e)
	}
}

func TestFullStack(t *testing.T) { // P804, P805
	l := []Instr{{Pop, 0}}
	s := State{Gas: 9, Stack: make([]uint64, 32)}
	w, _ := Prove(l, Context{}, s)
	if before, after, e := One(Root(l), Context{}, w); e != 0 || before != Hash(s) || after != Hash(Step(l, Context{}, s)) {
		t.Error(e)
	}
}

func TestConstants(t *testing.T) { // P801
	ops := []int{Stop, Push, Pop, Dup, Swap, Add, Sub, Mul, Div, Mod, Less, Same, Jump, Branch, Load, Store, Input, Value, Caller, Abort}
	for i, op := range ops {
		if op != i {
			t.Error(i, op)
		}
	}
	if Running != 0 || Stopped != 1 || Failed != 2 || len(ops) != 20 {
		t.Error("status")
	}
}

func TestExample(t *testing.T) {
	if s := run(t, Context{}, Instr{Push, 2}, Instr{Push, 3}, Instr{Sub, 0}, Instr{}); !slices.Equal(s.Stack, []uint64{1<<64 - 1}) || s.Status != Stopped {
		t.Error(s)
	}
}
