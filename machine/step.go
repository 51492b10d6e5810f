package machine

import "bascule/api"

// Step answers the state behind one step.
func Step(l []Instr, c Context, s State) State {
	s, _ = Run(l, c, s, 1)
	return s
}

// Run answers the state behind all steps, or behind most, and how many there were.
func Run(l []Instr, c Context, s State, most int) (State, int) {
	s.Stack = append([]uint64(nil), s.Stack...)
	if s.Status != Running || most < 1 {
		return s, 0
	}
	if !Right(l) {
		s.fail(api.ErrOp)
		return s, 1
	}
	n := s.run(c, most, func(pc int) (Instr, bool) {
		if pc < 0 || pc >= len(l) {
			return Instr{}, false
		}
		return l[pc], true
	})
	return s, n
}

// run does steps of the instructions that at tells, and answers how many.
func (s *State) run(c Context, most int, at func(pc int) (Instr, bool)) int {
	n := 0
steps:
	for s.Status == Running && n < most {
		n++
		i, ok := at(s.PC)
		if !ok {
			s.fail(api.ErrOp)
			continue steps
		}
		if e := s.pay(i); e != api.OK {
			s.fail(e)
			continue steps
		}
		switch i.Op {
		case Stop:
			s.Status = Stopped
			continue steps
		case Abort:
			s.fail(api.ErrAbort)
			continue steps
		case Jump:
			s.jump(i.Arg)
			continue steps
		case Branch:
			if s.pop() != 0 {
				s.jump(i.Arg)
				continue steps
			}
		case Pop:
			s.pop()
		case Swap:
			a, b := len(s.Stack)-1, len(s.Stack)-2-int(i.Arg)
			s.Stack[a], s.Stack[b] = s.Stack[b], s.Stack[a]
		case Store:
			s.Words[i.Arg] = s.pop()
		case Push, Dup, Load, Input, Value, Caller:
			s.push(s.fetch(c, i))
		default:
			x, e := reckon(i.Op, s.Stack[len(s.Stack)-2], s.Stack[len(s.Stack)-1])
			if e != api.OK {
				s.fail(e)
				continue steps
			}
			s.Stack = s.Stack[:len(s.Stack)-2]
			s.push(x)
		}
		s.PC++
	}
	return n
}

func (s *State) fail(e api.Errno) { s.Status, s.E = Failed, e }

func (s *State) push(x uint64) { s.Stack = append(s.Stack, x) }

func (s *State) pop() uint64 {
	top := len(s.Stack) - 1
	x := s.Stack[top]
	s.Stack = s.Stack[:top]
	return x
}

func (s *State) jump(to uint64) { s.PC = int(min(to, api.MaxCode)) }

// pay takes the cost of an instruction, and looks whether the stack fits it.
func (s *State) pay(i Instr) api.Errno {
	cost := uint64(1)
	switch i.Op {
	case Load:
		cost = 2
	case Store:
		cost = 5
	}
	if s.Gas < cost {
		s.Gas = 0
		return api.ErrGas
	}
	s.Gas -= cost
	needs, more := effect(i)
	if len(s.Stack) < needs || len(s.Stack)+more > api.MaxStack {
		return api.ErrStack
	}
	return api.OK
}

// effect answers how many words an instruction needs on the stack, and how many more there are behind it.
func effect(i Instr) (needs, more int) {
	switch i.Op {
	case Push, Load, Input, Value, Caller:
		return 0, 1
	case Pop, Branch, Store:
		return 1, -1
	case Dup:
		return int(i.Arg) + 1, 1
	case Swap:
		return int(i.Arg) + 2, 0
	case Stop, Jump, Abort:
		return 0, 0
	}
	return 2, -1
}

// fetch answers the word that an instruction puts on the stack.
func (s *State) fetch(c Context, i Instr) uint64 {
	switch i.Op {
	case Push:
		return i.Arg
	case Dup:
		return s.Stack[len(s.Stack)-1-int(i.Arg)]
	case Load:
		return s.Words[i.Arg]
	case Value:
		return c.Value
	case Caller:
		return c.Caller
	}
	if i.Arg < uint64(len(c.Input)) {
		return c.Input[i.Arg]
	}
	return 0
}

// reckon answers what an op makes of the two last words, a being the last one.
func reckon(op int, b, a uint64) (uint64, api.Errno) {
	switch op {
	case Add:
		return b + a, api.OK
	case Sub:
		return b - a, api.OK
	case Mul:
		return b * a, api.OK
	case Less:
		return truth(b < a), api.OK
	case Same:
		return truth(b == a), api.OK
	}
	if a == 0 {
		return 0, api.ErrZero
	}
	if op == Div {
		return b / a, api.OK
	}
	return b % a, api.OK
}

func truth(yes bool) uint64 {
	if yes {
		return 1
	}
	return 0
}
