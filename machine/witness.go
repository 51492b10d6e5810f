package machine

import (
	"bascule/api"
	"bascule/codec"
	"bascule/digest"
	"bascule/lane"
	"bascule/proof"
	"bascule/smt"
)

const piece = 4096 // numbers that are written at once

func wordKey(n uint64) api.Hash { return api.Hash{31: byte(n)} }

func wordValue(x uint64) (h api.Hash) {
	for i := range 8 {
		h[24+i] = byte(x >> (56 - 8*i))
	}
	return h
}

// wordOf answers the word whose value h is; false, if h is no word's.
func wordOf(h api.Hash) (uint64, bool) {
	x := uint64(0)
	for _, c := range h[24:] {
		x = x<<8 | uint64(c)
	}
	return x, wordValue(x) == h
}

func wordMap(words [16]uint64) *smt.Map {
	m, _ := smt.New()
	for n, x := range words {
		m.Put(wordKey(uint64(n)), wordValue(x))
	}
	return m
}

// numbers answers any row of numbers as bytes, however long it is.
func numbers(l []uint64) []byte {
	var b []byte
	for len(l) > 0 {
		n := min(len(l), piece)
		w := codec.NewWriter()
		w.Uint(l[:n]...)
		b = append(b, w.Bytes()...)
		l = l[n:]
	}
	return b
}

// Hash answers a state's hash.
func Hash(s State) api.Hash { return hashBy(s, wordMap(s.Words).Root()) }

// hashBy answers the hash of s, its words being those of that root.
func hashBy(s State, words api.Hash) api.Hash {
	head := []uint64{uint64(s.PC), s.Gas, uint64(s.Status), uint64(s.E), uint64(len(s.Stack))}
	b := append(numbers(head), numbers(s.Stack)...)
	return digest.Tagged("machine", append(b, words[:]...))
}

// named answers the number of the word that an instruction reads or changes; 0, if there is none.
func named(i Instr) uint64 {
	if i.Op == Load || i.Op == Store {
		return i.Arg
	}
	return 0
}

// Prove answers the witness of a state's next step.
func Prove(l []Instr, c Context, s State) (Witness, api.Errno) {
	if !Right(l) || s.Status != Running {
		return Witness{}, api.ErrArg
	}
	at, e := lane.Prove(s.PC, lines(l)...)
	if e != api.OK {
		return Witness{}, api.ErrArg
	}
	m := wordMap(s.Words)
	key := wordKey(named(l[s.PC]))
	w := Witness{Instr: l[s.PC], At: at, State: s, Words: m.Root(), Word: proof.Step{Key: key, Old: m.Get(key), Proof: m.Prove(key)}}
	w.State.Words = [16]uint64{}
	w.State.Stack = append([]uint64(nil), s.Stack...)
	return w, api.OK
}

// rightWitness tells whether a witness may be, whatever its proofs say.
func rightWitness(w Witness) bool {
	return w.State.Words == [16]uint64{} && w.State.Status == Running && len(w.State.Stack) <= api.MaxStack && w.State.PC == w.At.Place && rightInstr(w.Instr)
}

// One answers the hashes of the state ahead of a step and behind it, by the code's root and a witness alone.
func One(code api.Hash, c Context, w Witness) (before, after api.Hash, e api.Errno) {
	if !rightWitness(w) {
		return api.Hash{}, api.Hash{}, api.ErrForm
	}
	n := named(w.Instr)
	word, ok := wordOf(w.Word.Old)
	if !ok || w.Word.Key != wordKey(n) || lane.Check(code, instrBytes(w.Instr), w.At) != api.OK || !proof.Check(w.Words, w.Word.Key, w.Word.Old, w.Word.Proof) {
		return api.Hash{}, api.Hash{}, api.ErrProof
	}
	s := w.State
	s.Stack = append([]uint64(nil), s.Stack...)
	s.Words[n] = word
	was := s.Words
	s.run(c, 1, func(int) (Instr, bool) { return w.Instr, true })
	root := w.Words
	if s.Words != was {
		root, e = proof.Update(root, w.Word.Key, w.Word.Old, wordValue(s.Words[n]), w.Word.Proof)
		if e != api.OK {
			return api.Hash{}, api.Hash{}, e
		}
	}
	return hashBy(w.State, w.Words), hashBy(s, root), api.OK
}
