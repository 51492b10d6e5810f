package codec

import (
	"bytes"
	"encoding/binary"
	"math/rand"
	"testing"

	"bascule/api"
)

func TestWriting(t *testing.T) { // P302
	w := NewWriter()
	h := api.Hash{1, 31: 2}
	if w.Uint(1, 1<<63) != 0 || w.Wide(api.Wide{5, 0, 0, 1 << 56}) != 0 || w.Hash(h) != 0 || w.Blob([]byte("ab"), nil) != 0 {
		t.Error("an error")
	}
	want := binary.BigEndian.AppendUint64(nil, 1)
	want = binary.BigEndian.AppendUint64(want, 1<<63)
	want = append(want, 1)
	want = append(want, make([]byte, 30)...)
	want = append(append(want, 5), h[:]...)
	want = append(want, 0, 0, 0, 0, 0, 0, 0, 2, 'a', 'b', 0, 0, 0, 0, 0, 0, 0, 0)
	if !bytes.Equal(w.Bytes(), want) {
		t.Error(w.Bytes(), want)
	}
	w.Bytes()[0] = 9
	if !bytes.Equal(w.Bytes(), want) {
		t.Error("shared")
	}
	if w.Uint() != 0 || w.Blob() != 0 || len(w.Bytes()) != len(want) {
		t.Error("nothing is written of nothing")
	}
}

func TestWritersRoom(t *testing.T) { // P302
	full := func(n int) *Writer {
		w := NewWriter()
		if e := w.Blob(make([]byte, n-8)); e != 0 || len(w.Bytes()) != n {
			t.Fatal(e)
		}
		return w
	}
	if NewWriter().Blob(make([]byte, api.MaxBytes-7)) != api.ErrSize || NewWriter().Blob(make([]byte, api.MaxBytes-16), nil, nil) != api.ErrSize {
		t.Error("a long blob")
	}
	for _, c := range []struct {
		size int
		put  func(w *Writer) api.Errno
	}{
		{8, func(w *Writer) api.Errno { return w.Uint(7) }},
		{24, func(w *Writer) api.Errno { return w.Uint(7, 8, 9) }},
		{32, func(w *Writer) api.Errno { return w.Wide(api.Wide{1}) }},
		{64, func(w *Writer) api.Errno { return w.Hash(api.Hash{1}, api.Hash{2}) }},
		{8, func(w *Writer) api.Errno { return w.Blob(nil) }},
		{21, func(w *Writer) api.Errno { return w.Blob([]byte("abc"), []byte("de")) }},
	} {
		fits, over := full(api.MaxBytes-c.size), full(api.MaxBytes-c.size+1)
		if e := c.put(fits); e != 0 || len(fits.Bytes()) != api.MaxBytes {
			t.Error(c.size, e)
		}
		if e := c.put(over); e != api.ErrSize || len(over.Bytes()) != api.MaxBytes-c.size+1 {
			t.Error(c.size, e)
		}
		if over.Uint() != 0 {
			t.Error("an error of a writer does not stay")
		}
	}
}

func TestReading(t *testing.T) { // P303, P304
	r := rand.New(rand.NewSource(1))
	for range 200 {
		n, a, h, b, c := r.Uint64(), api.Wide{r.Uint64(), r.Uint64(), 0, r.Uint64()}, api.Hash{byte(r.Int())}, make([]byte, r.Intn(50)), r.Intn(9)
		r.Read(b)
		w := NewWriter()
		w.Uint(n)
		w.Wide(a)
		w.Hash(h)
		w.Blob(b)
		w.Uint(uint64(c))
		all := w.Bytes()
		x := NewReader(all)
		clear(all)
		if x.Left() != len(all) || x.Uint() != n || x.Wide() != a || x.Hash() != h || !bytes.Equal(x.Blob(), b) || x.Left() != 8 || x.Done() != api.ErrForm || x.Count(c) != c || x.Left() != 0 || x.Done() != 0 {
			t.Error("not as it was", n, a, h, b, c)
		}
	}
}

func TestReadersErrors(t *testing.T) { // P303
	number := func(n uint64, more int) []byte {
		return append(binary.BigEndian.AppendUint64(nil, n), make([]byte, more)...)
	}
	for i, c := range []struct {
		b    []byte
		read func(r *Reader) bool
		want api.Errno
	}{
		{number(0, 0)[:7], func(r *Reader) bool { return r.Uint() == 0 }, api.ErrEnd},
		{bytes.Repeat([]byte{1}, 31), func(r *Reader) bool { return r.Wide() == api.Wide{} }, api.ErrEnd},
		{bytes.Repeat([]byte{1}, 31), func(r *Reader) bool { return r.Hash() == api.Hash{} }, api.ErrEnd},
		{number(3, 2), func(r *Reader) bool { return len(r.Blob()) == 0 }, api.ErrEnd},
		{number(3, 0)[1:], func(r *Reader) bool { return len(r.Blob()) == 0 }, api.ErrEnd},
		{number(api.MaxBytes, 2), func(r *Reader) bool { return len(r.Blob()) == 0 }, api.ErrEnd},
		{number(api.MaxBytes+1, 2), func(r *Reader) bool { return len(r.Blob()) == 0 }, api.ErrForm},
		{number(api.MaxBytes+1, api.MaxBytes+1), func(r *Reader) bool { return len(r.Blob()) == 0 }, api.ErrForm},
		{number(1<<64-1, 2), func(r *Reader) bool { return len(r.Blob()) == 0 }, api.ErrForm},
		{number(4, 0), func(r *Reader) bool { return r.Count(3) == 0 }, api.ErrForm},
		{number(0, 0), func(r *Reader) bool { return r.Count(-1) == 0 }, api.ErrForm},
		{number(1<<63, 0), func(r *Reader) bool { return r.Count(1<<63-1) == 0 }, api.ErrForm},
		{number(4, 0)[:7], func(r *Reader) bool { return r.Count(9) == 0 }, api.ErrEnd},
	} {
		r := NewReader(c.b)
		if !c.read(r) || r.Done() != c.want || r.Left() != len(c.b) {
			t.Error(i, r.Done(), r.Left())
		}
		if r.Uint() != 0 || r.Wide() != (api.Wide{}) || r.Hash() != (api.Hash{}) || len(r.Blob()) != 0 || r.Count(9) != 0 || r.Left() != len(c.b) || r.Done() != c.want {
			t.Error(i, "behind an error")
		}
	}
	most := NewReader(number(api.MaxBytes, api.MaxBytes))
	if len(most.Blob()) != api.MaxBytes || most.Done() != 0 {
		t.Error("the longest blob")
	}
	b := NewReader(number(2, 2))
	x := b.Blob()
	if x = append(x, 9); len(x) != 3 || b.Done() != 0 || NewReader(nil).Done() != 0 {
		t.Error("blob")
	}
}

func TestNobodys(t *testing.T) { // P301
	for _, w := range []*Writer{nil, {}} {
		if w.Uint(1) != api.ErrArg || w.Uint() != api.ErrArg || w.Wide() != api.ErrArg || w.Hash() != api.ErrArg || w.Blob() != api.ErrArg || len(w.Bytes()) != 0 {
			t.Error("writer")
		}
	}
	for _, r := range []*Reader{nil, {}} {
		if r.Uint() != 0 || r.Wide() != (api.Wide{}) || r.Hash() != (api.Hash{}) || r.Blob() != nil || r.Count(5) != 0 || r.Left() != 0 || r.Done() != api.ErrArg {
			t.Error("reader")
		}
	}
}
