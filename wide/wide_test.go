package wide

import (
	"bytes"
	"math/big"
	"math/rand"
	"strings"
	"testing"

	"bascule/api"
)

const most = "115792089237316195423570985008687907853269984665640564039457584007913129639935"

func top() api.Wide { return api.Wide{^uint64(0), ^uint64(0), ^uint64(0), ^uint64(0)} }

func toBig(a api.Wide) *big.Int {
	n := new(big.Int)
	for i := 3; i >= 0; i-- {
		n.Lsh(n, 64).Or(n, new(big.Int).SetUint64(a[i]))
	}
	return n
}

func fits(n *big.Int) bool { return n.Sign() >= 0 && n.BitLen() <= 256 }

// samples: numbers at the edges of parts, and random ones of all lengths.
func samples() []api.Wide {
	l := []api.Wide{{}, {1}, {2}, {^uint64(0)}, {0, 1}, {0, 0, 1}, {0, 0, 0, 1}, {0, 0, 0, 1 << 63}, {0, ^uint64(0), 0, ^uint64(0)}, top(), {groupBase}, {groupBase - 1}}
	r := rand.New(rand.NewSource(1))
	for i := range 40 {
		var a api.Wide
		for j := range 1 + i%4 {
			a[j] = r.Uint64() >> (r.Intn(64))
		}
		l = append(l, a)
	}
	return l
}

func TestReckoning(t *testing.T) { // P102, P104
	for _, a := range samples() {
		for _, b := range samples() {
			sum, e := Add(a, b)
			if turned, e1 := Add(b, a); turned != sum || e1 != e {
				t.Error("add turned round", a, b)
			}
			n := new(big.Int).Add(toBig(a), toBig(b))
			check(t, "add", sum, e, n, api.ErrOver)
			product, e := Mul(a, b)
			if turned, e1 := Mul(b, a); turned != product || e1 != e {
				t.Error("mul turned round", a, b)
			}
			check(t, "mul", product, e, n.Mul(toBig(a), toBig(b)), api.ErrOver)
			rest, e := Sub(a, b)
			check(t, "sub", rest, e, n.Sub(toBig(a), toBig(b)), api.ErrUnder)
			q, left, e := Div(a, b)
			if b == (api.Wide{}) {
				if q != b || left != b || e != api.ErrZero {
					t.Error("div by 0", q, left, e)
				}
				continue
			}
			bq, br := new(big.Int).QuoRem(toBig(a), toBig(b), new(big.Int))
			if e != 0 || toBig(q).Cmp(bq) != 0 || toBig(left).Cmp(br) != 0 {
				t.Error("div", a, b, q, left, e)
			}
		}
	}
}

func check(t *testing.T, what string, a api.Wide, e api.Errno, want *big.Int, wrong api.Errno) {
	t.Helper()
	if fits(want) && (e != api.OK || toBig(a).Cmp(want) != 0) || !fits(want) && (e != wrong || a != api.Wide{}) {
		t.Error(what, a, e, want)
	}
}

func TestExamples(t *testing.T) {
	if a, e := Mul(api.Wide{0, 0, 1}, api.Wide{0, 1 << 63}); a != (api.Wide{0, 0, 0, 1 << 63}) || e != 0 {
		t.Error(a, e)
	}
	if a, e := Mul(api.Wide{0, 0, 1}, api.Wide{0, 0, 1}); a != (api.Wide{}) || e != api.ErrOver {
		t.Error(a, e)
	}
}

func TestSmall(t *testing.T) { // P102
	if Of(7) != (api.Wide{7}) || Of(^uint64(0)) != (api.Wide{^uint64(0)}) {
		t.Error("of")
	}
	for _, a := range samples() {
		n, ok := Low(a)
		if small := toBig(a).IsUint64(); ok != small || small && n != a[0] || !small && n != 0 {
			t.Error(a, n, ok)
		}
	}
}

func TestOrder(t *testing.T) { // P102, P106
	for _, a := range samples() {
		for _, b := range samples() {
			c := Compare(a, b)
			_, e := Sub(a, b)
			if c != toBig(a).Cmp(toBig(b)) || c != bytes.Compare(Bytes(a), Bytes(b)) || (e == 0) != (c >= 0) {
				t.Error(a, b, c)
			}
		}
	}
}

func TestForms(t *testing.T) { // P103, P105
	for _, a := range samples() {
		if b := Bytes(a); len(b) != 32 || new(big.Int).SetBytes(b).Cmp(toBig(a)) != 0 {
			t.Error(a, b)
		}
		if x, e := From(Bytes(a)); x != a || e != 0 {
			t.Error(a, x, e)
		}
		if s := Print(a); s != toBig(a).String() {
			t.Error(a, s)
		}
		if x, e := Parse(Print(a)); x != a || e != 0 {
			t.Error(a, x, e)
		}
	}
	for _, n := range []int{0, 1, 31, 33, 64} {
		if a, e := From(make([]byte, n)); a != (api.Wide{}) || e != api.ErrForm {
			t.Error(n, a, e)
		}
	}
}

func TestParse(t *testing.T) { // P103
	for s, want := range map[string]api.Errno{
		most: 0, "0": 0, "9": 0,
		"": api.ErrForm, "00": api.ErrForm, "01": api.ErrForm, "+1": api.ErrForm, "-1": api.ErrForm, " 1": api.ErrForm, "1 ": api.ErrForm, "1/": api.ErrForm, "1:": api.ErrForm, "٣": api.ErrForm,
		most[:77] + "6": api.ErrOver, strings.Repeat("9", 80): api.ErrOver, strings.Repeat("9", 81): api.ErrForm, strings.Repeat("9", 79) + "x": api.ErrForm,
	} {
		a, e := Parse(s)
		if e != want || e != 0 && a != (api.Wide{}) || e == 0 && Print(a) != s {
			t.Error(s, a, e)
		}
	}
}
