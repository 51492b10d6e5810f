package script

import (
	"math/rand"
	"reflect"
	"strconv"
	"strings"
	"testing"
)

// verbs are all verbs, with how many numbers they have.
var verbs = map[string]int{
	"new": 5, "deposit": 5, "pay": 3, "propose": 3, "challenge": 2, "finalise": 2, "timeout": 2, "post": 3, "choose": 3, "replay": 3, "transfer": 4, "withdraw": 6, "again": 4,
	"act": 1, "close": 0, "run": 1, "height": 0, "final": 0, "account": 1, "second": 1, "sums": 0, "ups": 0, "downs": 0, "proposals": 0, "disputes": 0,
}

// smalls are the places of numbers below 2^31.
var smalls = map[string][]int{"new": {0, 1, 2}, "propose": {1}, "challenge": {1}, "finalise": {1}, "timeout": {1}, "post": {1}, "choose": {1}, "run": {0}}

func TestFits(t *testing.T) { // P2202
	for verb, n := range verbs {
		for k := range 9 {
			x := Line{verb, make([]uint64, k)}
			if Fits(x) != (k == n) || (Print(x) != "") != (k == n) {
				t.Error(verb, k)
			}
		}
		for place := range n {
			small := false
			for _, p := range smalls[verb] {
				small = small || p == place
			}
			for _, c := range []struct {
				n    uint64
				fits bool
			}{{1<<31 - 1, true}, {1 << 31, !small}, {1<<62 - 1, !small}, {1 << 62, false}, {1<<64 - 1, false}} {
				x := Line{verb, make([]uint64, n)}
				x.Args[place] = c.n
				if y, ok := Parse(textOf(x)); Fits(x) != c.fits || ok != c.fits || ok && !reflect.DeepEqual(x, y) {
					t.Error(verb, place, c.n)
				}
			}
		}
	}
	for _, verb := range []string{"", "News", "new ", "closed", "clos", "bad"} {
		if Fits(Line{Verb: verb}) || Print(Line{Verb: verb}) != "" {
			t.Error(verb)
		}
	}
}

func textOf(x Line) string {
	s := x.Verb
	for _, n := range x.Args {
		s += " " + strconv.FormatUint(n, 10)
	}
	return s
}

func TestParse(t *testing.T) { // P2202, P2205
	for verb, n := range verbs {
		x := Line{Verb: verb}
		for i := range n {
			x.Args = append(x.Args, uint64(i*i*1000))
		}
		if s := Print(x); s != textOf(x) {
			t.Error(s)
		}
		if y, ok := Parse(Print(x)); !ok || !reflect.DeepEqual(x, y) {
			t.Error(y)
		}
	}
	for _, s := range []string{"", " ", "close ", " close", "close  ", "Close", "close\n", "close 1", "act", "act 01", "act +1", "act -1", "act 1 ", "act  1", "act 0x1", "act 1_0", "act\t1", "act 99999999999999999999", "act 4611686018427387904", "run 2147483648", "act 1.0", "act ١", strings.Repeat(" ", 1<<16)} {
		if x, ok := Parse(s); ok || !reflect.DeepEqual(x, Line{}) {
			t.Error(s, x)
		}
	}
}

func TestRead(t *testing.T) { // P2203
	for text, want := range map[string]struct{ lines, bad int }{
		"": {0, 0}, "close": {1, 0}, "close\n": {1, 0}, "close\nact 1": {2, 0}, "close\nact 1\n": {2, 0},
		"\n": {0, 1}, "close\n\n": {0, 2}, "close\n\nclose": {0, 2}, "close\nclose\nbad\n": {0, 3}, "close\r\n": {0, 1}, " ": {0, 1},
		strings.Repeat("close\n", 10922):           {10922, 0},
		strings.Repeat("close\n", 10922) + "act ":  {0, 10923},
		strings.Repeat("close\n", 10922) + "close": {0, -1},
		"\n" + strings.Repeat("x", 1<<16):          {0, -1},
	} {
		l, bad := Read(text)
		if len(l) != want.lines || bad != want.bad {
			t.Error(len(text), len(l), bad)
		}
	}
	l, _ := Read("act 7\nclose")
	if !reflect.DeepEqual(l, []Line{{"act", []uint64{7}}, {Verb: "close"}}) {
		t.Error(l)
	}
}

// last answers what a story's last line says, its lines being parted by a blank, a / and a blank.
func last(t *testing.T, story string) string {
	t.Helper()
	l := strings.Split(strings.TrimSuffix(Story(strings.ReplaceAll(story, " / ", "\n")), "\n"), "\n")
	_, said, ok := strings.Cut(l[len(l)-1], " =")
	if !ok {
		t.Error(l)
	}
	return strings.TrimPrefix(said, " ")
}

func TestExamples(t *testing.T) { // the document's ten examples
	for story, want := range map[string]string{
		"new 1 3 3 10 99":                     "0",
		"new 0 3 3 10 99":                     "1",
		"new 1 3 3 10 99 / close":             "0 1",
		"new 1 3 3 10 99 / deposit 1 7 5 0 0": "0",
		"new 1 3 3 10 99 / deposit 1 7 5 0 0 / close / close / second 7":                                 "0 5 0 0 0 0",
		"new 1 3 3 10 99 / pay 1 2 600":                                                                  "34",
		"new 1 3 3 10 99 / pay 1 0 1":                                                                    "39",
		"new 1 3 3 10 99 / propose 1 1 7":                                                                "50",
		"new 1 3 3 10 99 / run 3 / height":                                                               "3 2 0",
		"new 1 3 3 10 99 / act 13":                                                                       "0 0",
		"new 1 3 3 10 99 / deposit 1 100 5 20 3 / close / close / second 100":                            "0 5 3 0 0 0",
		"new 1 3 3 10 99 / deposit 1 101 5 20 3 / run 2 / downs":                                         "1",
		"new 1 3 3 10 99 / deposit 1 102 5 90 3 / close / close / second 102":                            "0 5 0 5 1 0",
		"new 1 3 3 10 99 / account 1":                                                                    "0 500 0 0 0 0",
		"new 1 3 3 10 99 / account 13":                                                                   "0 99 0 0 0 0",
		"new 1 3 3 10 99 / sums":                                                                         "3396 0",
		"new 1 3 3 10 99 / final":                                                                        "0 1",
		"new 1 3 3 10 99 / run 9 / final":                                                                "4 1",
		"new 1 3 3 10 99 / new 0 3 3 10 99 / height":                                                     "0 0 0",
		"new 1 3 3 10 99 / new 0 3 3 10 99 / act 13":                                                     "1 0",
		"new 1 3 3 10 99 / run 2000":                                                                     "1 0",
		"new 1 3 3 10 99 / run 2 / propose 1 1 0 / proposals":                                            "1 1 0",
		"new 1 3 3 10 99 / run 2 / propose 1 1 7 / act 13 / proposals":                                   "1 1 2",
		"new 1 3 3 10 99 / run 2 / propose 1 1 7 / challenge 2 0 / disputes":                             "0 2 2 1",
		"new 1 3 3 10 99 / deposit 1 7 5 0 0 / run 2 / propose 1 1 7 / challenge 2 0 / disputes":         "0 2 0 0",
		"new 1 3 3 10 99 / deposit 1 7 5 0 0 / run 2 / propose 1 1 7 / challenge 2 0 / run 5 / disputes": "0 2 0 1 0 13 2 1",
		"new 1 3 3 10 99 / transfer 7 0 8 1 / withdraw 7 0 8 1 2 3 / again 7 0 9 5 / height":             "0 0 3",
		"new 1 3 3 10 99 / transfer 7 0 8 1 / close / act 11 / height":                                   "1 0 0",
		"new 1 3 3 10 99 / again 7 0 0 65537":                                                            "1",
		"new 1 3 3 10 99 / replay 1 0 5":                                                                 "3",
		"new 1 3 3 10 99 / finalise 1 0":                                                                 "3",
		"new 1 3 3 10 99 / timeout 1 0":                                                                  "3",
		"new 1 3 3 10 99 / post 1 0 0":                                                                   "3",
		"new 1 3 3 10 99 / choose 1 0 1":                                                                 "3",
		"new 1 3 3 10 99 / challenge 1 0":                                                                "3",
		// Of three steps the first half has one, so that nothing is left to post, and the second one has two.
		"new 1 3 3 10 99 / deposit 1 7 5 0 0 / deposit 1 7 5 0 0 / deposit 1 7 5 0 0 / run 2 / propose 1 1 7 / challenge 2 0 / post 1 0 9 / choose 2 0 0 / post 1 0 9": "52",
		"new 1 3 3 10 99 / deposit 1 7 5 0 0 / deposit 1 7 5 0 0 / deposit 1 7 5 0 0 / run 2 / propose 1 1 7 / challenge 2 0 / post 1 0 9 / choose 2 0 5 / post 1 0 9": "0",
	} {
		if got := last(t, story); got != want {
			t.Error(story, "says", got, "not", want)
		}
	}
}

func TestALongStory(t *testing.T) { // P2204
	got := Story(strings.Join([]string{
		"new 1 3 3 10 200", "deposit 1 7 50 0 0", "deposit 2 101 6 9 0", "deposit 3 100 4 2 5", "run 2", "withdraw 7 0 8 3 0 0", "withdraw 7 1 101 4 9 0", "again 7 2 2 50", "transfer 7 3 9 6", "run 2", "second 7", "second 100", "downs", "ups", "run 14", "ups", "replay 1 1 50", "account 8", "account 0", "sums", "final",
	}, "\n"))
	want := strings.Join([]string{
		"new 1 3 3 10 200 = 0", "deposit 1 7 50 0 0 = 0", "deposit 2 101 6 9 0 = 0", "deposit 3 100 4 2 5 = 0", "run 2 = 0 2", "withdraw 7 0 8 3 0 0 = 0", "withdraw 7 1 101 4 9 0 = 0", "again 7 2 2 50 = 0", "transfer 7 3 9 6 = 0", "run 2 = 0 2",
		"second 7 = 4 37 0 0 0 0", "second 100 = 0 4 5 0 0 0", "downs = 2 1 2", "ups = 0 0", "run 14 = 0 14", "ups = 2 1", "replay 1 1 50 = 38", "account 8 = 0 3 0 0 0 0", "account 0 = 0 57 0 0 0 0", "sums = 3800 53", "final = 13 1",
	}, "\n") + "\n"
	if got != want {
		t.Error(got)
	}
}

func TestStory(t *testing.T) { // P2204
	for text, want := range map[string]string{
		"": "", "close": "close = 1 0\n", "bad": "bad line 1", "close\n\n": "bad line 2", strings.Repeat("x", 1<<16+1): "bad line -1",
	} {
		if s := Story(text); s != want {
			t.Error(s)
		}
	}
	if l := Tell([]Line{{Verb: "close"}, {Verb: "no"}}); len(l) != 0 {
		t.Error(l)
	}
	if l := Tell(nil); len(l) != 0 {
		t.Error(l)
	}
}

func TestWithoutAWorld(t *testing.T) { // P2201, P2204
	for verb, n := range verbs {
		want := map[string]string{"new": "1", "act": "1 0", "close": "1 0", "run": "1 0", "height": "0 0 0", "final": "0 0", "account": "0 0 0 0 0 0", "second": "0 0 0 0 0 0", "sums": "0 0", "ups": "", "downs": "", "proposals": "", "disputes": ""}
		w, ok := want[verb]
		if !ok {
			w = "1"
		}
		if w != "" {
			w = " " + w
		}
		x := Line{verb, make([]uint64, n)}
		if l := Tell([]Line{x}); len(l) != 1 || l[0] != Print(x)+" ="+w {
			t.Error(l)
		}
	}
}

func TestAnyLines(t *testing.T) { // P2201, P2206
	r := rand.New(rand.NewSource(1))
	var names []string
	for verb := range verbs {
		names = append(names, verb)
	}
	for range 30 {
		l := []Line{{"new", []uint64{1, 3, 3, 10, 99}}}
		for range 40 {
			x := Line{Verb: names[r.Intn(len(names))]}
			for i := range verbs[x.Verb] {
				n := []uint64{0, 1, 2, 7, 13, uint64(r.Intn(100)), 1<<31 - 1, 1<<62 - 1}[r.Intn(8)]
				if n >= 1<<31-1 && small(x.Verb, i) || x.Verb == "run" {
					n %= 5
				}
				x.Args = append(x.Args, n)
			}
			l = append(l, x)
		}
		all := Tell(l)
		k := r.Intn(len(l))
		if some := Tell(l[:k]); len(all) != len(l) || len(some) != k || k > 0 && !reflect.DeepEqual(some, all[:k]) {
			t.Error("another beginning")
		}
		var text strings.Builder
		for _, x := range l {
			text.WriteString(Print(x) + "\n")
		}
		if Story(text.String()) != strings.Join(all, "\n")+"\n" {
			t.Error("a story is what its lines say")
		}
	}
}
