package desk

import (
	"math/rand"
	"reflect"
	"slices"
	"strconv"
	"strings"
	"testing"

	"arithmancy/api"
	"arithmancy/proof"
	"arithmancy/register"
)

const adds = "2 j0>1:3 d0>2 i1>0 h"

// answers is lines with their answers on a desk of their own.
func answers() map[string]string {
	return map[string]string{
		"psi 2 4":                    "ok 56",
		"psi 2 0":                    "ok 0",
		"psi 1 4":                    "error 2",
		"psi 2 1000000":              "error 4",
		"psi 02 4":                   "error 3",
		"psi x 4":                    "error 3",
		"psi -3 4":                   "error 2",
		"psi 99999999999999999999 2": "ok 199999999999999999998",
		"psi " + strings.Repeat("9", 40000) + " 2": "error 4",
		"psi x x":                               "error 1",
		"psi 2 04":                              "error 1",
		"psi 2 -4":                              "error 1",
		"psi 2 1000001":                         "error 1",
		"psi 2":                                 "error 1",
		"psi":                                   "error 1",
		"psi 2 4 5":                             "error 1",
		"power 1 0":                             "ok 6 10",
		"power 2 3":                             "ok 3905 15615",
		"power 0 3":                             "error 2",
		"power 2 1000000":                       "error 4",
		"power 2":                               "error 1",
		"under 5 13":                            "ok yes",
		"under 2 13":                            "ok no",
		"under -1 13":                           "error 2",
		"under 5 1e3":                           "error 3",
		"under -0 1e3":                          "error 3",
		"under 5":                               "error 1",
		"pell 7":                                "ok 8 3",
		"pell 61":                               "ok 1766319049 226153980",
		"pell 9":                                "error 2",
		"pell 1000000":                          "error 2",
		"pell 1000001":                          "error 1",
		"pell":                                  "error 1",
		"squares 7 4":                           "ok 2 1 1 1",
		"squares 7 3":                           "error 6",
		"squares 7 5":                           "error 2",
		"squares 0 1":                           "ok 0",
		"zero 2 10 x0^2-x1-6":                   "ok 3 3",
		"zero 1 10 x0^2-3":                      "error 6",
		"zero 0 5 0":                            "ok",
		"zero 0 5 1":                            "error 6",
		"zero 1 10 3-x0":                        "error 3",
		"zero 33 0 x0":                          "error 2",
		"zero 3 100 x0":                         "error 2",
		"zero 1 x x0":                           "error 1",
		"zero 1 1":                              "error 1",
		"reason 1 10 x0^2-3":                    "ok 0 4",
		"reason 2 10 x0^2+x1^2+1":               "ok 1 0",
		"reason 1 10 x0+1":                      "error 6",
		"reason 1 0 x0^2-3":                     "error 2",
		"reason 1 101 x0^2-3":                   "error 2",
		"reason 1 101 ?":                        "error 3",
		"halts 100 2 3 m " + adds:               "ok 7 0 5",
		"halts 7 2 3 m " + adds:                 "ok 7 0 5",
		"halts 6 2 3 m " + adds:                 "error 6",
		"halts 100 2 m " + adds:                 "error 2",
		"halts 100 m " + adds:                   "error 2",
		"halts 100 2 1001 m " + adds:            "error 2",
		"halts 100 2 1000001 m " + adds:         "error 1",
		"halts 100 2 3 m":                       "error 1",
		"halts 100 2 3 " + adds:                 "error 1",
		"halts m " + adds:                       "error 1",
		"halts":                                 "error 1",
		"halts 100 2 x m " + adds:               "error 1",
		"halts 100 2 3 m m " + adds:             "error 3",
		"halts 100 2 3 m 2 h x":                 "error 3",
		"size 0 m 1 h":                          "ok 6 2 0 3 3 3 540 449",
		"size 2 3 m " + adds:                    "ok 11 3 0 3 11 3 1633 1354",
		"size m 1 h":                            "error 2",
		"size 0 0 m 1 h":                        "error 2",
		"size 0 m 1 x":                          "error 3",
		"size 0 m":                              "error 1",
		"size":                                  "error 1",
		"claim 0 1 1 3 0 0 0 1 0 6 0 2 1 1 0 0": "ok yes",
		"claim 0 1 1 3 0 0 0 1 0 6 1 2 1 1 0 0": "ok no",
		"claim 3 1 2 1 2 -3 0 0 0 4":            "ok yes",
		"claim 9":                               "error 3",
		"claim x":                               "error 3",
		"claim":                                 "error 1",
		"asked":                                 "ok 0",
		"asked 1":                               "error 1",
		"":                                      "error 1",
		" ":                                     "error 1",
		"Psi 2 4":                               "error 1",
		"psi  2 4":                              "error 1",
		" psi 2 4":                              "error 1",
		"psi 2 4 ":                              "error 1",
		"psi\t2 4":                              "error 1",
		"psi 2 4\n":                             "error 1",
		"claim \x00":                            "error 1",
		"claim \x7f":                            "error 1",
		"psi é 4":                               "error 1",
		"pell 7 " + strings.Repeat("x", 59993):  "error 1",
		"pell 7 " + strings.Repeat("x", 59994):  "error 4",
	}
}

func TestAnswers(t *testing.T) {
	for line, want := range answers() {
		if got := New().Do(line); got != want {
			t.Errorf("%.60q: %.60s, not %s", line, got, want)
		}
	}
}

// P17.1: whole.
func TestWhole(t *testing.T) {
	for _, s := range []string{adds, "1 h", "1 j0>1:2 d0>0 h", "2 i0>1 j1>2:3 d1>1 h"} {
		m, e := register.Parse(s)
		if e != api.OK {
			t.Fatal(e)
		}
		for x := range 6 {
			input := []int{x, 2}[:m.Regs]
			var words []string
			for _, n := range input {
				words = append(words, strconv.Itoa(n))
			}
			d := New()
			answer := strings.Split(d.Do("halts 100 "+strings.Join(words, " ")+" m "+s), " ")
			if answer[0] != "ok" || len(answer) != 2+m.Regs {
				t.Fatal(s, answer)
			}
			steps, _ := strconv.Atoi(answer[1])
			c, e := proof.Stops(m, input, steps)
			if e != api.OK {
				t.Fatal(e)
			}
			text, _ := proof.Text(c)
			if got := d.Do("claim " + text); got != "ok yes" {
				t.Error(s, input, got)
			}
		}
	}
}

// lines returns all lines in a random order.
func lines(r *rand.Rand) []string {
	var list []string
	for line := range answers() {
		list = append(list, line)
	}
	slices.Sort(list)
	r.Shuffle(len(list), func(i, j int) { list[i], list[j] = list[j], list[i] })
	return list
}

// P17.2: free. P17.3: asked.
func TestFreeAndAsked(t *testing.T) {
	r := rand.New(rand.NewSource(1))
	d, asked := New(), 0
	for round := range 2 {
		for _, line := range lines(r) {
			want := answers()[line]
			if line == "asked" {
				want = "ok " + strconv.Itoa(asked)
			}
			if got := d.Do(line); got != want {
				t.Fatalf("%d %.60q: %.60s, not %s", round, line, got, want)
			}
			if strings.HasPrefix(want, "ok") {
				asked++
			}
			if d.Asked() != asked {
				t.Fatal(line, d.Asked(), asked)
			}
		}
	}
	if got := d.Do("asked") + d.Do("asked"); got != "ok "+strconv.Itoa(asked)+"ok "+strconv.Itoa(asked+1) {
		t.Error(got)
	}
}

func TestClone(t *testing.T) {
	d := New()
	d.Do("pell 7")
	c := d.Clone()
	if c == d || c.Asked() != 1 {
		t.Fatal(c.Asked())
	}
	c.Do("pell 7")
	c.Do("pell 7")
	d.Do("pell 7")
	if c.Asked() != 3 || d.Asked() != 2 || c.Do("asked") != "ok 3" {
		t.Error(c.Asked(), d.Asked())
	}
	if e := c.Clone(); e.Asked() != 4 || e.Clone().Do("psi 2 4") != "ok 56" {
		t.Error(e.Asked())
	}
}

// A desk that New or Clone did not return (R1).
func TestNoDesk(t *testing.T) {
	copied := *New()
	for i, d := range []*Desk{nil, {}, new(Desk), &copied} {
		if d.Do("psi 2 4") != "error 5" || d.Do("") != "error 5" || d.Do(strings.Repeat("x", api.MaxText+1)) != "error 5" || d.Asked() != 0 || d.Clone() != nil {
			t.Error(i)
		}
	}
}

func TestPlay(t *testing.T) {
	got, e := Play([]string{"psi 2 4", "asked", "what", "asked"})
	if e != api.OK || !slices.Equal(got, []string{"ok 56", "ok 1", "error 1", "ok 2"}) {
		t.Error(got, e)
	}
	if got, e := Play(nil); e != api.OK || len(got) > 0 {
		t.Error(got, e)
	}
	many := slices.Repeat([]string{"asked"}, api.MaxLines+1)
	if got, e := Play(many); e != api.ErrSize || len(got) > 0 {
		t.Error(got, e)
	}
	if got, e := Play(many[1:]); e != api.OK || len(got) != api.MaxLines || got[39] != "ok 39" {
		t.Error(got, e)
	}
	again, _ := Play(many[1:])
	if first, _ := Play(many[1:]); !reflect.DeepEqual(first, again) {
		t.Error("not the same")
	}
}
