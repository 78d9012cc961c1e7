package fell_test

import (
	"fmt"
	"math/rand/v2"
	"reflect"
	"slices"
	"strconv"
	"strings"
	"testing"

	"couchant/api"
	"couchant/fell"
)

// same tells whether two fells have the same content.
func same(a, b api.Fell) bool {
	return a.Ticks == b.Ticks && a.Yield == b.Yield && slices.Equal(a.Places, b.Places) && slices.Equal(a.Gates, b.Gates)
}

// E2: what each line brings.
func TestParseFell(t *testing.T) {
	want := api.Fell{Ticks: 2, Yield: 50, Places: []api.Place{{Name: "high", Kind: 1}, {Name: "low", Kind: 1}, {Name: "yard", Kind: 2}}, Gates: []api.Gate{{Name: "gap", A: 0, B: 1, Most: 20}, {Name: "lane", A: 1, B: 2, Most: 1000}}}
	for _, src := range []string{
		"fell 2 50\nheaf high\nheaf low\nfold yard\ngate gap high low 20\ngate lane low yard 1000\n",
		"fell 2 50\nheaf high\nheaf low\nfold yard\ngate gap high low 20\ngate lane low yard 1000",
		"\n\n# a fell\n#\n#fell 3 3\nfell 2 50\n\nheaf high\nheaf low\n# \xff\ngate gap high low 20\nfold yard\ngate lane low yard 1000\n#",
	} {
		if f, fault := fell.ParseFell(src); !same(f, want) || fault != (api.Fault{}) {
			t.Errorf("ParseFell(%q): %v, fault %v", src, f, fault)
		}
	}
	if got := fell.PrintFell(want); got != "fell 2 50\nheaf high\nheaf low\nfold yard\ngate gap high low 20\ngate lane low yard 1000\n" {
		t.Errorf("PrintFell: %q", got)
	}
	least := api.Fell{Ticks: 1, Places: []api.Place{{Name: "a", Kind: 2}}}
	if f, fault := fell.ParseFell("fell 1 0\nfold a"); !same(f, least) || fault != (api.Fault{}) {
		t.Errorf("ParseFell of the least one: %v, fault %v", f, fault)
	}
	if got := fell.PrintFell(least); got != "fell 1 0\nfold a\n" {
		t.Errorf("PrintFell of the least one: %q", got)
	}
}

// E2: lines without a form, behind a good one, and the lines at which they are found.
func TestParseFellRefusesForms(t *testing.T) {
	begin := "fell 2 50\n\nheaf high\n# two\nheaf low\n"
	bad := []string{
		" ", "  ", "\t", "\r", " #", "heaf", "fold", "gate", "fell", "heaf ", "heaf a ", " heaf a", "heaf  a", "heaf\ta", "heaf a\r", "heaf a b", "Heaf a", "heafs a", "hea a", "heaf A", "heaf 1", "heaf -", "heaf " + strings.Repeat("a", 25), "fold 9", "place a", "stay a 1",
		"gate a high low", "gate a high low 1 1", "gate a high low 1 ", "gate a high low  1", "gate 1 high low 1", "gate a 1 low 1", "gate a high 1 1", "gate a high low x", "gate a high low", "gate a high  1", "gate  high low 1", "gate a high low -1",
		"fell 2 50", "fell 3 3", "fell", "fell 2", "heaf #", "heaf a #", "\x00", "\xff", "heaf ä",
	}
	for _, number := range []string{"", "-1", "-0", "+1", "01", "00", "1000000", "0000001", "9999999", "1.0", "1e1", "1_0", "0x1", "x", "１", "99999999999999999999", "-9223372036854775809", "1#", " 1"} {
		bad = append(bad, "gate a high low "+number)
	}
	for _, line := range bad {
		for _, src := range []string{begin + line, begin + line + "\n", begin + line + "\nheaf high\nheaf", begin + line + "\ngate a high nowhere 1"} {
			if f, fault := fell.ParseFell(src); !same(f, api.Fell{}) || fault != (api.Fault{Err: api.ErrForm, Line: 6}) {
				t.Errorf("ParseFell(%q): %v, fault %v", src, f, fault)
			}
		}
	}
	// The first line can be wrong, too.
	for _, line := range []string{"fell", "fell 2", "fell 2 ", "fell  2", "fell 2 50 ", "fell 2 50 1", " fell 2 50", "fell x 50", "fell 2 x", "fell -2 50", "fell 02 50", "fell 2 050", "fell 2 -0", "fell 1000000 1", "fell 1 1000000", "Fell 2 50", "fell 2 50#", "fell 2 50\r"} {
		if f, fault := fell.ParseFell(line + "\nheaf a\n"); !same(f, api.Fell{}) || fault != (api.Fault{Err: api.ErrForm, Line: 1}) {
			t.Errorf("ParseFell(%q): %v, fault %v", line, f, fault)
		}
	}
}

// E2: the first error of a source, and its line.
func TestParseFellFaults(t *testing.T) {
	many := func(n int, line func(i int) string) string {
		var src strings.Builder
		for i := range n {
			src.WriteString(line(i) + "\n")
		}
		return src.String()
	}
	gate := func(i int) string { return fmt.Sprintf("gate g%d a b 1", i) }
	for src, want := range map[string]api.Fault{
		"":                         {Err: api.ErrNone},
		"\n\n":                     {Err: api.ErrNone},
		"# fell 2 50":              {Err: api.ErrNone},
		"fell 2 50":                {Err: api.ErrNone},
		"fell 0 50\nheaf a":        {Err: api.ErrNone},
		"fell 25 50\nheaf a":       {Err: api.ErrLimit},
		"fell 999999 50\nheaf a":   {Err: api.ErrLimit},
		"fell 25 50":               {Err: api.ErrLimit},
		"fell 24 1001\nheaf a":     {Err: api.ErrArg},
		"fell 24 999999\nheaf a":   {Err: api.ErrArg},
		"fell 1 0\nheaf a\nfold a": {Err: api.ErrTwice},
		"fell 1 0\nheaf a\nfold b\ngate c a b 1\ngate c b a 1": {Err: api.ErrTwice},
		"fell 1 0\nheaf a\nfold b\ngate c a b 1001":            {Err: api.ErrArg},
		"fell 1 0\nheaf a\ngate c a a 1":                       {Err: api.ErrPlace},
		"fell 1 0\nheaf a\ngate c a b 1\nfold b":               {Err: api.ErrPlace, Line: 3},
		"fell 1 0\nheaf a\ngate c b a 1":                       {Err: api.ErrPlace, Line: 3},
		"fell 1 0\nheaf a\ngate c a b x":                       {Err: api.ErrForm, Line: 3},
		"fell 1 0\nheaf a\ngate c a b 1\nnothing":              {Err: api.ErrPlace, Line: 3},
		"fell 1 0\nheaf a\nnothing\ngate c a b 1":              {Err: api.ErrForm, Line: 3},
		"fell 25 0\n\ngate c a b 1":                            {Err: api.ErrPlace, Line: 3},
		"fell 1 0\nfell 1 0\nheaf a":                           {Err: api.ErrForm, Line: 2},
		"heaf a\nfell 1 0":                                     {Err: api.ErrForm, Line: 1},
		"#\n\nheaf a\nfell 1 0\nfell 1 0":                      {Err: api.ErrForm, Line: 3},
		"gate c a b 1\nfell 1 0":                               {Err: api.ErrForm, Line: 1},
		"fell 1 0\n" + many(9, func(i int) string { return fmt.Sprintf("heaf p%d", i) }): {Err: api.ErrLimit},
		"fell 1 0\nheaf a\nheaf b\n" + many(13, gate):                                    {Err: api.ErrLimit},
		"fell 1 0\n" + many(1500, func(int) string { return "heaf a" }) + "x":            {Err: api.ErrForm, Line: 1502},
		strings.Repeat("\n", 20000):                                                      {Err: api.ErrNone},
		strings.Repeat("\n", 20001):                                                      {Err: api.ErrLimit},
		strings.Repeat("x", 20000):                                                       {Err: api.ErrForm, Line: 1},
		strings.Repeat("x", 20001):                                                       {Err: api.ErrLimit},
		"x\n" + many(10000, func(int) string { return "heaf a" }):                        {Err: api.ErrLimit},
	} {
		if f, fault := fell.ParseFell(src); !same(f, api.Fell{}) || fault != want {
			t.Errorf("ParseFell(%.60q): %v, fault %v, want %v", src, f, fault, want)
		}
	}
	long := "fell 1 0\nheaf a\n#"
	long += strings.Repeat("x", 20000-len(long))
	if f, fault := fell.ParseFell(long); len(f.Places) != 1 || fault != (api.Fault{}) {
		t.Errorf("ParseFell of a long source: %v, fault %v", f, fault)
	}
}

// E2: another fell has no source.
func TestPrintFellOfOthers(t *testing.T) {
	for _, fault := range fellFaults() {
		f := sample(t)
		fault.do(&f)
		if got := fell.PrintFell(f); got != "" {
			t.Errorf("PrintFell with the fault %q: %q", fault.name, got)
		}
	}
	if got := fell.PrintFell(api.Fell{}); got != "" {
		t.Errorf("PrintFell of no fell: %q", got)
	}
}

// randomSource returns lines of which some are wrong.
func randomSource(r *rand.Rand) string {
	word := func() string {
		return pick(r, "a", "b", "c", "a", "b", "c", "d", "fell", "1", "", "A", strings.Repeat("a", 24), strings.Repeat("a", 25))
	}
	number := func() string {
		return pick(r, strconv.Itoa(r.IntN(30)), strconv.Itoa(r.IntN(1200)), strconv.Itoa(r.IntN(10000000)), "0", "1", "1", "01", "-1", "x", "")
	}
	good := func() string {
		return pick(r, "heaf a", "fold b", "heaf c", "heaf d", "gate a a b 1", "gate b b c 1000", "gate c c a 0", "gate d a c 1001", "", "# "+word())
	}
	var src strings.Builder
	src.WriteString(pick(r, "", "", "\n", "#\n", "heaf a\n", "x\n", "# fell 1 1\n", "\n\n"))
	src.WriteString(pick(r, "fell 2 50\n", "fell 24 1000\n", "fell 1 0\n", "fell 0 0\n", "fell 3 1001\n", "fell "+number()+" "+number()+"\n", ""))
	for range r.IntN(8) {
		src.WriteString(pick(r, good(), good(), good(), good(), good(), good(), good(), pick(r, "heaf ", "fold ")+word(), "gate "+word()+" "+word()+" "+word()+" "+number(), "fell 1 1", word(), " "))
		src.WriteString(pick(r, "\n", "\n", "\n", "\n", "\n", "\n", "\n", "\n", "", "\n\n", "\r\n"))
	}
	return src.String()
}

// P5.1 and P5.7, for sources: against the chapter's words.
func TestParseFellAtRandom(t *testing.T) {
	r := random(21)
	seen := map[api.Errno]int{}
	for range 30000 {
		src := randomSource(r)
		want, wantFault := modelParse(src)
		got, fault := fell.ParseFell(src)
		if !same(got, want) || fault != wantFault {
			t.Fatalf("ParseFell(%q): %v, fault %v, want %v, fault %v", src, got, fault, want, wantFault)
		}
		seen[fault.Err]++
		if fault.Err == api.OK {
			if again, fault := fell.ParseFell(fell.PrintFell(got)); !same(again, got) || fault != (api.Fault{}) {
				t.Fatalf("ParseFell of PrintFell of %v: %v, fault %v", got, again, fault)
			}
		}
	}
	for _, e := range []api.Errno{api.OK, api.ErrLimit, api.ErrNone, api.ErrForm, api.ErrTwice, api.ErrArg, api.ErrPlace} {
		if seen[e] < 30 {
			t.Errorf("error %d came %d times", e, seen[e])
		}
	}
}

// P5.7, for fells.
func TestParseFellInvertsPrintFell(t *testing.T) {
	r := random(22)
	for range 2000 {
		f := randomFell(r)
		src := fell.PrintFell(f)
		if got, fault := fell.ParseFell(src); !reflect.DeepEqual(got, f) || fault != (api.Fault{}) {
			t.Fatalf("ParseFell(%q): %v, fault %v, want %v", src, got, fault, f)
		}
		lines := strings.Split(strings.TrimSuffix(src, "\n"), "\n")
		if len(lines) != 1+len(f.Places)+len(f.Gates) || !strings.HasSuffix(src, "\n") {
			t.Fatalf("PrintFell(%v): %q", f, src)
		}
	}
}
