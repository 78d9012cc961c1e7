package rule_test

import (
	"fmt"
	"math/rand/v2"
	"strings"
	"testing"

	"couchant/api"
	"couchant/rule"
)

// reads demands the rules of a source.
func reads(t *testing.T, src string, want api.Rules) {
	t.Helper()
	if got, fault := rule.Parse(src); !areSame(got, want) || fault != (api.Fault{}) {
		t.Errorf("Parse(%q): %v, fault %v, want %v", src, got, fault, want)
	}
}

// fails demands the fault of a source.
func fails(t *testing.T, src string, want api.Errno, line int) {
	t.Helper()
	if got, fault := rule.Parse(src); !areSame(got, api.Rules{}) || fault != (api.Fault{Err: want, Line: line}) {
		t.Errorf("Parse(%.200q): %v, fault %v, want error %d in line %d", src, got, fault, want, line)
	}
}

// pays demands how an expression is read and printed.
func pays(t *testing.T, src string, x tree, printed string) {
	t.Helper()
	w := api.Rules{Fines: []api.Fine{fine("a", less(num(1), num(2)), x)}}
	reads(t, "fine a when 1 < 2 pays "+src, w)
	if got := rule.Print(w); got != "fine a when 1 < 2 pays "+printed+"\n" {
		t.Errorf("Print of what pays %s: %q, want %q", src, got, printed)
	}
}

// seizes demands the same of a truth.
func seizes(t *testing.T, src string, x tree, printed string) {
	t.Helper()
	w := api.Rules{Seize: x.expr()}
	reads(t, "seize when "+src, w)
	if got := rule.Print(w); got != "seize when "+printed+"\n" {
		t.Errorf("Print of when %s: %q, want %q", src, got, printed)
	}
}

// C8: the example of Print, and the order of the nodes.
func TestOrderOfNodes(t *testing.T) {
	want := api.Rules{Fines: []api.Fine{{Name: "a", When: api.Expr{
		{Op: api.OpHead, Name: "cow"}, {Op: api.OpNumber, Num: whole(2)}, {Op: api.OpLess, A: 1, B: 0},
		{Op: api.OpTick}, {Op: api.OpNumber, Num: whole(3)}, {Op: api.OpLess, A: 3, B: 4}, {Op: api.OpNot, A: 5},
		{Op: api.OpAnd, A: 2, B: 6},
	}, Pays: api.Expr{
		{Op: api.OpNumber, Num: whole(2)}, {Op: api.OpHead, Name: "cow"}, {Op: api.OpMul, A: 0, B: 1}, {Op: api.OpNumber, Num: whole(1)}, {Op: api.OpAdd, A: 2, B: 3},
	}}}}
	reads(t, "fine a when cow>2 and not tick<3 pays 2*cow+1", want)
	if got := rule.Print(want); got != "fine a when (cow > 2) and (not (tick < 3)) pays (2 * cow) + 1\n" {
		t.Errorf("Print: %q", got)
	}
	w := sample(t)
	printed := "fine over when use > (stints + 2) pays 12 * max(0, (use - stints))\nfine late when (tick >= 3) and (cow > 0) pays 5\nseize when use > (2 * stints)\n"
	if got := rule.Print(w); got != printed {
		t.Errorf("Print of the sample: %q", got)
	}
	reads(t, printed, w)
}

// C8: how each operator is written, what binds stronger, and brackets.
func TestExpressions(t *testing.T) {
	ten, a := num(10), head("a")
	pays(t, "7", num(7), "7")
	pays(t, "7/2", lit(7, 2), "7/2")
	pays(t, "0", num(0), "0")
	pays(t, "7/1", num(7), "7")
	pays(t, "0/1", num(0), "0")
	pays(t, "999999999/1000000", lit(999999999, 1000000), "999999999/1000000")
	pays(t, "999999999", num(999999999), "999999999")
	pays(t, "a", a, "a")
	pays(t, "use", use, "use")
	pays(t, "stints", stints, "stints")
	pays(t, "tick", tick, "tick")
	pays(t, "a+10", add(a, ten), "a + 10")
	pays(t, "a*10", mul(a, ten), "a * 10")
	pays(t, "min(a,10)", least(a, ten), "min(a, 10)")
	pays(t, "max(a,10)", most(a, ten), "max(a, 10)")
	pays(t, "max(0,a -10)", most(num(0), sub(a, ten)), "max(0, (a - 10))")
	pays(t, "max(0,10-3-2)", most(num(0), sub(sub(ten, num(3)), num(2))), "max(0, ((10 - 3) - 2))")
	pays(t, "max(0,10-(3-2))", most(num(0), sub(ten, sub(num(3), num(2)))), "max(0, (10 - (3 - 2)))")
	pays(t, "max(0,10-3+2)", most(num(0), add(sub(ten, num(3)), num(2))), "max(0, ((10 - 3) + 2))")
	pays(t, "max(0,10+3-2)", most(num(0), sub(add(ten, num(3)), num(2))), "max(0, ((10 + 3) - 2))")
	pays(t, "10+3*2", add(ten, mul(num(3), num(2))), "10 + (3 * 2)")
	pays(t, "10*3+2", add(mul(ten, num(3)), num(2)), "(10 * 3) + 2")
	pays(t, "10*(3+2)", mul(ten, add(num(3), num(2))), "10 * (3 + 2)")
	pays(t, "10*3*2", mul(mul(ten, num(3)), num(2)), "(10 * 3) * 2")
	pays(t, "10*(3*2)", mul(ten, mul(num(3), num(2))), "10 * (3 * 2)")
	pays(t, "((a))", a, "a")
	pays(t, "((a)+((10)))", add(a, ten), "a + 10")
	pays(t, "min(a+1,max(a,10))*2", mul(least(add(a, num(1)), most(a, ten)), num(2)), "min((a + 1), max(a, 10)) * 2")
	one, two, three := less(num(1), a), atMost(num(2), a), atLeast(a, num(3))
	seizes(t, "1<a", one, "1 < a")
	seizes(t, "2<=a", two, "2 <= a")
	seizes(t, "a>=3", three, "a >= 3")
	seizes(t, "a>10", more(a, ten), "a > 10")
	seizes(t, "10=10", same(ten, ten), "10 = 10")
	seizes(t, "1<a and 2<=a and a>=3", and(and(one, two), three), "((1 < a) and (2 <= a)) and (a >= 3)")
	seizes(t, "1<a and(2<=a and a>=3)", and(one, and(two, three)), "(1 < a) and ((2 <= a) and (a >= 3))")
	seizes(t, "1<a or 2<=a or a>=3", or(or(one, two), three), "((1 < a) or (2 <= a)) or (a >= 3)")
	seizes(t, "1<a or 2<=a and a>=3", or(one, and(two, three)), "(1 < a) or ((2 <= a) and (a >= 3))")
	seizes(t, "1<a and 2<=a or a>=3", or(and(one, two), three), "((1 < a) and (2 <= a)) or (a >= 3)")
	seizes(t, "(1<a or 2<=a)and a>=3", and(or(one, two), three), "((1 < a) or (2 <= a)) and (a >= 3)")
	seizes(t, "not a<1", not(less(a, num(1))), "not (a < 1)")
	seizes(t, "not(a<1)", not(less(a, num(1))), "not (a < 1)")
	seizes(t, "not not 1<a", not(not(one)), "not (not (1 < a))")
	seizes(t, "not a<1 and 1<a", and(not(less(a, num(1))), one), "(not (a < 1)) and (1 < a)")
	seizes(t, "not(a<1 and a<2)or 1<a", or(not(and(less(a, num(1)), less(a, num(2)))), one), "(not ((a < 1) and (a < 2))) or (1 < a)")
	seizes(t, "1<a and not a<1", and(one, not(less(a, num(1)))), "(1 < a) and (not (a < 1))")
	seizes(t, "1+2*3<a+4", less(add(num(1), mul(num(2), num(3))), add(a, num(4))), "(1 + (2 * 3)) < (a + 4)")
	seizes(t, "max(1,2)*a>=stints -tick", atLeast(mul(most(num(1), num(2)), a), sub(stints, tick)), "(max(1, 2) * a) >= (stints - tick)")
}

// C8: where blanks may be left out, and where there may be more.
func TestBlanks(t *testing.T) {
	want := api.Rules{Fines: []api.Fine{fine("cow-1", and(less(num(1), head("cow-1")), not(less(head("cow"), num(1)))), most(num(0), sub(head("cow"), add(stints, num(1)))))}}
	for _, src := range []string{
		"fine cow-1 when 1<cow-1 and not cow<1 pays max(0,cow -(stints+1))",
		"fine cow-1 when 1 < cow-1 and not cow < 1 pays max(0, cow - (stints + 1))",
		"  fine   cow-1  when  1  <  cow-1  and  not  cow  <  1  pays  max  (  0  ,  cow  -  (  stints  +  1  )  )  ",
		"fine cow-1 when(1<cow-1)and not(cow<1)pays max(0,cow -(stints+1))#",
		"fine cow-1 when 1<cow-1 and not cow<1 pays max(0,cow -(stints+1)) # fine cow-1",
		"\n\n  \n# nothing\n   # nothing\nfine cow-1 when 1<cow-1 and not cow<1 pays max(0,cow -(stints+1))\n\n#\xff\t\r\x00\n",
	} {
		reads(t, src, want)
		reads(t, src+"\n", want)
		reads(t, "\n"+src+"\n\n#", want)
	}
	for _, src := range []string{"", "\n", "   ", "#", "# fine", " \n \n#\n"} {
		reads(t, src, api.Rules{})
	}
	// A name goes on as long as it can, a number does not.
	nothing := num(0)
	seizes(t, "a-1>0", more(head("a-1"), nothing), "a-1 > 0")
	seizes(t, "a -1>0", more(sub(head("a"), num(1)), nothing), "(a - 1) > 0")
	seizes(t, "a - 1>0", more(sub(head("a"), num(1)), nothing), "(a - 1) > 0")
	seizes(t, "a->0", more(head("a-"), nothing), "a- > 0")
	seizes(t, "a--b>0", more(head("a--b"), nothing), "a--b > 0")
	seizes(t, "10-a<=0", atMost(sub(num(10), head("a")), nothing), "(10 - a) <= 0")
	seizes(t, "7/2-a<=0", atMost(sub(lit(7, 2), head("a")), nothing), "(7/2 - a) <= 0")
	seizes(t, "use-1>0", more(head("use-1"), nothing), "use-1 > 0")
	seizes(t, "use -1>0", more(sub(use, num(1)), nothing), "(use - 1) > 0")
	seizes(t, "tick->0", more(head("tick-"), nothing), "tick- > 0")
	seizes(t, "not-1>0", more(head("not-1"), nothing), "not-1 > 0")
}

// C8: lines without a form, and in which line they are found.
func TestForms(t *testing.T) {
	begin := "# the rules\nfine a when 1 < 2 pays 1\n\n"
	bad := []string{
		"fine", "seize", "fine b", "fine b when", "fine b when 1 < 2", "fine b when 1 < 2 pays", "fine b pays 1", "fine b pays 1 when 1 < 2", "fine when 1 < 2 pays 1", "fine b when 1 < 2 pays 1 pays 1", "fine b when 1 < 2 pays 1 fine c when 1 < 2 pays 1", "fine b c when 1 < 2 pays 1", "fine b when 1 < 2 pays 1 1", "fine b when 1 < 2 pays 1,", "fine b when 1 < 2, pays 1",
		"seize when", "seize 1 < 2", "seize b when 1 < 2", "seize when 1 < 2 pays 1", "seize when 1 < 2 seize when 1 < 2", "seize when 1 < 2 and", "seize when when 1 < 2", "seizewhen 1 < 2", "seize when 1 < 2 1 < 2",
		"fine b when 1 < 2pays 1", "fine b when 1 < 1/2pays 1", "seize when 1 < 2and 1 < 2", "seize when 1 < 1/2or 1 < 2", "finea when 1 < 2 pays 1",
		"when 1 < 2", "pays 1", "b", "1", "(", "fines b when 1 < 2 pays 1", "Fine b when 1 < 2 pays 1", "fine B when 1 < 2 pays 1", "fine 1 when 1 < 2 pays 1", "fine - when 1 < 2 pays 1", "fine abcdefghijklmnopqrstuvwxy when 1 < 2 pays 1", "fine b# when 1 < 2 pays 1", "fine b when 1 < 2 # pays 1",
		"\tfine b when 1 < 2 pays 1", "fine\tb when 1 < 2 pays 1", "fine b when 1 < 2 pays 1\r", "\r", "\x00", "\xff", "fine b when 1 < 2 pays 1\x00", "fine ä when 1 < 2 pays 1", "fine b when 1 < 2 pays １", "fine b when 1 < 2 pays 1;", ";",
	}
	for _, word := range []string{"fine", "seize", "when", "pays", "use", "stints", "tick", "min", "max", "and", "or", "not"} {
		bad = append(bad, "fine "+word+" when 1 < 2 pays 1")
	}
	for _, x := range []string{
		"", "(", ")", "()", "(1", "1)", "((1)", "(1))", "1 2", "1 +", "+ 1", "- 1", "-1", "+1", "1 + + 1", "1 - - 1", "1 +- 1", "1 * * 1", "* 1", "1 *", "1 (2)", "a b", "a 1", "1 a", "(1) (2)", "(1)(2)", "(1) 2", "a(1)", "use use", "use(1)", "stints 1",
		"min", "max", "min 1", "min(1)", "min()", "min(1,)", "min(,1)", "min(1,2", "min(1 2)", "min(1, 2, 3)", "min 1, 2", "min((1, 2))", "max(1, 2))", "max, 1", "min-(1, 2)", "minimum(1, 2)", "1, 2", "(1, 2)", ",",
		"fine", "seize", "when", "pays", "and", "or", "not", "1 and", "or 1", "1 or or 1", "not", "1 not", "1 + not 1", "1 not + 1", "1 < not 2 < 3", "not", "1 < not 2", "1 + not 2 < 3",
		"1 < 2 < 3", "1 = 2 = 3", "1 < 2 = 3", "1 >= 2 > 3", "1 <", "< 1", "1 < = 2", "1 > = 2", "1 =< 2", "1 == 2", "1 <> 2", "1 != 2", "1 << 2", "1 <== 2", "1 => 2", "1 =", "= 1", ">=",
		"01", "00", "007", "1234567890", "0000000001", "1000000000", "99999999999999999999", "1.5", "1e3", "1_0", "0x1", "1a", "7a", "7use", "1/", "/1", "1//2", "1/2/3", "1 / 2", "1/ 2", "1 /2", "a/2", "2/a", "1/0", "0/0", "01/2", "1/02", "1/00", "2/4", "0/2", "4/2", "1/1000001", "1/999999999", "1/1234567890", "1234567890/7", "-1/2", "1/-2", "1/(2)", "(1)/2", "1/2a", "1/2/",
		"A", "Cow", "cow_1", "cow.1", "-cow", "abcdefghijklmnopqrstuvwxy", "cow'", "cow- 1", "cow $ 1", "[1]", "{1}", "1 % 2", "1 ^ 2", "a & b", "a | b", "!a", "\"a\"",
	} {
		bad = append(bad, "fine b when 1 < 2 pays "+x)
		if !strings.Contains(x, "<") && !strings.Contains(x, "=") {
			bad = append(bad, "fine b when 1 < "+x+" pays 1", "seize when 1 < "+x)
		}
	}
	for _, line := range bad {
		for _, src := range []string{begin + line, begin + line + "\n", begin + line + "\nfine a when cow pays 1", begin + line + "\n\nfine"} {
			fails(t, src, api.ErrForm, 4)
		}
	}
	// A second seize, also one that has no form otherwise, or has a wrong type.
	fails(t, begin+"seize when 1 < 2\n\nseize when 1 < 2", api.ErrForm, 6)
	fails(t, begin+"seize when 1 < 2\nseize when cow", api.ErrForm, 5)
	fails(t, begin+"seize when 1 < 2\nseize", api.ErrForm, 5)
	fails(t, "seize when 1 < 2\n"+begin+"seize when 1 < 2\n", api.ErrForm, 5)
}

// C8: the errors of lines that have a form.
func TestFaults(t *testing.T) {
	fails(t, "fine x when cow < 3 pays 1", api.ErrFalls, 1)
	fails(t, "fine x when 2 < cow pays cow - 1", api.ErrFalls, 1)
	fails(t, "fine x when cow pays 1", api.ErrType, 1)
	fails(t, "\nfine x when 1 < 2 pays 1 < 2\n", api.ErrType, 2)
	fails(t, "#\n#\nfine x when (1 < 2) + 1 < 2 pays 1", api.ErrType, 3)
	fails(t, "fine x when (1 < 2) = (1 < 2) pays 1", api.ErrType, 1)
	fails(t, "fine x when 1 and 2 pays 1", api.ErrType, 1)
	fails(t, "fine x when not 1 pays 1", api.ErrType, 1)
	fails(t, "fine x when (1 < 2) < 3 pays 1", api.ErrType, 1)
	fails(t, "fine x when 1 < 2 pays min(1 < 2, 3)", api.ErrType, 1)
	fails(t, "seize when cow", api.ErrType, 1)
	fails(t, "seize when not cow > 3", api.ErrFalls, 1)
	fails(t, "fine x when 1 < 2 pays 1\nfine y when 1 < 2 pays 1\nfine x when 1 < 2 pays 1", api.ErrTwice, 3)
	fails(t, "fine x when 1 < 2 pays 1\nfine x when cow pays 1", api.ErrTwice, 2)
	fails(t, "fine x when 1 < 2 pays 1\nfine x when 1 < 2 pays 1\nfine", api.ErrTwice, 2)
	fails(t, "fine x when 1 < 2 pays 1\nfine x when 1 < 2 pays", api.ErrForm, 2)
	fails(t, "seize when cow\nfine", api.ErrType, 1)
	fails(t, "seize when 1 < 2\nfine x when cow < 3 pays 1", api.ErrFalls, 2)
	fails(t, "fine x when cow < 3 pays 1 < 2", api.ErrFalls, 1)
	fails(t, "fine x when 1 < 2 pays 2 - 1", api.ErrFalls, 1)
}

// sumOf returns how a sum with so many nodes is written, which is odd.
func sumOf(nodes int) string { return strings.Repeat("1+", nodes/2) + "1" }

// C8: expressions that are too long, and too many fines: what has no form is found before that, and all else behind it.
func TestLongSources(t *testing.T) {
	if w, fault := rule.Parse("fine a when " + sumOf(197) + " < 2 pays " + sumOf(199) + "\nseize when not 2 < " + sumOf(195)); fault != (api.Fault{Err: api.OK}) || len(w.Fines[0].When) != 199 || len(w.Fines[0].Pays) != 199 || len(w.Seize) != 198 {
		t.Errorf("Parse of long expressions: fault %v", fault)
	}
	if w, fault := rule.Parse("seize when not 2 < " + sumOf(197)); fault != (api.Fault{}) || len(w.Seize) != 200 {
		t.Errorf("Parse of 200 nodes: fault %v", fault)
	}
	fails(t, "seize when not not 2 < "+sumOf(197), api.ErrLimit, 1)
	fails(t, "seize when 2 < "+sumOf(199), api.ErrLimit, 1)
	fails(t, "\nfine a when 1 < 2 pays "+sumOf(201), api.ErrLimit, 2)
	fails(t, "fine a when "+sumOf(199)+" < 2 pays 1", api.ErrLimit, 1)
	fails(t, "fine a when "+sumOf(20001)+" < 2 pays 1", api.ErrLimit, 0)
	fails(t, "fine a when "+sumOf(9001)+" < 2 pays 1", api.ErrLimit, 1)
	fails(t, "fine a when "+sumOf(201)+" < 2 pays", api.ErrForm, 1)
	fails(t, "fine a when 1 < 2 pays "+sumOf(201)+" )", api.ErrForm, 1)
	fails(t, "fine a when 1 < 2 pays 1\nfine a when 1 pays "+sumOf(201), api.ErrLimit, 2)
	fails(t, "fine a when cow < 2 pays "+sumOf(201), api.ErrLimit, 1)
	var twenty strings.Builder
	for i := range 20 {
		fmt.Fprintf(&twenty, "fine f%d when %d < cow pays cow\n", i, i)
	}
	w, fault := rule.Parse(twenty.String() + "#\nseize when 1 < 2")
	if fault != (api.Fault{}) || len(w.Fines) != 20 || w.Fines[7].Name != "f7" || len(w.Seize) != 3 {
		t.Errorf("Parse of 20 fines: %v, fault %v", w, fault)
	}
	fails(t, twenty.String()+"fine f20 when 1 < 2 pays 1", api.ErrLimit, 21)
	fails(t, twenty.String()+"\nfine f0 when 1 pays 1\nfine", api.ErrLimit, 22)
	fails(t, twenty.String()+"\nfine f0 when 1 pays", api.ErrForm, 22)
	fails(t, twenty.String()+"fine use when 1 < 2 pays 1", api.ErrForm, 21)
}

// C8: the size of a source.
func TestSizeOfSource(t *testing.T) {
	src := "fine a when 1 < 2 pays 1\n"
	for _, filler := range []string{"\n", " ", "#", "#x\n"} {
		long := src + strings.Repeat(filler, 20000)
		reads(t, long[:20000], api.Rules{Fines: []api.Fine{fine("a", less(num(1), num(2)), num(1))}})
		fails(t, long[:20001], api.ErrLimit, 0)
	}
	fails(t, strings.Repeat("x", 20000), api.ErrForm, 1)
	fails(t, strings.Repeat("x", 20001), api.ErrLimit, 0)
	fails(t, strings.Repeat("\n", 19999)+"x", api.ErrForm, 20000)
	fails(t, strings.Repeat("\n", 20000)+"x", api.ErrLimit, 0)
	// As deep as it can be.
	deep := 9900
	reads(t, "seize when "+strings.Repeat("(", deep)+"1<2"+strings.Repeat(")", deep), api.Rules{Seize: less(num(1), num(2)).expr()})
	fails(t, "seize when "+strings.Repeat("(", 19980)+"1", api.ErrForm, 1)
	fails(t, "seize when "+strings.Repeat("min(", 4900)+"1", api.ErrForm, 1)
	fails(t, "seize when "+strings.Repeat("not ", 4900)+"1<2", api.ErrLimit, 1)
	fails(t, "seize when "+strings.Repeat("not ", 4900), api.ErrForm, 1)
}

// C8: what is printed of rules that are not right.
func TestPrintOfWrongRules(t *testing.T) {
	for _, w := range []api.Rules{
		{}, {Fines: []api.Fine{{}}}, {Fines: []api.Fine{over(), over()}}, {Fines: []api.Fine{over()}, Seize: cow.expr()}, {Fines: []api.Fine{fine("a", less(cow, num(1)), num(1))}}, {Seize: api.Expr{{Op: 99}}},
	} {
		if got := rule.Print(w); got != "" {
			t.Errorf("Print of %v: %q", w, got)
		}
	}
	long := api.Rules{}
	for i := range 20 {
		x := head("abcdefghijklmnopqrstuvwx")
		for range 99 {
			x = add(x, head("abcdefghijklmnopqrstuvwx"))
		}
		long.Fines = append(long.Fines, fine(fmt.Sprint("f", i), less(num(1), num(2)), x))
	}
	got := rule.Print(long)
	if lines := strings.Split(got, "\n"); len(lines) != 21 || lines[20] != "" || len(got) < 50000 {
		t.Errorf("Print of long rules: %d bytes", len(got))
	}
	fails(t, got, api.ErrLimit, 0)
}

// words returns the words of a tree in order; it has brackets where they are needed, and at some more places.
func words(r *rand.Rand, x tree, binds int) []string {
	s, own := sign(x)
	var l []string
	switch {
	case len(x.parts) == 0:
		l = []string{s}
	case own == 7:
		l = append(append([]string{s, "("}, words(r, x.parts[0], 1)...), ",")
		l = append(append(l, words(r, x.parts[1], 1)...), ")")
	case len(x.parts) == 1:
		l = append([]string{s}, words(r, x.parts[0], own)...)
	default:
		left := own
		if own == 4 {
			left = 5
		}
		l = append(append(words(r, x.parts[0], left), s), words(r, x.parts[1], own+1)...)
	}
	if own < binds || r.IntN(8) == 0 {
		l = append(append([]string{"("}, l...), ")")
	}
	return l
}

// isWord tells whether a string is a name or a word of the language, and isDigits whether it is a number.
func isWord(s string) bool { return 'a' <= s[0] && s[0] <= 'z' }

func isDigits(s string) bool { return '0' <= s[0] && s[0] <= '9' }

// spaced returns a text with these words, in which blanks are left out at some places where they may be.
func spaced(r *rand.Rand, words []string) string {
	var s strings.Builder
	for i, word := range words {
		blank := strings.Repeat(" ", pick(r, 0, 0, 1, 1, 1, 2))
		if i > 0 && blank == "" && (isWord(words[i-1]) && (isWord(word) || isDigits(word) || word == "-") || isDigits(words[i-1]) && (isWord(word) || isDigits(word))) {
			blank = " "
		}
		s.WriteString(blank + word)
	}
	return s.String() + pick(r, "", "", " ", "# x", " # fine")
}

// C8: expressions are read as they bind, wherever there are blanks and more brackets than needed.
func TestParseAtRandom(t *testing.T) {
	r := random(4)
	for range 8000 {
		when, amount := growing(r, 1+r.IntN(4), true), rising(r, r.IntN(4), true)
		w := api.Rules{Fines: []api.Fine{fine(pick(r, names()...), when, amount)}}
		if rule.Check(w) != api.OK || when.size() > 200 || amount.size() > 200 {
			continue
		}
		l := append([]string{"fine", w.Fines[0].Name, "when"}, words(r, when, 1)...)
		l = append(append(l, "pays"), words(r, amount, 1)...)
		src := pick(r, "", "\n", "# x\n", "  \n") + spaced(r, l) + pick(r, "", "\n", "\n\n", "\n#")
		reads(t, src, w)
		if got, want := rule.Print(w), "fine "+w.Fines[0].Name+" when "+when.source(false)+" pays "+amount.source(false)+"\n"; got != want {
			t.Errorf("Print of %q: %q, want %q", src, got, want)
		}
	}
}

// C8: one byte more or less in a source: what is read is printed and read again, or there is a fault in the only line.
func TestParseOfSpoiltSources(t *testing.T) {
	r := random(5)
	read, faults := 0, map[api.Errno]int{}
	for range 30000 {
		w := randomRules(r, 2, 2)
		src := []byte(strings.ReplaceAll(rule.Print(w), "\n", " "))
		if strings.Count(rule.Print(w), "\n") != 1 {
			continue
		}
		for range 1 + r.IntN(2) {
			at := r.IntN(len(src))
			switch r.IntN(3) {
			case 0:
				src = append(src[:at], src[at+1:]...)
			case 1:
				src[at] = "abcfinewhpays 0123/+-*<=>(),# "[r.IntN(30)]
			default:
				src = append(src[:at], append([]byte{"abcfinewhpays 0123/+-*<=>(),# "[r.IntN(30)]}, src[at:]...)...)
			}
		}
		got, fault := rule.Parse(string(src))
		faults[fault.Err]++
		if fault != (api.Fault{}) {
			if fault.Line != 1 || !areSame(got, api.Rules{}) {
				t.Errorf("Parse(%q): %v, fault %v", src, got, fault)
			}
			continue
		}
		read++
		if again, fault := rule.Parse(rule.Print(got)); !areSame(again, got) || fault != (api.Fault{}) {
			t.Errorf("Parse(%q): %v, printed and read again %v, fault %v", src, got, again, fault)
		}
	}
	if read < 1000 || faults[api.ErrForm] < 1000 || faults[api.ErrFalls] < 50 || faults[api.ErrType] < 3 {
		t.Errorf("not enough of each: %d, %v", read, faults)
	}
}
