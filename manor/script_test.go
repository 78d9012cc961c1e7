package manor_test

import (
	"fmt"
	"math/rand/v2"
	"strings"
	"testing"

	"couchant/api"
	"couchant/manor"
	"couchant/pound"
)

// setupLines is the setup S of the chapter as lines of a script.
const setupLines = "setup 3 4000 0 0 6 1\n" + fellS + rulesS

// prints asks that a script prints something.
func prints(t *testing.T, script, want string) {
	t.Helper()
	got, line, e := manor.Run(script)
	if got != want || line != 0 || e != api.OK {
		t.Errorf("Run(%q): %q, %d, %d, want %q", script, got, line, e, want)
	}
}

// The examples of the chapter.
func TestChapterScript(t *testing.T) {
	prints(t, "audit\n", "none\n")
	prints(t, setupLines+"write step complain 7 1 over\ncharge 1\nwant 0 ewe-7 9\nsend 0 1\n", "ok\nok\nerror 8\nnumber 1\nok\n")
	prints(t, setupLines+"want 0 ewe-7 9\nsend 0 1\ncarry 0 1 0\ncarry 0 1 0\ncarry 1 0 0\nholds 0\n", "ok\nnumber 1\nok\nok\nok\nok\nholds 1\newe-7 0 9 1\n")
	prints(t, setupLines+"fee 1 4 12 40\nfee 0 4 12 40\nbalance 1 12\nbacked 1\nroll 1\n", "ok\nnumber 1\nerror 94\nbalance 40\nbacked 0\nroll 1\n1 1 0 fee 4 12 40\n")
}

// K15: what lines print.
func TestPrints(t *testing.T) {
	prints(t, "", "")
	prints(t, "\n\n# a comment\n#\n", "")
	prints(t, "# no line feed", "")
	prints(t, "audit\nentries\ncase 1\nroll 0\nholds 0\nbalance 0 0\nbacked 0\nwrite x\nwant 0 x 1\nfree 0 x\ncharge 1\nfee 0 1 1 1\npay 0 0 1 1\nwaive 0 0 1 1\nsettle 0\nsend 0 1\ncarry 0 1 0\nlose 0 1 0\nrepeat 0 1 0\nstop 0 1\ncrash 0", strings.Repeat("none\n", 21))
	prints(t, "setup 4 4000 0 0 6 1\n"+fellS+rulesS+"audit\n", "error 1\nnone\n")
	prints(t, "setup 3 4000 501 0 6 1\n"+fellS+rulesS, "error 1\n")
	prints(t, "setup 3 4000 0 0 5 2\n"+fellS+rulesS, "error 4\n")
	prints(t, "setup 3 4000 0 0 6 0\n"+fellS+"audit\n", "ok\naudit 1 0 0\n")
	prints(t, "setup 3 4000 0 0 0 0\naudit\n", "error 5\nnone\n")
	prints(t, setupLines+"write day 7\nwrite note x\nsetup 3 999 0 0 0 0\nwrite day 6\nsetup 5 1000 1 2 6 1\n"+fellS+rulesS+"write day 6\nentries\n",
		"ok\nok\nok\nerror 1\nerror 7\nok\nok\n"+entriesOf(api.Setup{Reeves: 5, Sectors: 1000, Fell: fellS, Rules: rulesS, House: api.Rate{Misses: 1, Doubles: 2}}))
	prints(t, setupLines+"write note  a\nentries", "ok\nok\n"+entriesOf(setupS(), "note  a"))
	prints(t, setupLines+"write \nwrite  day 3\nwrite day 3 \nwrite note "+strings.Repeat("x", 1900)+"\nwrite note "+strings.Repeat("x", 1901)+"\nwrite note "+strings.Repeat("x", 1996)+"\n", "ok\nerror 4\nerror 4\nerror 4\nok\nerror 1\nerror 2\n")
	// What stands in the lines of a setup is not looked at, and the last one may lack its line feed.
	prints(t, "setup 3 4000 0 0 7 2\naudit\n"+fellS+"audit  x\nno such line", "error 4\n")
	prints(t, "setup 3 4000 0 0 6 1\n"+fellS+strings.TrimSuffix(rulesS, "\n"), "ok\n")
	prints(t, "setup 3 4000 0 0 7 2\n\n"+fellS+"\n"+rulesS+"audit\n", "ok\naudit 1 0 0\n")
	court := "write step complain 7 1 over\ncase 1\nwrite step summon 1\ncase 1\nwrite day 21\nwrite judge 1\ncase 1\ncase 2\ncase 0\n"
	prints(t, setupLines+court, "ok\nok\ncase 1\nok\ncase 2\nok\nok\ncase 6\ncase 0\ncase 0\n")
	prints(t, setupLines+"roll 0\nroll 3\nholds 0\nholds 3\nbalance 0 12\nbalance 3 12\nbalance 0 999\nbacked 3\nbacked 0\n", "ok\nroll 0\nroll 0\nholds 0\nholds 0\nbalance 0\nerror 1\nbalance 0\nerror 1\nbacked 0\n")
	prints(t, setupLines+"fee 0 3 7 40\npay 0 0 1 30\nwaive 0 0 1 4\nwaive 0 0 1 7\npay 1 0 1 1\nsettle 0\nroll 0\nbalance 0 7\nbalance 0 0\nbalance 0 100\nbalance 0 200\n",
		"ok\nnumber 1\nnumber 2\nnumber 3\nerror 8\nerror 5\nerror 5\nroll 3\n0 1 0 fee 3 7 40\n0 2 0 pay 1 7 30\n0 3 0 waive 1 7 4\nbalance 6\nbalance -36\nbalance 30\nbalance 0\n")
	prints(t, setupLines+"fee 0 3 7 40\nsend 1 0\ncarry 1 0 0\ncarry 0 1 0\npay 1 0 1 30\nsend 0 1\ncarry 0 1 0\ncarry 1 0 1\nsettle 0\nsettle 0\nbalance 0 200\nlose 1 0 0\nrepeat 1 0 0\nlose 1 0 7\n",
		"ok\nnumber 1\nok\nok\nok\nnumber 1\nok\nok\nok\nnumber 0\nerror 5\nbalance 0\nok\nerror 5\nerror 5\n")
	// The write of the second fee is pending when the power fails: as a whole it is there behind the crash, without its bytes it is not.
	torn := setupLines + "fee 1 4 12 40\nstop 1 1\nfee 1 7 12 40\nsend 1 0\ncrash 1"
	prints(t, torn+" 64\nroll 1\n", "ok\nnumber 1\nok\nerror 90\nerror 90\nok\nroll 2\n1 1 0 fee 4 12 40\n1 2 0 fee 7 12 40\n")
	for _, keep := range []string{"", " 0", " -64", " -1 64"} {
		prints(t, torn+keep+"\nroll 1\n", "ok\nnumber 1\nok\nerror 90\nerror 90\nok\nroll 1\n1 1 0 fee 4 12 40\n")
	}
	prints(t, setupLines+"want 0 Any.word! 9\nfree 0 #\x00\nwant 0 ewe 100001\nwant 0 ewe 9\nfree 0 ewe\nfree 0 ewe\n", "ok\nerror 1\nerror 5\nerror 1\nnumber 1\nok\nerror 5\n")
}

// entriesOf returns what entries prints of a transcript.
func entriesOf(s api.Setup, texts ...string) string {
	l, _, _ := manor.Process(s, texts)
	var b strings.Builder
	fmt.Fprintf(&b, "entries %d\n", len(l))
	for _, x := range l {
		text, _ := manor.PutEntry(x)
		fmt.Fprintf(&b, "entry %d\n%s\n", len(text), text)
	}
	return b.String()
}

// K15: the first line that has no form, whatever stands before and behind it.
func TestScriptForms(t *testing.T) {
	right := []string{
		"", "#", "#x", "audit", "entries", "case 0", "case 999999999", "roll 0", "holds 0", "balance 0 0", "backed 0", "write x", "write ", "write  ", "want 0 x 1", "free 0 x", "charge 1", "fee 0 1 1 1", "pay 0 0 1 1", "waive 0 0 1 1", "settle 0",
		"send 0 1", "carry 0 1 0", "lose 0 1 0", "repeat 0 1 0", "stop 0 1", "crash 0", "crash 0 1", "crash 0 -1 0 64 -999999999", "setup 0 0 0 0 0 0", "want 0 0 1", "want 7 \t\xff 1",
	}
	for _, line := range right {
		if s, at, e := manor.Run(line); at != 0 || e != api.OK {
			t.Errorf("Run(%q): %q, %d, %d", line, s, at, e)
		}
	}
	wrong := []string{
		" ", " #", " audit", "audit ", "audit x", "Audit", "audits", "audit\r", "entries ", "entries 1", "case", "case ", "case x", "case 01", "case -1", "case +1", "case 1000000000", "case 1 2", "case 1 ", "case  1", "roll", "roll x", "roll 0 0", "roll -1", "holds", "holds 0 0", "holds x",
		"balance 0", "balance 0 0 0", "balance x 0", "balance 0 x", "balance 0 -1", "balance 0  0", "backed", "backed 0 0", "backed x", "write", "writes x", "want 0 x", "want 0  1", "want 0 x 1 1", "want x x 1", "want 0 x y", "want 0 x -1", "free 0", "free 0 ", "free x x", "free 0 x x",
		"charge", "charge x", "charge 1 1", "charge 01", "fee 0 1 1", "fee 0 1 1 1 1", "fee 0 1 1 x", "fee 0 1 1 -1", "fee 0 1 1 1 ", "pay 0 0 1", "pay 0 0 1 1 1", "pay 0 0 x 1", "waive 0 0 1", "waive 0 0 1 1 1", "waive x 0 1 1", "settle", "settle x", "settle 0 0",
		"send 0", "send 0 1 2", "send x 1", "send 0 -1", "carry 0 1", "carry 0 1 0 0", "carry 0 1 x", "carry 0 1 -1", "lose 0 1", "lose 0 1 x", "lose 0 1 0 0", "repeat 0 1", "repeat 0 1 0 0", "repeat 0 1 x", "stop 0", "stop 0 1 1", "stop 0 -1", "stop 0 x", "crash", "crash ", "crash x", "crash -1", "crash 0 x",
		"crash 0 -0", "crash 0 -01", "crash 0 01", "crash 0 +1", "crash 0 --1", "crash 0 - 1", "crash 0 -", "crash 0  1", "crash 0 1 ", "crash 0 -1000000000", "crash 0 1000000000", "setup", "setup 3 4000 0 0 6", "setup 3 4000 0 0 0 0 0", "setup 3 4000 0 0 x 0", "setup 3 4000 0 0 -1 1", "setup 3 4000 0 0 0 0 ", "setup  3 4000 0 0 0 0",
		"setup 3 4000 -1 0 0 0", "setup 3 4000 0 0 999999999 999999999", "setup 3 4000 0 0 0 1000000000", "none", "ok",
	}
	for _, line := range wrong {
		for _, x := range []struct {
			before string
			at     int
		}{{"", 1}, {"audit\n", 2}, {"\n# x\n", 3}, {setupLines, 9}, {"setup 3 4000 0 0 1 1\nnonsense\nno line\n", 4}} {
			for _, behind := range []string{"", "\n", "\nnonsense\n"} {
				if strings.HasPrefix(line, "setup 3 4000 0 0 6") && behind != "" {
					continue
				}
				s, at, e := manor.Run(x.before + line + behind)
				if s != "" || at != x.at || e != api.ErrForm {
					t.Errorf("Run(%q): %q, %d, %d, want line %d", x.before+line+behind, s, at, e, x.at)
				}
			}
		}
	}
	// A setup whose lines are not all there.
	for _, script := range []string{"setup 3 4000 0 0 1 0", "setup 3 4000 0 0 1 0\n", "setup 3 4000 0 0 0 1\n", "setup 3 4000 0 0 1 1\nx\n", "setup 3 4000 0 0 2 1\nx\nx"} {
		if s, at, e := manor.Run(script); s != "" || at != 1 || e != api.ErrForm {
			t.Errorf("Run(%q): %q, %d, %d", script, s, at, e)
		}
	}
	prints(t, "setup 3 4000 0 0 1 1\nx\nx", "error 4\n")
	prints(t, "setup 3 4000 0 0 1 1\n\n\n", "error 5\n")
	for _, x := range []struct {
		script string
		e      api.Errno
	}{{strings.Repeat("\n", 20000), api.OK}, {strings.Repeat("\n", 20001), api.ErrLimit}, {"x" + strings.Repeat("\n", 20000), api.ErrLimit}, {"#" + strings.Repeat("x", 19999), api.OK}} {
		if s, at, e := manor.Run(x.script); s != "" || at != 0 || e != x.e {
			t.Errorf("Run of %d bytes: %q, %d, %d", len(x.script), s, at, e)
		}
	}
}

// modelRun runs a script on a manor, by its methods.
func modelRun(script string) (string, int, api.Errno) {
	var b strings.Builder
	var m *manor.Manor
	reeves := 0
	lines := strings.SplitAfter(script, "\n")
	for i := 0; i < len(lines); i++ {
		line := strings.TrimSuffix(lines[i], "\n")
		if line == "" || line[0] == '#' {
			continue
		}
		if w, is := found(form("setup N N N N N N"), line); is {
			k, l := atoi(w[4]), atoi(w[5])
			s := api.Setup{Reeves: atoi(w[0]), Sectors: atoi(w[1]), House: api.Rate{Misses: atoi(w[2]), Doubles: atoi(w[3])}}
			s.Fell, s.Rules = strings.Join(lines[i+1:i+1+k], ""), strings.Join(lines[i+1+k:i+1+k+l], "")
			i += k + l
			made, e := manor.New(s)
			if e == api.OK {
				m, reeves = made, s.Reeves
			}
			printed(&b, "ok", outcome{e: e})
			continue
		}
		word, rest, _ := strings.Cut(line, " ")
		c, is := scriptCommand(word, rest, line)
		switch {
		case m == nil:
			fmt.Fprintln(&b, "none")
		case is && strings.Contains(" want charge fee pay waive settle ", " "+word+" "):
			x := c.of(m)
			printed(&b, fmt.Sprint("number ", x.n), x)
		case is:
			printed(&b, "ok", c.of(m))
		default:
			modelQuestion(&b, m, reeves, word, rest)
		}
	}
	return b.String(), 0, api.OK
}

// printed prints what a command has returned.
func printed(b *strings.Builder, text string, x outcome) {
	if x.e != api.OK {
		text = fmt.Sprint("error ", int(x.e))
	}
	fmt.Fprintln(b, text)
}

// scriptCommand returns the command that a line is, unless it is a question.
func scriptCommand(word, rest, line string) (command, bool) {
	c := command{name: word}
	w := strings.Fields(rest)
	switch word {
	case "write":
		c.text = rest
	case "want":
		c.n, c.text = [4]int{atoi(w[0]), atoi(w[2])}, w[1]
	case "free":
		c.n[0], c.text = atoi(w[0]), w[1]
	case "crash":
		c.n[0] = atoi(w[0])
		for _, x := range w[1:] {
			c.keep = append(c.keep, atoi(x))
		}
	case "charge", "fee", "pay", "waive", "settle", "send", "carry", "lose", "repeat", "stop":
		for i, x := range w {
			c.n[i] = atoi(x)
		}
	default:
		return c, false
	}
	return c, true
}

// modelQuestion prints what a question prints.
func modelQuestion(b *strings.Builder, m *manor.Manor, reeves int, word, rest string) {
	var n [2]int
	for i, x := range strings.Fields(rest) {
		n[i] = atoi(x)
	}
	switch word {
	case "entries":
		fmt.Fprintln(b, "entries", len(m.Entries()))
		for _, x := range m.Entries() {
			text, _ := manor.PutEntry(x)
			fmt.Fprintf(b, "entry %d\n%s\n", len(text), text)
		}
	case "audit":
		x := m.Audit()
		fmt.Fprintln(b, "audit", map[bool]int{true: 1}[x.Ok], x.At, x.What)
	case "case":
		fmt.Fprintln(b, "case", manor.Case(m.Books(), n[0]))
	case "roll":
		fmt.Fprintln(b, "roll", len(m.Roll(n[0])))
		for _, p := range m.Roll(n[0]) {
			line, _ := pound.Write(reeves, p)
			fmt.Fprintln(b, line)
		}
	case "holds":
		fmt.Fprintln(b, "holds", len(m.Holds(n[0])))
		for _, x := range m.Holds(n[0]) {
			fmt.Fprintln(b, x.Tag, x.From, x.Until, x.Number)
		}
	case "balance", "backed":
		at, e := manor.Backed(m.Entries(), reeves, m.Roll(n[0]))
		if word == "balance" {
			at, e = pound.Balance(reeves, m.Roll(n[0]), n[1])
		}
		if n[0] >= reeves {
			at, e = 0, api.ErrArg
		}
		printed(b, fmt.Sprint(word, " ", at), outcome{e: e})
	default:
		panic(word)
	}
}

// someLine returns a line of a script.
func someLine(r *rand.Rand, reeves int) string {
	switch r.IntN(12) {
	case 0:
		return pick(r, "", "# a comment", "entries", "audit", "audit", fmt.Sprint("case ", r.IntN(8)), "backed "+fmt.Sprint(r.IntN(6)))
	case 1:
		return fmt.Sprint(pick(r, "roll ", "holds "), r.IntN(6))
	case 2:
		return fmt.Sprint("balance ", r.IntN(6), " ", pick(r, 0, 7, 8, 100, 101, 200))
	case 3:
		return "write " + pick(r, recordPaper(r), "day 22", "judge 6", fmt.Sprint("step reopen ", 1+r.IntN(6)))
	}
	for {
		c := someCommand(r, reeves)
		words := []string{c.name}
		count := map[string]int{"charge": 1, "fee": 4, "pay": 4, "waive": 4, "settle": 1, "send": 2, "carry": 3, "lose": 3, "repeat": 3, "stop": 2, "crash": 1}[c.name]
		for _, x := range c.n[:count] {
			words = append(words, fmt.Sprint(x))
		}
		switch c.name {
		case "want":
			words = append(words, fmt.Sprint(c.n[0]), c.text, fmt.Sprint(c.n[1]))
		case "free":
			words = append(words, fmt.Sprint(c.n[0]), c.text)
		case "crash":
			for _, x := range c.keep {
				words = append(words, fmt.Sprint(x))
			}
		}
		line := strings.Join(words, " ")
		if !strings.HasSuffix(line, " ") && (c.name == "crash" && c.n[0] >= 0 || !strings.Contains(line, "-1")) {
			return line
		}
	}
}

// P10.11: scripts print what the methods return, and a beginning of a script prints a beginning.
func TestScriptsAsModel(t *testing.T) {
	r := random(8)
	printed := map[string]int{}
	for range 60 {
		reeves := pick(r, 3, 5)
		script := ""
		if r.IntN(10) == 0 {
			script = someLine(r, reeves) + "\n"
		}
		script += fmt.Sprintf("setup %d %d %d %d 6 1\n%s%s", reeves, pick(r, 1000, 4000), r.IntN(3), r.IntN(3), fellS, rulesS)
		for _, text := range begin() {
			script += "write " + text + "\n"
		}
		half := ""
		n := 60 + r.IntN(200)
		for i := range n {
			script += someLine(r, reeves) + "\n"
			if i == n/2 {
				half = script
			}
		}
		got, at, e := manor.Run(script)
		want, _, _ := modelRun(script)
		if got != want || at != 0 || e != api.OK {
			t.Fatalf("Run(%q): %q, %d, %d, want %q", script, got, at, e, want)
		}
		if first, _, e := manor.Run(half); e != api.OK || !strings.HasPrefix(got, first) {
			t.Fatalf("Run(%q): %q, %d, which is no beginning of %q", half, first, e, got)
		}
		for line := range strings.Lines(got) {
			word, rest, _ := strings.Cut(strings.TrimSuffix(line, "\n"), " ")
			if word == "error" {
				word += " " + rest
			}
			printed[word]++
		}
	}
	for _, word := range []string{"ok", "number", "none", "entries", "entry", "audit", "case", "roll", "holds", "balance", "backed", "error 1", "error 5", "error 8", "error 90", "error 93", "error 94", "ewe-7"} {
		if printed[word] == 0 {
			t.Errorf("never printed: %s", word)
		}
	}
}
