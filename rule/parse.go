package rule

import (
	"slices"
	"strings"

	"couchant/api"
)

// reader reads a line of a source: word is the one that comes next (empty behind the last one), expr the expression that is being read.
type reader struct {
	next func() string
	word string
	expr api.Expr
	ops  [api.OpNot + 1]operator
}

func newReader(line string) *reader {
	r := &reader{next: wordsOf(line), ops: operators()}
	r.step()
	return r
}

// step goes on to the next word.
func (r *reader) step() { r.word = r.next() }

// take goes on behind a word, which has to be there.
func (r *reader) take(word string) {
	need(r.word == word, api.ErrForm)
	r.step()
}

// name goes on behind a name, which has to be there, and returns it.
func (r *reader) name() string {
	name := r.word
	need(isFree(name), api.ErrForm)
	r.step()
	return name
}

// add puts a node at the end of the expression and returns its index.
func (r *reader) add(n api.Node) int {
	r.expr = append(r.expr, n)
	return len(r.expr) - 1
}

// expression goes on behind an expression and returns it.
func (r *reader) expression() api.Expr {
	r.expr = nil
	r.either()
	return r.expr
}

// The functions that read a part of an expression go on behind it, and return the index of its last node: from those with the signs that bind weakest to those that bind strongest.

func (r *reader) either() int { return r.chain((*reader).both, api.OpOr) }

func (r *reader) both() int { return r.chain((*reader).opposite, api.OpAnd) }

func (r *reader) opposite() int {
	if r.word != "not" {
		return r.comparison()
	}
	r.step()
	a := r.opposite()
	return r.add(api.Node{Op: api.OpNot, A: a})
}

func (r *reader) comparison() int {
	left := r.sums()
	op, turned := r.compared()
	if op == 0 {
		return left
	}
	r.step()
	right := r.sums()
	if turned {
		left, right = right, left
	}
	return r.add(api.Node{Op: op, A: left, B: right})
}

// compared returns the operator of the comparison sign that comes next (0 without one), and whether it is the other way round.
func (r *reader) compared() (op uint8, turned bool) {
	for _, op := range []uint8{api.OpLess, api.OpAtMost, api.OpSame} {
		switch r.word {
		case "":
			return 0, false
		case r.ops[op].sign:
			return op, false
		case r.ops[op].turned:
			return op, true
		}
	}
	return 0, false
}

func (r *reader) sums() int { return r.chain((*reader).products, api.OpAdd, api.OpSub) }

func (r *reader) products() int { return r.chain((*reader).operand, api.OpMul) }

// chain reads parts with the signs of some operators between them, from left to right.
func (r *reader) chain(part func(*reader) int, ops ...uint8) int {
	left := part(r)
	for {
		at := slices.IndexFunc(ops, func(op uint8) bool { return r.ops[op].sign == r.word })
		if at < 0 {
			return left
		}
		r.step()
		right := part(r)
		left = r.add(api.Node{Op: ops[at], A: left, B: right})
	}
}

// operand reads a part that has no signs, but those in brackets.
func (r *reader) operand() int {
	for _, op := range []uint8{api.OpUse, api.OpStints, api.OpTick} {
		if r.word == r.ops[op].sign {
			r.step()
			return r.add(api.Node{Op: op})
		}
	}
	for _, op := range []uint8{api.OpMin, api.OpMax} {
		if r.word == r.ops[op].sign {
			r.step()
			return r.choice(op)
		}
	}
	switch {
	case r.word == "(":
		r.step()
		inner := r.either()
		r.take(")")
		return inner
	case r.word != "" && isDigit(r.word[0]):
		n := api.Node{Op: api.OpNumber, Num: literal(r.word)}
		r.step()
		return r.add(n)
	}
	return r.add(api.Node{Op: api.OpHead, Name: r.name()})
}

// choice reads the brackets behind min and max.
func (r *reader) choice(op uint8) int {
	r.take("(")
	a := r.either()
	r.take(",")
	b := r.either()
	r.take(")")
	return r.add(api.Node{Op: op, A: a, B: b})
}

// fine reads a fine.
func (r *reader) fine() api.Fine {
	var x api.Fine
	r.take("fine")
	x.Name = r.name()
	r.take("when")
	x.When = r.expression()
	r.take("pays")
	x.Pays = r.expression()
	return x
}

// seize reads when beasts may be impounded.
func (r *reader) seize() api.Expr {
	r.take("seize")
	r.take("when")
	return r.expression()
}

// readLine adds what a line says to rules; it gives up if something is wrong with it.
func readLine(w *api.Rules, line string) {
	r := newReader(line)
	var read []api.Expr
	switch r.word {
	case "":
		return
	case "fine":
		x := r.fine()
		w.Fines = append(w.Fines, x)
		read = []api.Expr{x.When, x.Pays}
	case "seize":
		need(len(w.Seize) == 0, api.ErrForm)
		w.Seize = r.seize()
		read = []api.Expr{w.Seize}
	default:
		panic(api.ErrForm)
	}
	r.take("") // nothing comes behind it
	for _, e := range read {
		need(len(e) <= api.MaxOps, api.ErrLimit)
	}
	wrong := Check(*w)
	need(wrong == api.OK, wrong)
}

// Parse returns the rules with a source, or what is wrong with that, and in which line.
func Parse(src string) (api.Rules, api.Fault) {
	if len(src) > api.MaxSource {
		return api.Rules{}, api.Fault{Err: api.ErrLimit}
	}
	var w api.Rules
	for i, line := range strings.Split(src, "\n") {
		said, _, _ := strings.Cut(line, "#")
		if e := attempt(func() { readLine(&w, said) }); e != api.OK {
			return api.Rules{}, api.Fault{Err: e, Line: i + 1}
		}
	}
	return w, api.Fault{}
}
