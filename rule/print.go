package rule

import (
	"strconv"
	"strings"

	"couchant/api"
)

// part is how a part of an expression is written, and whether it needs brackets within another one.
type part struct {
	text   string
	signed bool
}

// inner returns how it is written within another part.
func (p part) inner() string {
	if p.signed {
		return "(" + p.text + ")"
	}
	return p.text
}

// written returns how a right expression is written.
func written(e api.Expr) string {
	ops := operators()
	return fold(e, func(n api.Node, a, b part) part {
		o := ops[n.Op]
		switch n.Op {
		case api.OpNumber:
			return part{text: numeral(n.Num)}
		case api.OpHead:
			return part{text: n.Name}
		case api.OpUse, api.OpStints, api.OpTick:
			return part{text: o.sign}
		case api.OpMin, api.OpMax:
			return part{text: o.sign + "(" + a.inner() + ", " + b.inner() + ")"}
		case api.OpNot:
			return part{o.sign + " " + a.inner(), true}
		}
		if n.A > n.B {
			return part{join(b.inner(), o.turned, a.inner()), true}
		}
		return part{join(a.inner(), o.sign, b.inner()), true}
	}).text
}

func join(words ...string) string { return strings.Join(words, " ") }

// numeral returns how a number is written.
func numeral(x api.Frac) string {
	if x.Den == 1 {
		return strconv.Itoa(x.Num)
	}
	return strconv.Itoa(x.Num) + "/" + strconv.Itoa(x.Den)
}

// Print returns the source of right rules.
func Print(w api.Rules) string {
	if Check(w) != api.OK {
		return ""
	}
	var source strings.Builder
	for _, x := range w.Fines {
		source.WriteString(join("fine", x.Name, "when", written(x.When), "pays", written(x.Pays)) + "\n")
	}
	if len(w.Seize) > 0 {
		source.WriteString(join("seize", "when", written(w.Seize)) + "\n")
	}
	return source.String()
}
