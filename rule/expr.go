package rule

import (
	"iter"
	"slices"

	"couchant/api"
)

// operator is what all nodes with one Op have in common.
type operator struct {
	operands int
	// takes is the type of the operands, gives that of the value.
	takes, gives uint8
	// sign is how it is written, turned how it is with the operands the other way round.
	sign, turned string
	value        func(asked) value
}

// operators returns the operators, each at its Op.
func operators() [api.OpNot + 1]operator {
	const number, truth = api.TypeNumber, api.TypeTruth
	return [...]operator{
		api.OpNumber: {0, 0, number, "", "", asked.literal},
		api.OpHead:   {0, 0, number, "", "", asked.head},
		api.OpUse:    {0, 0, number, "use", "", asked.use},
		api.OpStints: {0, 0, number, "stints", "", asked.stints},
		api.OpTick:   {0, 0, number, "tick", "", asked.tick},
		api.OpAdd:    {2, number, number, "+", "", asked.sum},
		api.OpSub:    {2, number, number, "-", "", asked.difference},
		api.OpMul:    {2, number, number, "*", "", asked.product},
		api.OpMin:    {2, number, number, "min", "", asked.lesser},
		api.OpMax:    {2, number, number, "max", "", asked.greater},
		api.OpLess:   {2, number, truth, "<", ">", asked.isLess},
		api.OpAtMost: {2, number, truth, "<=", ">=", asked.isAtMost},
		api.OpSame:   {2, number, truth, "=", "", asked.isSame},
		api.OpAnd:    {2, truth, truth, "and", "", asked.both},
		api.OpOr:     {2, truth, truth, "or", "", asked.either},
		api.OpNot:    {1, truth, truth, "not", "", asked.opposite},
	}
}

// isOp tells whether there is an operator with an Op.
func isOp(op uint8) bool { return api.OpNumber <= op && op <= api.OpNot }

// spot is a node of an expression with its operator, and the indices of what the row has for it as operands: fewer than it needs if there are no more.
type spot struct {
	node     api.Node
	operator operator
	operands []int
}

// spots yields the nodes of an expression, one after the other.
func spots(e api.Expr) iter.Seq[spot] {
	return func(yield func(spot) bool) {
		ops := operators()
		var row []int
		for i, n := range e {
			s := spot{node: n}
			if isOp(n.Op) {
				s.operator = ops[n.Op]
			}
			rest := max(0, len(row)-s.operator.operands)
			s.operands = row[rest:]
			if !yield(s) {
				return
			}
			row = append(row[:rest], i)
		}
	}
}

// isPlain tells whether a node has the Num and the Name that it needs, and no others.
func (s spot) isPlain() bool {
	num, name := s.node.Num == api.Frac{}, s.node.Name == ""
	switch s.node.Op {
	case api.OpNumber:
		num = isValid(s.node.Num) && within(s.node.Num.Num, 0, api.MaxLiteral)
	case api.OpHead:
		name = isFree(s.node.Name)
	}
	return num && name
}

// isJoined tells whether a node has the A and the B that it needs, and no others.
func (s spot) isJoined() bool {
	a, b := s.node.A, s.node.B
	if s.operator.turned != "" && a > b {
		a, b = b, a
	}
	set := []int{a, b}
	size := s.operator.operands
	for _, other := range set[size:] {
		if other != 0 {
			return false
		}
	}
	return slices.Equal(set[:size], s.operands)
}

// takes tells whether all operands of a node have the type that it takes.
func (s spot) takes(types []uint8) bool {
	for _, i := range s.operands {
		if types[i] != s.operator.takes {
			return false
		}
	}
	return true
}

// CheckExpr returns the type of an expression, or what is wrong with its first node that is not right.
func CheckExpr(e api.Expr) (uint8, api.Errno) {
	switch {
	case len(e) > api.MaxOps:
		return 0, api.ErrLimit
	case len(e) == 0:
		return 0, api.ErrForm
	}
	var types []uint8
	left := 0
	for s := range spots(e) {
		switch {
		case !isOp(s.node.Op), !s.isPlain(), !s.isJoined():
			return 0, api.ErrArg
		case !s.takes(types):
			return 0, api.ErrType
		}
		types = append(types, s.operator.gives)
		left += 1 - s.operator.operands
	}
	if left != 1 {
		return 0, api.ErrArg
	}
	return types[len(e)-1], api.OK
}

// fold returns what a function makes of a right expression, if it is given each node with what it made of A and of B; of a field that the node does not have it is told nothing that is of use.
func fold[T any](e api.Expr, of func(n api.Node, a, b T) T) T {
	var made []T
	for s := range spots(e) {
		var a, b T
		if len(s.operands) > 0 {
			a, b = made[s.node.A], made[s.node.B]
		}
		made = append(made, of(s.node, a, b))
	}
	return made[len(e)-1]
}

// Sorts returns the names of the sorts in an expression, ascending, each once.
func Sorts(e api.Expr) ([]string, api.Errno) {
	if _, err := CheckExpr(e); err != api.OK {
		return nil, err
	}
	var sorts []string
	for _, n := range e {
		if n.Op == api.OpHead {
			sorts = append(sorts, n.Name)
		}
	}
	slices.Sort(sorts)
	return slices.Compact(sorts), api.OK
}
