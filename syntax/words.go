package syntax

// The levels of expressions are the lines of the grammar, from expr on: what an expression of one has on its sides is of this
// level or of a later one, or in brackets.
const (
	exprLevel = iota
	conjLevel
	negLevel
	testLevel
	sumLevel
	termLevel
	signLevel
	primLevel
)

// bodyWords has the words of the operations of bodies.
var bodyWords = [...]string{Select: "select", Values: "values", Union: "union", Except: "except", Intersect: "intersect"}

// joinWords has the words that come before join, by the operations of sources.
var joinWords = [...]string{Cross: "cross", InnerJoin: "inner", LeftJoin: "left", RightJoin: "right", FullJoin: "full"}

// operatorLevel is the level of an operator of two operands; below all levels if op is none.
func operatorLevel(op string) int {
	switch op {
	case "or":
		return exprLevel
	case "and":
		return conjLevel
	case "=", "<>", "<", "<=", ">", ">=":
		return testLevel
	case "+", "-", "||":
		return sumLevel
	case "*", "/", "%":
		return termLevel
	}
	return exprLevel - 1
}

// levelOf is the level of n.
func levelOf(n Node) int {
	switch n.Op {
	case Unary:
		if n.Text == "not" {
			return negLevel
		}
		return signLevel
	case Binary:
		return operatorLevel(n.Text)
	case IsNull, IsTrue, Differs, In, Between:
		return testLevel
	}
	return primLevel
}

// bracketed tells whether the Arg i of n stands in brackets, which are none of n's own.
func bracketed(n Node, i int) bool {
	return levelOf(n.Args[i]) < leastOf(n, i)
}

// leastOf is the first level that the Arg i of n may have without brackets around it.
func leastOf(n Node, i int) int {
	level := levelOf(n)
	switch {
	case level == primLevel || n.Op == In && i > 0:
		return exprLevel
	case level == testLevel:
		return sumLevel
	case n.Op == Binary && i > 0: // operators of a row are joined from the left
		return level + 1
	}
	return level
}
