package tests

import (
	"fmt"
	"math"
	"regexp"
	"slices"
	"strconv"
	"strings"
	"testing"

	"loop.example/g00873/impl"
)

// variable, number, literal, leaf and node return expressions.
func variable(s string) impl.Expr         { return leaf(impl.ExName, s) }
func number(n int64) impl.Expr            { return impl.Expr{Kind: impl.ExInteger, Num: n} }
func literal(s string) impl.Expr          { return leaf(impl.ExString, s) }
func leaf(kind int64, s string) impl.Expr { return impl.Expr{Kind: kind, Text: s} }

func node(kind int64, kids ...impl.Expr) impl.Expr {
	return impl.Expr{Kind: kind, Kids: kids}
}

func call(s string, args ...impl.Expr) impl.Expr {
	return impl.Expr{Kind: impl.ExCall, Text: s, Kids: args}
}

// series returns the operation that combines count equal operands from left to right.
func series(kind int64, operand impl.Expr, count int) impl.Expr {
	e := operand
	for range count - 1 {
		e = node(kind, e, operand)
	}
	return e
}

// nested returns an expression with count nodes above an operand.
func nested(kind int64, count int, operand impl.Expr) impl.Expr {
	for range count {
		operand = node(kind, operand)
	}
	return operand
}

// sharedKids returns an expression with 2^depth leaves that needs little
// memory, because both operands of each node are the same.
func sharedKids(depth int) impl.Expr {
	e := variable("A")
	for range depth {
		kids := []impl.Expr{e, e}
		e = node(impl.ExAdd, kids...)
	}
	return e
}

// endlessKids returns an expression without end: a chain of length nodes, the last of which contains the first.
func endlessKids(length int) impl.Expr {
	first := []impl.Expr{{Kind: impl.ExNeg}}
	last := first
	for range length - 1 {
		kids := []impl.Expr{{Kind: impl.ExNeg}}
		last[0].Kids = kids
		last = kids
	}
	last[0].Kids = first
	return first[0]
}

func checkExpr(t *testing.T, what string, got, want impl.Expr) {
	t.Helper()
	if !impl.SameExpr(got, want) {
		t.Errorf("%s: got %+v, want %+v", what, got, want)
	}
}

func TestExpressionConstants(t *testing.T) {
	kinds := []int64{impl.ExString, impl.ExInteger, impl.ExName, impl.ExCall, impl.ExIndex, impl.ExAlt, impl.ExCat, impl.ExAdd, impl.ExSub, impl.ExMul, impl.ExDiv, impl.ExCond, impl.ExNow, impl.ExNeg, impl.ExIndirect, impl.ExNameOf, impl.ExDefer, impl.ExCursor}
	for i, kind := range kinds {
		checkEqual(t, "kind", kind, int64(i+1))
	}
	checkEqual(t, "MaxNodes", int64(impl.MaxNodes), 60)
	checkEqual(t, "MaxArgs", int64(impl.MaxArgs), 6)
}

// exprFields describes, for each kind of expressions, the fields of its valid nodes.
var exprFields = map[int64]struct {
	number bool
	text   *regexp.Regexp
	kids   []int
}{
	impl.ExString:   {text: regexp.MustCompile(`\A([ -&(-~]{0,200}|[ !#-~]{0,200})\z`), kids: []int{0}},
	impl.ExInteger:  {number: true, kids: []int{0}},
	impl.ExName:     {text: nameSyntax, kids: []int{0}},
	impl.ExCall:     {text: nameSyntax, kids: []int{0, 1, 2, 3, 4, 5, 6}},
	impl.ExIndex:    {kids: []int{2}},
	impl.ExAlt:      {kids: []int{2}},
	impl.ExCat:      {kids: []int{2}},
	impl.ExAdd:      {kids: []int{2}},
	impl.ExSub:      {kids: []int{2}},
	impl.ExMul:      {kids: []int{2}},
	impl.ExDiv:      {kids: []int{2}},
	impl.ExCond:     {kids: []int{2}},
	impl.ExNow:      {kids: []int{2}},
	impl.ExNeg:      {kids: []int{1}},
	impl.ExIndirect: {kids: []int{1}},
	impl.ExNameOf:   {text: nameSyntax, kids: []int{0}},
	impl.ExDefer:    {text: nameSyntax, kids: []int{0}},
	impl.ExCursor:   {text: nameSyntax, kids: []int{0}},
}

// modelNodes counts the nodes of an expression that is neither large nor deep; it returns 0 if the expression is invalid.
func modelNodes(e impl.Expr) int64 {
	fields, ok := exprFields[e.Kind]
	if !ok || !slices.Contains(fields.kids, len(e.Kids)) {
		return 0
	}
	if e.Num != 0 && !fields.number || e.Num < 0 || e.Num > 1000000000000 {
		return 0
	}
	if fields.text == nil && e.Text != "" || fields.text != nil && !fields.text.MatchString(e.Text) {
		return 0
	}
	if (e.Kind == impl.ExCond || e.Kind == impl.ExNow) && e.Kids[1].Kind != impl.ExName {
		return 0
	}
	count := int64(1)
	for _, kid := range e.Kids {
		nodes := modelNodes(kid)
		if nodes == 0 {
			return 0
		}
		count += nodes
	}
	if count > 60 {
		return 0
	}
	return count
}

// manyExprs returns expressions with all combinations of usual and unusual fields.
func manyExprs() []impl.Expr {
	kinds := []int64{math.MinInt64, -1, 0, 19, 20, 257, 1 << 32, math.MaxInt64}
	for kind := range int64(18) {
		kinds = append(kinds, kind+1)
	}
	numbers := []int64{math.MinInt64, -1, 0, 1, 1000000000000, 1000000000001, math.MaxInt64}
	texts := []string{"", "A", "ABCDEFGHIJKL", "ABCDEFGHIJKLM", "1", "A B", "it's", "\"", "'\"", "\n", "a\xff", strings.Repeat("x", 200), strings.Repeat("x", 201)}
	a, bad := variable("A"), variable("1")
	lists := [][]impl.Expr{nil, {}, {a}, {bad}, {a, a}, {number(1), a}, {a, number(1)}, {a, leaf(impl.ExNameOf, "A")}, {bad, a}, {a, bad}, {a, a, a}, {a, a, a, a, a, a}, {a, a, a, a, a, bad}, {a, a, a, a, a, a, a}, {{}}, {{}, {}}}
	var list []impl.Expr
	for _, kind := range kinds {
		for _, n := range numbers {
			for _, s := range texts {
				for _, kids := range lists {
					list = append(list, impl.Expr{Kind: kind, Num: n, Text: s, Kids: kids})
				}
			}
		}
	}
	return list
}

func TestExpressionsAgainstModel(t *testing.T) {
	valid := 0
	for _, e := range manyExprs() {
		nodes := modelNodes(e)
		if nodes > 0 {
			valid++
		}
		if impl.ValidExpr(e) != (nodes > 0) || impl.ExprNodes(e) != nodes || (impl.PrintExpr(e) != "") != (nodes > 0) {
			t.Errorf("%+v: valid %t, %d nodes, printed as %q", e, impl.ValidExpr(e), impl.ExprNodes(e), impl.PrintExpr(e))
		}
	}
	if valid < 90 {
		t.Errorf("only %d expressions are valid", valid)
	}
}

func TestExprNodes(t *testing.T) {
	a := variable("A")
	sum := node(impl.ExAdd, a, number(1))
	for _, c := range []struct {
		what string
		e    impl.Expr
		want int64
	}{
		{"the example", sum, 3},
		{"a leaf", a, 1},
		{"zero", impl.Expr{}, 0},
		{"a call without arguments", call("F"), 1},
		{"a call", call("F", a, sum), 5},
		{"empty Kids", impl.Expr{Kind: impl.ExName, Text: "A", Kids: []impl.Expr{}}, 1},
		{"MaxNodes nodes in a chain", nested(impl.ExNeg, 59, a), 60},
		{"one more in a chain", nested(impl.ExNeg, 60, a), 0},
		{"one less than MaxNodes nodes in a series", series(impl.ExCat, a, 30), 59},
		{"MaxNodes nodes in a series", nested(impl.ExNeg, 1, series(impl.ExCat, a, 30)), 60},
		{"one more in a series", series(impl.ExCat, a, 31), 0},
		{"MaxNodes nodes with the last one in an argument", call("F", series(impl.ExCat, a, 29), number(1), nested(impl.ExNeg, 0, a)), 60},
		{"one more in an argument", call("F", series(impl.ExCat, a, 29), number(1), nested(impl.ExNeg, 1, a)), 0},
		{"MaxArgs arguments", call("F", a, a, a, a, a, a), 7},
		{"one argument more", call("F", a, a, a, a, a, a, a), 0},
		{"an invalid kid", nested(impl.ExNeg, 5, variable("1")), 0},
		{"an invalid node beyond the limit", nested(impl.ExNeg, 60, variable("1")), 0},
		{"very deep", nested(impl.ExIndirect, 1000000, a), 0},
		{"very wide", call("F", make([]impl.Expr, 1000000)...), 0},
		{"very many shared nodes", sharedKids(200), 0},
		{"nodes without end", endlessKids(1), 0},
		{"a name without end", variable(strings.Repeat("A", 1000000)), 0},
	} {
		checkEqual(t, c.what, impl.ExprNodes(c.e), c.want)
		checkEqual(t, c.what+": valid", impl.ValidExpr(c.e), c.want > 0)
		checkEqual(t, c.what+": printed", impl.PrintExpr(c.e) != "", c.want > 0)
		checkEqual(t, c.what+": names", len(impl.NamesIn(c.e)) > 0, c.want > 0 && c.e.Kind != impl.ExCall || c.want > 1)
		checkEqual(t, c.what+": calls", len(impl.CallsIn(c.e)) > 0, c.want > 0 && c.e.Kind == impl.ExCall)
	}
}

func TestSameExpr(t *testing.T) {
	list := []impl.Expr{
		{}, {Kind: 1}, {Kind: 2}, {Num: 1}, {Num: -1}, {Text: "A"}, {Text: "a"}, {Kids: []impl.Expr{{}}}, {Kids: []impl.Expr{{}, {}}},
		variable("A"), variable("B"), number(1), number(2), literal("A"), call("A"), call("A", variable("A")), call("A", variable("B")),
		call("A", variable("A"), variable("B")), call("A", variable("B"), variable("A")),
		node(impl.ExAdd, variable("A"), number(1)), node(impl.ExSub, variable("A"), number(1)), node(impl.ExAdd, number(1), variable("A")),
		node(impl.ExAdd, node(impl.ExAdd, number(1), number(1)), number(1)), node(impl.ExAdd, number(1), node(impl.ExAdd, number(1), number(1))),
		nested(impl.ExNeg, 70, number(1)), nested(impl.ExNeg, 71, number(1)), nested(impl.ExNeg, 70, number(2)),
	}
	for i, a := range list {
		for j, b := range list {
			checkEqual(t, fmt.Sprintf("%+v and %+v", a, b), impl.SameExpr(a, copyExpr(b)), i == j)
		}
	}
	empty := impl.Expr{Kind: impl.ExName, Text: "A", Kids: []impl.Expr{}}
	checkEqual(t, "nil and empty Kids", impl.SameExpr(empty, variable("A")), true)
	checkEqual(t, "empty and nil Kids", impl.SameExpr(variable("A"), empty), true)
	sum := node(impl.ExAdd, variable("A"), number(1))
	checkEqual(t, "the sum and 2", impl.SameExpr(sum, number(2)), false)
}

// copyExpr returns an equal expression that shares no memory.
func copyExpr(e impl.Expr) impl.Expr {
	e.Text = strings.Clone(e.Text)
	e.Kids = slices.Clone(e.Kids)
	for i := range e.Kids {
		e.Kids[i] = copyExpr(e.Kids[i])
	}
	return e
}

func TestSameExprOfStrangeExpressions(t *testing.T) {
	a := variable("A")
	long := call("F", slices.Repeat([]impl.Expr{a}, 100000)...)
	other := copyExpr(long)
	other.Kids[99999].Num = 1
	for _, c := range []struct {
		what string
		a, b impl.Expr
		want bool
	}{
		{"deep", nested(impl.ExNeg, 300000, a), nested(impl.ExNeg, 300000, a), true},
		{"deep with another end", nested(impl.ExNeg, 300000, a), nested(impl.ExNeg, 300000, variable("B")), false},
		{"deep and deeper", nested(impl.ExNeg, 300000, a), nested(impl.ExNeg, 300001, a), false},
		{"wide", long, copyExpr(long), true},
		{"wide with another end", long, other, false},
		{"shared", sharedKids(100), sharedKids(100), true},
		{"shared with another depth", sharedKids(100), sharedKids(101), false},
		{"endless", endlessKids(2), endlessKids(2), true},
		{"endless in the same way", endlessKids(2), endlessKids(3), true},
		{"endless and not", endlessKids(2), nested(impl.ExNeg, 100, a), false},
	} {
		checkEqual(t, c.what, impl.SameExpr(c.a, c.b), c.want)
		checkEqual(t, c.what+", exchanged", impl.SameExpr(c.b, c.a), c.want)
		checkEqual(t, c.what+": the first one and itself", impl.SameExpr(c.a, c.a), true)
	}
}

func TestPrintExpr(t *testing.T) {
	a, b, c, x := variable("A"), variable("B"), variable("C"), variable("X")
	for _, p := range []struct {
		e    impl.Expr
		want string
	}{
		{node(impl.ExMul, node(impl.ExAdd, a, number(1)), number(2)), "(A + 1) * 2"},
		{literal(""), "''"},
		{literal("it's"), "\"it's\""},
		{literal("a\"b"), "'a\"b'"},
		{literal(strings.Repeat("x", 200)), "'" + strings.Repeat("x", 200) + "'"},
		{number(0), "0"},
		{number(1000000000000), "1000000000000"},
		{a, "A"},
		{call("F"), "F()"},
		{call("F", a), "F(A)"},
		{call("F", node(impl.ExAlt, a, b), call("G"), node(impl.ExCat, a, b)), "F(A | B,G(),A B)"},
		{node(impl.ExIndex, a, b), "A<B>"},
		{node(impl.ExIndex, node(impl.ExIndex, a, number(1)), node(impl.ExAlt, b, c)), "A<1><B | C>"},
		{node(impl.ExIndex, literal("x"), call("F", a)), "'x'<F(A)>"},
		{node(impl.ExIndex, node(impl.ExNeg, a), b), "(-A)<B>"},
		{node(impl.ExIndex, leaf(impl.ExNameOf, "X"), b), "(.X)<B>"},
		{node(impl.ExIndex, node(impl.ExCat, a, b), c), "(A B)<C>"},
		{node(impl.ExAlt, node(impl.ExAlt, a, b), c), "A | B | C"},
		{node(impl.ExAlt, a, node(impl.ExAlt, b, c)), "A | (B | C)"},
		{node(impl.ExCat, node(impl.ExCat, a, b), c), "A B C"},
		{node(impl.ExCat, a, node(impl.ExCat, b, c)), "A (B C)"},
		{node(impl.ExSub, node(impl.ExSub, a, b), c), "A - B - C"},
		{node(impl.ExSub, a, node(impl.ExSub, b, c)), "A - (B - C)"},
		{node(impl.ExSub, a, node(impl.ExAdd, b, c)), "A - (B + C)"},
		{node(impl.ExDiv, a, node(impl.ExMul, b, c)), "A / (B * C)"},
		{node(impl.ExAdd, a, node(impl.ExMul, b, c)), "A + B * C"},
		{node(impl.ExMul, a, node(impl.ExAdd, b, c)), "A * (B + C)"},
		{node(impl.ExAdd, node(impl.ExCat, a, b), c), "(A B) + C"},
		{node(impl.ExCat, node(impl.ExAdd, a, b), c), "A + B C"},
		{node(impl.ExCat, a, node(impl.ExAdd, b, c)), "A B + C"},
		{node(impl.ExCat, a, node(impl.ExAlt, b, c)), "A (B | C)"},
		{node(impl.ExAlt, a, node(impl.ExCat, b, c)), "A | B C"},
		{node(impl.ExCond, a, x), "A . X"},
		{node(impl.ExNow, node(impl.ExCond, a, x), b), "A . X $ B"},
		{node(impl.ExCond, node(impl.ExMul, a, b), x), "(A * B) . X"},
		{node(impl.ExMul, a, node(impl.ExNow, b, x)), "A * B $ X"},
		{node(impl.ExCond, node(impl.ExNeg, a), x), "-A . X"},
		{node(impl.ExNeg, node(impl.ExCond, a, x)), "-(A . X)"},
		{node(impl.ExNeg, node(impl.ExNeg, a)), "--A"},
		{node(impl.ExNeg, node(impl.ExIndirect, leaf(impl.ExNameOf, "X"))), "-$.X"},
		{node(impl.ExNeg, node(impl.ExIndex, a, b)), "-A<B>"},
		{node(impl.ExSub, a, node(impl.ExNeg, b)), "A - -B"},
		{node(impl.ExCat, a, node(impl.ExNeg, b)), "A -B"},
		{node(impl.ExCat, a, leaf(impl.ExDefer, "X")), "A *X"},
		{node(impl.ExCat, node(impl.ExCat, leaf(impl.ExCursor, "X"), a), leaf(impl.ExNameOf, "Y")), "@X A .Y"},
		{node(impl.ExMul, leaf(impl.ExDefer, "X"), leaf(impl.ExDefer, "Y")), "*X * *Y"},
		{impl.Expr{}, ""},
		{node(impl.ExCond, a, number(1)), ""},
		{node(impl.ExAdd, a), ""},
	} {
		checkEqual(t, fmt.Sprintf("%+v", p.e), impl.PrintExpr(p.e), p.want)
		if p.want != "" {
			e, ok := impl.ExprOf(p.want)
			checkEqual(t, p.want, ok, true)
			checkExpr(t, p.want, e, p.e)
		}
	}
}

// exprSyntax has the level of each kind of expressions, and their texts, in
// which # is an operand, preceded by the least level that it must have.
var exprSyntax = map[int64]struct {
	level int
	text  string
}{
	impl.ExAlt:      {1, "1# | 2#"},
	impl.ExCat:      {2, "2# 3#"},
	impl.ExAdd:      {3, "3# + 4#"},
	impl.ExSub:      {3, "3# - 4#"},
	impl.ExMul:      {4, "4# * 5#"},
	impl.ExDiv:      {4, "4# / 5#"},
	impl.ExCond:     {5, "5# . 7#"},
	impl.ExNow:      {5, "5# $ 7#"},
	impl.ExNeg:      {6, "-6#"},
	impl.ExIndirect: {6, "$6#"},
	impl.ExNameOf:   {6, ".T"},
	impl.ExDefer:    {6, "*T"},
	impl.ExCursor:   {6, "@T"},
	impl.ExString:   {7, "Q"},
	impl.ExInteger:  {7, "N"},
	impl.ExName:     {7, "T"},
	impl.ExCall:     {7, "T(1#)"},
	impl.ExIndex:    {7, "7#<1#>"},
}

var syntaxPart = regexp.MustCompile(`[1-7]#|T|N|Q`)

// modelPrint returns the text of a valid expression as the table of chapter 3
// has it; with all parentheses, every operand is in parentheses.
func modelPrint(e impl.Expr, all bool) string {
	syntax := exprSyntax[e.Kind].text
	if e.Kind == impl.ExCall {
		syntax = "T(" + strings.TrimSuffix(strings.Repeat("1#,", len(e.Kids)), ",") + ")"
	}
	kids := e.Kids
	return syntaxPart.ReplaceAllStringFunc(syntax, func(part string) string {
		switch part {
		case "T":
			return e.Text
		case "N":
			return strconv.FormatInt(e.Num, 10)
		case "Q":
			return impl.QuoteString(e.Text)
		}
		kid := kids[0]
		kids = kids[1:]
		isName := len(kids) == 0 && (e.Kind == impl.ExCond || e.Kind == impl.ExNow)
		if exprSyntax[kid.Kind].level < int(part[0]-'0') || all && !isName {
			return "(" + modelPrint(kid, all) + ")"
		}
		return modelPrint(kid, all)
	})
}

// eachExpr calls visit with every expression of the given number of nodes that the leaves and kinds can form.
func eachExpr(nodes int, leaves []impl.Expr, unary, binary []int64, visit func(e impl.Expr)) {
	if nodes == 1 {
		for _, e := range leaves {
			visit(e)
		}
		return
	}
	eachExpr(nodes-1, leaves, unary, binary, func(kid impl.Expr) {
		for _, kind := range unary {
			visit(withKids(kind, kid))
		}
	})
	for left := 1; left < nodes-1; left++ {
		eachExpr(left, leaves, unary, binary, func(a impl.Expr) {
			eachExpr(nodes-1-left, leaves, unary, binary, func(b impl.Expr) {
				for _, kind := range binary {
					if e := withKids(kind, a, b); impl.ValidExpr(e) {
						visit(e)
					}
				}
			})
		})
	}
}

func withKids(kind int64, kids ...impl.Expr) impl.Expr {
	if kind == impl.ExCall {
		return call("F", kids...)
	}
	return node(kind, kids...)
}

// allKinds calls visit with all small expressions of all kinds, and with larger ones of one kind or two per level.
func allKinds(visit func(e impl.Expr)) {
	leaves := []impl.Expr{literal("x"), number(1), variable("A"), call("F"), leaf(impl.ExNameOf, "X"), leaf(impl.ExDefer, "X"), leaf(impl.ExCursor, "X")}
	unary := []int64{impl.ExCall, impl.ExNeg, impl.ExIndirect}
	binary := []int64{impl.ExCall, impl.ExIndex, impl.ExAlt, impl.ExCat, impl.ExAdd, impl.ExSub, impl.ExMul, impl.ExDiv, impl.ExCond, impl.ExNow}
	for nodes := range 4 {
		eachExpr(nodes+1, leaves, unary, binary, visit)
	}
	leaves = []impl.Expr{variable("A"), leaf(impl.ExNameOf, "X")}
	unary = []int64{impl.ExNeg}
	binary = []int64{impl.ExIndex, impl.ExAlt, impl.ExCat, impl.ExSub, impl.ExDiv, impl.ExCond}
	eachExpr(5, leaves, unary, binary, visit)
	eachExpr(6, leaves, unary, binary, visit)
	eachExpr(7, leaves, unary, binary, visit)
}

// TestExpressionsAreRecovered is the first part of promise 4.
func TestExpressionsAreRecovered(t *testing.T) {
	recovered := 0
	allKinds(func(want impl.Expr) {
		text := impl.PrintExpr(want)
		checkEqual(t, "text", text, modelPrint(want, false))
		for _, s := range []string{text, modelPrint(want, true)} {
			e, ok := impl.ExprOf(s)
			checkEqual(t, s, ok, true)
			checkExpr(t, s, e, want)
		}
		recovered++
	})
	if recovered < 10000 {
		t.Errorf("only %d expressions were recovered", recovered)
	}
}

// TestLargeExpressionsAreRecovered has expressions of up to MaxNodes nodes, and those whose text is beyond a limit of tokens.
func TestLargeExpressionsAreRecovered(t *testing.T) {
	a := variable("A")
	long := literal(strings.Repeat("x", 200))
	right := a
	for range 29 {
		right = node(impl.ExSub, a, right)
	}
	index := leaf(impl.ExNameOf, "X")
	for range 24 {
		index = node(impl.ExIndex, leaf(impl.ExNameOf, "X"), index)
	}
	six := call("F", a, a, a, a, a, a)
	for _, c := range []struct {
		what string
		e    impl.Expr
		want bool
	}{
		{"a series", node(impl.ExNeg, series(impl.ExCat, a, 30)), true},
		{"a chain", nested(impl.ExIndirect, 59, a), true},
		{"nested on the right", right, true},
		{"a call with MaxArgs arguments", call("F", six, six, six, six, six, six), true},
		{"19 long strings", series(impl.ExCat, long, 19), true},
		{"20 long strings", series(impl.ExCat, long, 20), false},
		{"too many tokens", index, false},
	} {
		checkEqual(t, c.what, impl.ValidExpr(c.e), true)
		text := impl.PrintExpr(c.e)
		checkEqual(t, c.what, text, modelPrint(c.e, false))
		e, ok := impl.ExprOf(text)
		checkEqual(t, c.what+": recovered", ok, c.want)
		if ok {
			checkExpr(t, c.what, e, c.e)
		}
	}
}

// TestParenthesesAreRequired removes each pair of parentheses of an operand from a printed text.
func TestParenthesesAreRequired(t *testing.T) {
	removed := 0
	allKinds(func(want impl.Expr) {
		tokens, _, _ := impl.ScanTokens(impl.PrintExpr(want))
		var open []int
		for i, token := range tokens {
			if token.Kind == impl.TkOpen {
				open = append(open, i)
			}
			if token.Kind != impl.TkClose {
				continue
			}
			start := open[len(open)-1]
			open = open[:len(open)-1]
			if start > 0 && tokens[start-1].Kind == impl.TkName && !tokens[start-1].After {
				continue
			}
			text := impl.PrintTokens(slices.Concat(tokens[:start], unbounded(tokens[start+1:i], tokens[start], token), tokens[i+1:]))
			if e, ok := impl.ExprOf(text); ok && impl.SameExpr(e, want) {
				t.Errorf("%s is %s, too", text, impl.PrintTokens(tokens))
			}
			removed++
		}
	})
	if removed < 10000 {
		t.Errorf("only %d pairs of parentheses were removed", removed)
	}
}

// unbounded returns the tokens between two parentheses with the blanks around these.
func unbounded(inner []impl.Token, start, end impl.Token) []impl.Token {
	inner = slices.Clone(inner)
	inner[0].Before = start.Before
	inner[len(inner)-1].After = end.After
	return inner
}

// scanned returns the tokens of a text that has some.
func scanned(t *testing.T, s string) []impl.Token {
	t.Helper()
	tokens, _, code := impl.ScanTokens(s)
	if code != impl.OK {
		t.Fatalf("ScanTokens(%q): %s", s, impl.CodeName(code))
	}
	return tokens
}

func TestExprOf(t *testing.T) {
	a, b, c := variable("A"), variable("B"), variable("C")
	for _, p := range []struct {
		s    string
		want impl.Expr
	}{
		{"A (B)", node(impl.ExCat, a, b)},
		{"A(B)", call("A", b)},
		{"A -B", node(impl.ExCat, a, node(impl.ExNeg, b))},
		{"A - B", node(impl.ExSub, a, b)},
		{"A *B", node(impl.ExCat, a, leaf(impl.ExDefer, "B"))},
		{"A * B", node(impl.ExMul, a, b)},
		{"A .B", node(impl.ExCat, a, leaf(impl.ExNameOf, "B"))},
		{"A . B", node(impl.ExCond, a, b)},
		{"A $B", node(impl.ExCat, a, node(impl.ExIndirect, b))},
		{"A $ B", node(impl.ExNow, a, b)},
		{"A @B", node(impl.ExCat, a, leaf(impl.ExCursor, "B"))},
		{"A  -  B", node(impl.ExSub, a, b)},
		{"  A  ", a},
		{"A 'x' 1", node(impl.ExCat, node(impl.ExCat, a, literal("x")), number(1))},
		{"A B | C", node(impl.ExAlt, node(impl.ExCat, a, b), c)},
		{"A | B C", node(impl.ExAlt, a, node(impl.ExCat, b, c))},
		{"A + B C", node(impl.ExCat, node(impl.ExAdd, a, b), c)},
		{"A B + C", node(impl.ExCat, a, node(impl.ExAdd, b, c))},
		{"A / B - C", node(impl.ExSub, node(impl.ExDiv, a, b), c)},
		{"A . B * C", node(impl.ExMul, node(impl.ExCond, a, b), c)},
		{"A . B $ C . A", node(impl.ExCond, node(impl.ExNow, node(impl.ExCond, a, b), c), a)},
		{"A . B (C)", node(impl.ExCat, node(impl.ExCond, a, b), c)},
		{"-A . B", node(impl.ExCond, node(impl.ExNeg, a), b)},
		{"A -B - C", node(impl.ExCat, a, node(impl.ExSub, node(impl.ExNeg, b), c))},
		{"A - -B", node(impl.ExSub, a, node(impl.ExNeg, b))},
		{"A * *B", node(impl.ExMul, a, leaf(impl.ExDefer, "B"))},
		{"-$A<1>", node(impl.ExNeg, node(impl.ExIndirect, node(impl.ExIndex, a, number(1))))},
		{"$.B", node(impl.ExIndirect, leaf(impl.ExNameOf, "B"))},
		{"- A", impl.Expr{}},
		{"-(A)", node(impl.ExNeg, a)},
		{"-( A )", node(impl.ExNeg, a)},
		{"((A))", a},
		{"(A)<B>", node(impl.ExIndex, a, b)},
		{"(A B)<C><1>", node(impl.ExIndex, node(impl.ExIndex, node(impl.ExCat, a, b), c), number(1))},
		{"A< B | C >", node(impl.ExIndex, a, node(impl.ExAlt, b, c))},
		{"1<'x'>", node(impl.ExIndex, number(1), literal("x"))},
		{"'x'<-1>", node(impl.ExIndex, literal("x"), node(impl.ExNeg, number(1)))},
		{"F()<1>", node(impl.ExIndex, call("F"), number(1))},
		{"F()", call("F")},
		{"F( )", call("F")},
		{"F( A , B )", call("F", a, b)},
		{"F(A B,-C,G())", call("F", node(impl.ExCat, a, b), node(impl.ExNeg, c), call("G"))},
		{"F(A) (B)", node(impl.ExCat, call("F", a), b)},
		{"007", number(7)},
		{"'-'<A>", node(impl.ExIndex, literal("-"), a)},
		{"F('.','*') '$'", node(impl.ExCat, call("F", literal("."), literal("*")), literal("$"))},
		{"A '|' B", node(impl.ExCat, node(impl.ExCat, a, literal("|")), b)},
		{"A)", impl.Expr{}}, {"A B)", impl.Expr{}}, {"A,B", impl.Expr{}}, {"A :", impl.Expr{}},
		{"A-B", impl.Expr{}}, {"A- B", impl.Expr{}}, {"A+B", impl.Expr{}}, {"A +B", impl.Expr{}}, {"A |B", impl.Expr{}},
		{"A = B", impl.Expr{}}, {"A @ B", impl.Expr{}}, {"=A", impl.Expr{}}, {"+A", impl.Expr{}}, {"/A", impl.Expr{}}, {"|A", impl.Expr{}},
		{"A <B>", impl.Expr{}}, {"A<B", impl.Expr{}}, {"A<>", impl.Expr{}}, {"<A>", impl.Expr{}}, {".X<1>", impl.Expr{}},
		{"'x''y'", impl.Expr{}}, {"'x'(A)", impl.Expr{}}, {"(A)(B)", impl.Expr{}}, {"F(A)(B)", impl.Expr{}}, {"A'x'", impl.Expr{}},
		{"A . 1", impl.Expr{}}, {"A . (B)", impl.Expr{}}, {"A . -B", impl.Expr{}}, {"A . B(C)", impl.Expr{}}, {"A $ B<1>", impl.Expr{}},
		{".1", impl.Expr{}}, {"*(A)", impl.Expr{}}, {"@'x'", impl.Expr{}}, {"--", impl.Expr{}},
		{"F(,A)", impl.Expr{}}, {"F(A,)", impl.Expr{}}, {"F(A", impl.Expr{}}, {"F(", impl.Expr{}}, {"()", impl.Expr{}}, {"(", impl.Expr{}}, {")", impl.Expr{}},
		{"", impl.Expr{}}, {"   ", impl.Expr{}}, {"A #", impl.Expr{}}, {"A\n", impl.Expr{}}, {"'x", impl.Expr{}}, {"\xff", impl.Expr{}},
		{strings.Repeat("A ", 30), series(impl.ExCat, a, 30)},
		{strings.Repeat("A ", 31), impl.Expr{}},
		{"F(A,A,A,A,A,A)", call("F", a, a, a, a, a, a)},
		{"F(A,A,A,A,A,A,A)", impl.Expr{}},
		{strings.Repeat(" ", 3999) + "A", a},
		{strings.Repeat(" ", 4000) + "A", impl.Expr{}},
		{strings.Repeat("(", 59) + "-A" + strings.Repeat(")", 59), node(impl.ExNeg, a)},
		{"-" + strings.Repeat("(", 59) + "-A" + strings.Repeat(")", 59), impl.Expr{}},
		{strings.Repeat("-", 59) + "A", nested(impl.ExNeg, 59, a)},
		{strings.Repeat("-", 60) + "A", impl.Expr{}},
		{strings.Repeat("(", 100000), impl.Expr{}},
	} {
		e, ok := impl.ExprOf(p.s)
		checkEqual(t, p.s, ok, p.want.Kind != 0)
		checkExpr(t, p.s, e, p.want)
	}
}

func TestParse(t *testing.T) {
	a, b, c := variable("A"), variable("B"), variable("C")
	sevenArgs := "F(A,A,A,A,A,A,A)"
	manyNodes := strings.TrimSpace(strings.Repeat("A ", 31))
	type result struct {
		e        impl.Expr
		at, code int64
	}
	fails := func(at, code int64) result { return result{at: at, code: code} }
	for _, p := range []struct {
		s             string
		at            int64
		expr, element result
	}{
		{"A B | C", 0, result{node(impl.ExAlt, node(impl.ExCat, a, b), c), 4, impl.OK}, result{a, 1, impl.OK}},
		{"A B | C", 1, result{node(impl.ExAlt, b, c), 4, impl.OK}, result{b, 2, impl.OK}},
		{"A B | C", 2, fails(2, impl.ErrSyntax), fails(2, impl.ErrSyntax)},
		{"A B | C", 3, result{c, 4, impl.OK}, result{c, 4, impl.OK}},
		{"A B | C", 4, fails(4, impl.ErrSyntax), fails(4, impl.ErrSyntax)},
		{"A + )", 0, fails(2, impl.ErrSyntax), result{a, 1, impl.OK}},
		{"", 0, fails(0, impl.ErrSyntax), fails(0, impl.ErrSyntax)},
		{"A +", 0, fails(2, impl.ErrSyntax), result{a, 1, impl.OK}},
		{"A -", 0, fails(2, impl.ErrSyntax), result{a, 1, impl.OK}},
		{"A .", 0, fails(2, impl.ErrSyntax), result{a, 1, impl.OK}},
		{"A | B * ", 0, fails(4, impl.ErrSyntax), result{a, 1, impl.OK}},
		{"A = B", 0, result{a, 1, impl.OK}, result{a, 1, impl.OK}},
		{"A @ B", 0, result{a, 1, impl.OK}, result{a, 1, impl.OK}},
		{"A B = C", 0, result{node(impl.ExCat, a, b), 2, impl.OK}, result{a, 1, impl.OK}},
		{"A +B", 0, result{a, 1, impl.OK}, result{a, 1, impl.OK}},
		{"A-B", 0, result{a, 1, impl.OK}, result{a, 1, impl.OK}},
		{"A-B", 1, result{node(impl.ExNeg, b), 3, impl.OK}, result{node(impl.ExNeg, b), 3, impl.OK}},
		{"A <B>", 0, result{a, 1, impl.OK}, result{a, 1, impl.OK}},
		{"A<B>C", 0, result{node(impl.ExIndex, a, b), 4, impl.OK}, result{node(impl.ExIndex, a, b), 4, impl.OK}},
		{"A B,C", 0, result{node(impl.ExCat, a, b), 2, impl.OK}, result{a, 1, impl.OK}},
		{"A B)", 0, result{node(impl.ExCat, a, b), 2, impl.OK}, result{a, 1, impl.OK}},
		{"A :(B)", 0, result{a, 1, impl.OK}, result{a, 1, impl.OK}},
		{"A :(B)", 1, fails(1, impl.ErrSyntax), fails(1, impl.ErrSyntax)},
		{"A . B(C)", 0, result{node(impl.ExCond, a, b), 3, impl.OK}, result{a, 1, impl.OK}},
		{"A $ B<C>", 0, result{node(impl.ExNow, a, b), 3, impl.OK}, result{a, 1, impl.OK}},
		{"A . (B)", 0, fails(2, impl.ErrSyntax), result{a, 1, impl.OK}},
		{".B(C)", 0, result{leaf(impl.ExNameOf, "B"), 2, impl.OK}, result{leaf(impl.ExNameOf, "B"), 2, impl.OK}},
		{".(B)", 0, fails(1, impl.ErrSyntax), fails(1, impl.ErrSyntax)},
		{"A *'x'", 0, fails(2, impl.ErrSyntax), result{a, 1, impl.OK}},
		{"A @ ", 0, result{a, 1, impl.OK}, result{a, 1, impl.OK}},
		{"--", 0, fails(1, impl.ErrSyntax), fails(1, impl.ErrSyntax)},
		{"- A", 0, fails(0, impl.ErrSyntax), fails(0, impl.ErrSyntax)},
		{"F(A B,C) (A)", 0, result{node(impl.ExCat, call("F", node(impl.ExCat, a, b), c), a), 10, impl.OK}, result{call("F", node(impl.ExCat, a, b), c), 7, impl.OK}},
		{"F (A", 0, fails(3, impl.ErrSyntax), result{variable("F"), 1, impl.OK}},
		{"F(A", 0, fails(3, impl.ErrSyntax), fails(3, impl.ErrSyntax)},
		{"F(", 0, fails(2, impl.ErrSyntax), fails(2, impl.ErrSyntax)},
		{"F(,A)", 0, fails(2, impl.ErrSyntax), fails(2, impl.ErrSyntax)},
		{"F(A,)", 0, fails(4, impl.ErrSyntax), fails(4, impl.ErrSyntax)},
		{"F(A B)", 2, result{node(impl.ExCat, a, b), 4, impl.OK}, result{a, 3, impl.OK}},
		{"F(A>", 0, fails(3, impl.ErrSyntax), fails(3, impl.ErrSyntax)},
		{"A<B)", 0, fails(3, impl.ErrSyntax), fails(3, impl.ErrSyntax)},
		{"A<>", 0, fails(2, impl.ErrSyntax), fails(2, impl.ErrSyntax)},
		{"A<B", 0, fails(3, impl.ErrSyntax), fails(3, impl.ErrSyntax)},
		{"(A,B)", 0, fails(2, impl.ErrSyntax), fails(2, impl.ErrSyntax)},
		{"()", 0, fails(1, impl.ErrSyntax), fails(1, impl.ErrSyntax)},
		{"(A - B) C", 0, result{node(impl.ExCat, node(impl.ExSub, a, b), c), 6, impl.OK}, result{node(impl.ExSub, a, b), 5, impl.OK}},
		{"-A B", 0, result{node(impl.ExCat, node(impl.ExNeg, a), b), 3, impl.OK}, result{node(impl.ExNeg, a), 2, impl.OK}},
		{sevenArgs, 0, fails(0, impl.ErrFull), fails(0, impl.ErrFull)},
		{"A " + sevenArgs, 0, fails(0, impl.ErrFull), result{a, 1, impl.OK}},
		{"A " + sevenArgs, 1, fails(1, impl.ErrFull), fails(1, impl.ErrFull)},
		{"A " + sevenArgs + " +", 1, fails(18, impl.ErrSyntax), fails(1, impl.ErrFull)},
		{sevenArgs[:len(sevenArgs)-1], 0, fails(15, impl.ErrSyntax), fails(15, impl.ErrSyntax)},
		{manyNodes, 0, fails(0, impl.ErrFull), result{a, 1, impl.OK}},
		{manyNodes, 1, result{series(impl.ExCat, a, 30), 31, impl.OK}, result{a, 2, impl.OK}},
		{manyNodes + " | )", 0, fails(32, impl.ErrSyntax), result{a, 1, impl.OK}},
		{"B (" + manyNodes + ")", 1, fails(1, impl.ErrFull), fails(1, impl.ErrFull)},
		{"B (" + manyNodes, 1, fails(33, impl.ErrSyntax), fails(33, impl.ErrSyntax)},
		{"-(" + manyNodes[2:] + ")", 0, result{node(impl.ExNeg, series(impl.ExCat, a, 30)), 33, impl.OK}, result{node(impl.ExNeg, series(impl.ExCat, a, 30)), 33, impl.OK}},
		{"--(" + manyNodes[2:] + ")", 0, fails(0, impl.ErrFull), fails(0, impl.ErrFull)},
	} {
		tokens := scanned(t, p.s)
		e, at, code := impl.ParseExpr(tokens, p.at)
		checkParsed(t, p.s, []int64{at, code}, e, p.expr.e, p.expr.at, p.expr.code)
		e, at, code = impl.ParseElement(tokens, p.at)
		checkParsed(t, p.s+", element", []int64{at, code}, e, p.element.e, p.element.at, p.element.code)
	}
}

func checkParsed(t *testing.T, what string, got []int64, e, want impl.Expr, at, code int64) {
	t.Helper()
	checkExpr(t, what, e, want)
	checkList(t, what+": index and code", got, []int64{at, code})
}

func TestParseInvalidArguments(t *testing.T) {
	valid := scanned(t, "A + B")
	bad := impl.Token{Kind: impl.TkName, Text: "1"}
	full := scanned(t, "-"+strings.Repeat("(", 59)+"A"+strings.Repeat(")", 59)+" ")
	for _, c := range []struct {
		what     string
		tokens   []impl.Token
		at       int64
		end, err int64
	}{
		{"an index below 0", valid, -1, 0, impl.ErrInvalid},
		{"the least index", valid, math.MinInt64, 0, impl.ErrInvalid},
		{"an index above the number of tokens", valid, 4, 0, impl.ErrInvalid},
		{"the greatest index", valid, math.MaxInt64, 0, impl.ErrInvalid},
		{"an index that is 0 in 32 bits", valid, 1 << 32, 0, impl.ErrInvalid},
		{"no tokens and an index", nil, 1, 0, impl.ErrInvalid},
		{"no tokens", nil, 0, 0, impl.ErrSyntax},
		{"a bad token", []impl.Token{bad}, 0, 0, impl.ErrInvalid},
		{"a token of no kind", []impl.Token{{}}, 0, 0, impl.ErrInvalid},
		{"a bad token before the index", []impl.Token{bad, name("A")}, 1, 0, impl.ErrInvalid},
		{"a bad token behind the expression", []impl.Token{name("A"), mark(impl.TkColon), bad}, 0, 0, impl.ErrInvalid},
		{"a bad token behind an error", []impl.Token{mark(impl.TkColon), bad}, 0, 0, impl.ErrInvalid},
		{"a bad token at the end", append(slices.Clone(valid), bad), 4, 0, impl.ErrInvalid},
		{"MaxTokens tokens", full, 0, 120, impl.OK},
		{"one token more", append(slices.Clone(full), name("A")), 0, 0, impl.ErrInvalid},
		{"one token more and an index", append(slices.Clone(full), name("A")), 120, 0, impl.ErrInvalid},
		{"many tokens", slices.Repeat([]impl.Token{name("A")}, 1000000), 0, 0, impl.ErrInvalid},
		{"many bad tokens", make([]impl.Token, 1000000), 0, 0, impl.ErrInvalid},
		{"only parentheses", slices.Repeat([]impl.Token{mark(impl.TkOpen)}, 120), 0, 120, impl.ErrSyntax},
		{"only parentheses that are closed", slices.Repeat([]impl.Token{mark(impl.TkClose)}, 120), 7, 7, impl.ErrSyntax},
		{"only unary operators", slices.Repeat([]impl.Token{operator("-")}, 120), 0, 120, impl.ErrSyntax},
		{"too many operands", slices.Repeat([]impl.Token{before(name("A"))}, 120), 1, 1, impl.ErrFull},
	} {
		e, end, code := impl.ParseExpr(c.tokens, c.at)
		checkEqual(t, c.what+": index", end, c.end)
		checkEqual(t, c.what+": code", code, c.err)
		checkEqual(t, c.what+": expression", impl.ValidExpr(e), code == impl.OK)
		if code != impl.OK {
			checkExpr(t, c.what, e, impl.Expr{})
		}
		if c.err == impl.ErrInvalid {
			e, end, code = impl.ParseElement(c.tokens, c.at)
			checkParsed(t, c.what+", element", []int64{end, code}, e, impl.Expr{}, 0, impl.ErrInvalid)
		}
	}
}

// modelParser reads an expression without knowing the levels: it collects the
// operands and operators up to the end of the expression. It is only then that
// they are combined, at the last operator of the lowest level first.
type modelParser struct {
	tokens []impl.Token
	at     int
	failed bool
}

var modelLevels = map[string]int{"|": 1, "": 2, "+": 3, "-": 3, "*": 4, "/": 4, ".": 5, "$": 5}

var modelBinary = map[string]int64{"|": impl.ExAlt, "": impl.ExCat, "+": impl.ExAdd, "-": impl.ExSub, "*": impl.ExMul, "/": impl.ExDiv, ".": impl.ExCond, "$": impl.ExNow}

var modelUnary = map[string]int64{"-": impl.ExNeg, "$": impl.ExIndirect, ".": impl.ExNameOf, "*": impl.ExDefer, "@": impl.ExCursor}

// is reports whether a token is the next one: a kind, and for operators and names a text.
func (m *modelParser) is(kind int64, text string) bool {
	return m.at < len(m.tokens) && m.tokens[m.at].Kind == kind && (text == "" || m.tokens[m.at].Text == text)
}

// need reads a token of a kind, or fails.
func (m *modelParser) need(kind int64) string {
	if m.failed || !m.is(kind, "") {
		m.failed = true
		return ""
	}
	m.at++
	return m.tokens[m.at-1].Text
}

func (m *modelParser) isUnary() bool {
	return m.is(impl.TkOp, "") && !m.tokens[m.at].After && modelUnary[m.tokens[m.at].Text] != 0
}

func (m *modelParser) expression() impl.Expr {
	operands := []impl.Expr{m.operand()}
	var operators []string
	for !m.failed && m.at < len(m.tokens) {
		token := m.tokens[m.at]
		symbol := ""
		switch {
		case token.Kind == impl.TkOp && token.Before && token.After && modelLevels[token.Text] > 0:
			symbol = token.Text
			m.at++
		case token.Before && (m.is(impl.TkName, "") || m.is(impl.TkInteger, "") || m.is(impl.TkString, "") || m.is(impl.TkOpen, "") || m.isUnary()):
		default:
			return combined(operands, operators)
		}
		operators = append(operators, symbol)
		if symbol == "." || symbol == "$" {
			operands = append(operands, variable(m.need(impl.TkName)))
		} else {
			operands = append(operands, m.operand())
		}
	}
	return combined(operands, operators)
}

func combined(operands []impl.Expr, operators []string) impl.Expr {
	lowest := -1
	for i, symbol := range operators {
		if lowest < 0 || modelLevels[symbol] <= modelLevels[operators[lowest]] {
			lowest = i
		}
	}
	if lowest < 0 {
		return operands[0]
	}
	left := combined(operands[:lowest+1], operators[:lowest])
	return node(modelBinary[operators[lowest]], left, combined(operands[lowest+1:], operators[lowest+1:]))
}

func (m *modelParser) operand() impl.Expr {
	var wraps []int64
	for m.isUnary() {
		kind := modelUnary[m.tokens[m.at].Text]
		m.at++
		if kind != impl.ExNeg && kind != impl.ExIndirect {
			return wrapped(wraps, leaf(kind, m.need(impl.TkName)))
		}
		wraps = append(wraps, kind)
	}
	e := m.primary()
	for !m.failed && m.is(impl.TkLeft, "") && !m.tokens[m.at].Before {
		m.at++
		e = node(impl.ExIndex, e, m.expression())
		m.need(impl.TkRight)
	}
	return wrapped(wraps, e)
}

func wrapped(kinds []int64, e impl.Expr) impl.Expr {
	for _, kind := range slices.Backward(kinds) {
		e = node(kind, e)
	}
	return e
}

func (m *modelParser) primary() impl.Expr {
	switch {
	case m.failed:
	case m.is(impl.TkInteger, ""):
		m.at++
		return number(m.tokens[m.at-1].Num)
	case m.is(impl.TkString, ""):
		return literal(m.need(impl.TkString))
	case m.is(impl.TkOpen, ""):
		m.at++
		e := m.expression()
		m.need(impl.TkClose)
		return e
	}
	text := m.need(impl.TkName)
	if m.failed || m.tokens[m.at-1].After || !m.is(impl.TkOpen, "") {
		return variable(text)
	}
	m.at++
	var args []impl.Expr
	for !m.failed && (args == nil && !m.is(impl.TkClose, "") || m.is(impl.TkComma, "")) {
		if args != nil {
			m.at++
		}
		args = append(args, m.expression())
	}
	m.need(impl.TkClose)
	return call(text, args...)
}

// modelParse returns what ParseExpr or ParseElement returns for valid tokens and indices.
func modelParse(tokens []impl.Token, at int, element bool) (impl.Expr, int64, int64) {
	m := modelParser{tokens: tokens, at: at}
	var e impl.Expr
	if element {
		e = m.operand()
	} else {
		e = m.expression()
	}
	switch {
	case m.failed:
		return impl.Expr{}, int64(m.at), impl.ErrSyntax
	case modelNodes(e) == 0:
		return impl.Expr{}, int64(at), impl.ErrFull
	}
	return e, int64(m.at), impl.OK
}

// checkParse compares both functions with the model, at each index.
func checkParse(t *testing.T, tokens []impl.Token) (parsed int) {
	t.Helper()
	for at := range len(tokens) + 1 {
		for _, element := range []bool{false, true} {
			parse := impl.ParseExpr
			if element {
				parse = impl.ParseElement
			}
			want, wantEnd, wantCode := modelParse(tokens, at, element)
			e, end, code := parse(tokens, int64(at))
			if end != wantEnd || code != wantCode || !impl.SameExpr(e, want) {
				t.Errorf("%+v at %d, element: %t: got %+v, %d, %d, want %+v, %d, %d", tokens, at, element, e, end, code, want, wantEnd, wantCode)
			}
			checkEqual(t, "valid", impl.ValidExpr(e), code == impl.OK)
			if code == impl.OK {
				parsed++
			}
		}
	}
	return parsed
}

// TestParseAgainstModel has all short lists of some tokens, with all combinations of blanks around those for which they matter.
func TestParseAgainstModel(t *testing.T) {
	var choice []impl.Token
	for _, token := range []impl.Token{name("A"), operator("-"), operator("."), mark(impl.TkOpen), mark(impl.TkLeft)} {
		choice = append(choice, token, before(token), after(token), apart(token))
	}
	choice = append(choice, integer(1), before(quoted("x")), mark(impl.TkClose), mark(impl.TkRight), mark(impl.TkComma), apart(operator("|")), apart(operator("=")), before(operator("+")))
	parsed := 0
	var extend func(tokens []impl.Token)
	extend = func(tokens []impl.Token) {
		parsed += checkParse(t, tokens)
		if len(tokens) == 3 {
			return
		}
		for _, token := range choice {
			extend(append(slices.Clone(tokens), token))
		}
	}
	extend(nil)
	if parsed < 10000 {
		t.Errorf("only %d expressions were parsed", parsed)
	}
}

// exprTexts are texts with many expressions, correct and incorrect ones.
func exprTexts() []string {
	pieces := []string{"A", "F(", "(", ")", "<", ">", ",", " + ", " - ", " -", " * ", " *", " / ", " | ", " . ", " .", " $ ", " $", " @", "@", "-", " ", " ", "1", "'x'", " B ", "A ", "(A)", " = ", ":"}
	list := randomTexts(7, 40000, 12, pieces)
	list = append(list, randomTexts(8, 500, 60, pieces)...)
	correct := []string{"A", "F(A)", "(A | B)", "T<1>", "-A", "*X", "'x'", " . X", " $ X", " + 1", " * 2", " | B", " C", " @X", " (A B)", " F(A,B C)"}
	return append(list, randomTexts(9, 6000, 30, correct)...)
}

func TestParseTextsAgainstModel(t *testing.T) {
	parsed := 0
	for _, s := range exprTexts() {
		tokens, _, code := impl.ScanTokens(s)
		if code != impl.OK {
			continue
		}
		parsed += checkParse(t, tokens)
		want, end, code := modelParse(tokens, 0, false)
		e, ok := impl.ExprOf(s)
		checkEqual(t, s, ok, code == impl.OK && end == int64(len(tokens)))
		if ok {
			checkExpr(t, s, e, want)
		}
	}
	if parsed < 50000 {
		t.Errorf("only %d expressions were parsed", parsed)
	}
}

// TestParsedExpressionsAreValid is the second part of promise 4, and the first part for what was parsed.
func TestParsedExpressionsAreValid(t *testing.T) {
	for _, s := range exprTexts() {
		e, ok := impl.ExprOf(s)
		checkEqual(t, s, impl.ValidExpr(e), ok)
		if !ok {
			continue
		}
		again, ok := impl.ExprOf(impl.PrintExpr(e))
		checkEqual(t, s, ok, true)
		checkExpr(t, s, again, e)
	}
}

func TestNamesInAndCallsIn(t *testing.T) {
	for _, c := range []struct {
		s            string
		names, calls []string
	}{
		{"F(A) . B", []string{"A", "B"}, []string{"F"}},
		{"A", []string{"A"}, nil},
		{"'A' 1", nil, nil},
		{"F()", nil, []string{"F"}},
		{".A *B @C $D -E", []string{"A", "B", "C", "D", "E"}, nil},
		{"E D C B A B C D E", []string{"A", "B", "C", "D", "E"}, nil},
		{"b B a A a_ a1 A1", []string{"A", "A1", "B", "a", "a1", "a_", "b"}, nil},
		{"F(G(F(A)),G()) F H(F)", []string{"A", "F"}, []string{"F", "G", "H"}},
		{"T<I> . X $ Y", []string{"I", "T", "X", "Y"}, nil},
		{"Z(Y(X(W(V(U())))))", nil, []string{"U", "V", "W", "X", "Y", "Z"}},
	} {
		e, ok := impl.ExprOf(c.s)
		checkEqual(t, c.s, ok, true)
		checkList(t, "names of "+c.s, impl.NamesIn(e), c.names)
		checkList(t, "calls of "+c.s, impl.CallsIn(e), c.calls)
	}
	a := variable("A")
	for _, e := range []impl.Expr{{}, {Kind: 99, Text: "A"}, call("F", a, variable("1")), call("F", a, a, a, a, a, a, a), node(impl.ExNeg, series(impl.ExCat, a, 31)), node(impl.ExCond, a, call("F"))} {
		checkList(t, "names of an invalid expression", impl.NamesIn(e), nil)
		checkList(t, "calls of an invalid expression", impl.CallsIn(e), nil)
	}
}

// TestNamesAgainstPrintedTokens finds the names in the text of each expression.
func TestNamesAgainstPrintedTokens(t *testing.T) {
	for _, s := range exprTexts() {
		e, ok := impl.ExprOf(s)
		if !ok {
			continue
		}
		var names, calls []string
		tokens := scanned(t, s)
		for i, token := range tokens {
			switch {
			case token.Kind != impl.TkName:
			case i+1 < len(tokens) && tokens[i+1].Kind == impl.TkOpen && !token.After:
				calls = append(calls, token.Text)
			default:
				names = append(names, token.Text)
			}
		}
		slices.Sort(names)
		slices.Sort(calls)
		checkList(t, "names of "+s, impl.NamesIn(e), slices.Compact(names))
		checkList(t, "calls of "+s, impl.CallsIn(e), slices.Compact(calls))
	}
}
