package tests

import (
	"fmt"
	"slices"
	"strings"
	"sync"
	"testing"

	"loop.example/g00873/impl"
)

// The tests of this file are promise 1: every function returns for all
// arguments, modifies no argument and returns equal results for equal arguments.

// textFunctions are all functions of chapters 1 to 6 and 10 with a text as their argument.
func textFunctions() map[string]func(s string) string {
	labels, _, _ := impl.ParseProgram("A B;a B;L B;END")
	return map[string]func(s string) string{
		"SplitLines":      func(s string) string { return fmt.Sprintf("%q", impl.SplitLines(s)) },
		"ValidSource":     func(s string) string { return fmt.Sprint(impl.ValidSource(s)) },
		"IsBlankLine":     func(s string) string { return fmt.Sprint(impl.IsBlankLine(s)) },
		"IsComment":       func(s string) string { return fmt.Sprint(impl.IsComment(s)) },
		"IsContinuation":  func(s string) string { return fmt.Sprint(impl.IsContinuation(s)) },
		"SplitStatements": func(s string) string { return fmt.Sprintf("%q", impl.SplitStatements(s)) },
		"LogicalLines":    func(s string) string { return fmt.Sprint(impl.LogicalLines(s)) },
		"IsName":          func(s string) string { return fmt.Sprint(impl.IsName(s)) },
		"IsOperator":      func(s string) string { return fmt.Sprint(impl.IsOperator(s)) },
		"CanQuote":        func(s string) string { return fmt.Sprint(impl.CanQuote(s)) },
		"QuoteString":     func(s string) string { return fmt.Sprintf("%q", impl.QuoteString(s)) },
		"ScanTokens":      func(s string) string { return fmt.Sprint(impl.ScanTokens(s)) },
		"ExprOf":          func(s string) string { return fmt.Sprint(impl.ExprOf(s)) },
		"IsLabel":         func(s string) string { return fmt.Sprint(impl.IsLabel(s)) },
		"ParseStatement":  func(s string) string { return fmt.Sprint(impl.ParseStatement(s)) },
		"ParseProgram":    func(s string) string { return fmt.Sprint(impl.ParseProgram(s)) },
		"LabelIndex":      func(s string) string { return fmt.Sprint(impl.LabelIndex(labels, s)) },
		"StringValue":     func(s string) string { return fmt.Sprint(impl.StringValue(s)) },
		"QuoteText":       func(s string) string { return fmt.Sprintf("%q", impl.QuoteText(s)) },
		"ReadValue":       func(s string) string { return fmt.Sprint(impl.ReadValue(s)) },
		"TrimText":        func(s string) string { return fmt.Sprintf("%q", impl.TrimText(s)) },
		"ReverseText":     func(s string) string { return fmt.Sprintf("%q", impl.ReverseText(s)) },
		"TranslateText":   func(s string) string { return fmt.Sprint(impl.TranslateText(s, s[len(s)/2:], s[:len(s)-len(s)/2])) },
		"PadText": func(s string) string {
			return fmt.Sprint(impl.PadText(s, 7, " ", true)) + fmt.Sprint(impl.PadText("A", int64(len(s)), s, false))
		},
	}
}

// strangeTexts are texts of any bytes, short ones and long ones.
func strangeTexts() []string {
	list := append(allBytes(), randomTexts(4, 1000, 200, allBytes())...)
	list = append(list, randomTexts(5, 1000, 100, []string{"'", "\"", ";", "\n", "+", "*", " ", "A", "1", "\x00", "\xff", "\u20ac"})...)
	for _, piece := range []string{"a", "1", " ", "\n", ";", "'", "\"", "+", "*", "_", "\x00", "\xff", "\u20ac", "a\n+", "';'", " A;", " A\n", "<>"} {
		for _, count := range []int{79, 80, 81, 119, 120, 121, 200, 201, 1200, 1201, 3999, 4000, 4001, 100000} {
			list = append(list, strings.Repeat(piece, count))
		}
	}
	return list
}

func TestTextFunctionsArePure(t *testing.T) {
	for what, call := range textFunctions() {
		for _, s := range strangeTexts() {
			first := call(s)
			if again := call(strings.Clone(s)); again != first {
				t.Fatalf("%s(%.40q): %.80s, then %.80s", what, s, first, again)
			}
		}
	}
}

func TestCodeNameIsPure(t *testing.T) {
	for code := int64(-300); code <= 300; code++ {
		first := impl.CodeName(code)
		checkEqual(t, "a second call", impl.CodeName(code), first)
		checkEqual(t, "a name for codes only", first != "", code >= impl.OK && code <= impl.ErrNotFound)
	}
}

// TestResultsDoNotDependOnOtherCalls runs the calls in several goroutines at the same time.
func TestResultsDoNotDependOnOtherCalls(t *testing.T) {
	texts := randomTexts(6, 200, 60, []string{"A", " ", "=", "'x'", "\n", "\n+", ";", "12", "#"})
	for what, call := range textFunctions() {
		var want []string
		for _, s := range texts {
			want = append(want, call(s))
		}
		var group sync.WaitGroup
		for range 4 {
			group.Go(func() {
				for i := range texts {
					at := len(texts) - 1 - i
					if got := call(texts[at]); got != want[at] {
						t.Errorf("%s(%q): %s, then %s", what, texts[at], want[at], got)
					}
				}
			})
		}
		group.Wait()
	}
}

// checkKeeps calls a function with a list that has unused capacity, and checks that neither was modified.
func checkKeeps[T comparable](t *testing.T, what string, elements []T, unused T, call func(list []T) string) {
	t.Helper()
	list, memory := backing(elements, unused)
	want := slices.Clone(memory)
	first := call(list)
	checkList(t, what+": the argument afterwards", memory, want)
	checkEqual(t, what+": a second call", call(slices.Clone(elements)), first)
}

func TestListFunctionsArePure(t *testing.T) {
	unused := impl.Line{Number: 77, Text: "unused"}
	for _, texts := range [][]string{nil, {""}, {"A"}, {" A", "B\n", "\xff"}, allBytes()} {
		var list []impl.Line
		for i, text := range texts {
			list = append(list, impl.Line{Number: int64(i) - 2, Text: text})
		}
		checkKeeps(t, "JoinLines", list, unused, impl.JoinLines)
	}
	token := impl.Token{Kind: 77, Text: "unused"}
	valid, _, _ := impl.ScanTokens("F(A,'x') - B<007> . C :(L)")
	for _, list := range [][]impl.Token{nil, {{}}, valid, valid[1:3], append(slices.Clone(valid), token), manyTokens(), slices.Repeat(valid, 1000)} {
		checkKeeps(t, "PrintTokens", list, token, impl.PrintTokens)
		for _, at := range []int64{-1, 0, 1, 2, 5, 16, 18} {
			checkKeeps(t, "ParseExpr", list, token, func(list []impl.Token) string { return fmt.Sprint(impl.ParseExpr(list, at)) })
			checkKeeps(t, "ParseElement", list, token, func(list []impl.Token) string { return fmt.Sprint(impl.ParseElement(list, at)) })
		}
	}
}

// checkNew checks that changing a result, and appending to it, changes no other result.
func checkNew[T comparable](t *testing.T, what string, call func() []T, changed T) {
	t.Helper()
	first := call()
	want := slices.Clone(first)
	second := call()
	for i := range first {
		first[i] = changed
	}
	memory := first[:cap(first)]
	for i := range memory {
		memory[i] = changed
	}
	checkList(t, what+": an earlier result", second, want)
	checkList(t, what+": a later result", call(), want)
}

func TestResultsAreNew(t *testing.T) {
	for _, s := range []string{"", "A", "A;B;'C'", "A\nB\n+C\n", " A = B + 1", ";\n;\n"} {
		checkNew(t, "SplitLines", func() []string { return impl.SplitLines(s) }, "changed")
		checkNew(t, "SplitStatements", func() []string { return impl.SplitStatements(s) }, "changed")
		checkNew(t, "LogicalLines", func() []impl.Line {
			list, _, _ := impl.LogicalLines(s)
			return list
		}, impl.Line{Number: 77, Text: "changed"})
		checkNew(t, "ScanTokens", func() []impl.Token {
			list, _, _ := impl.ScanTokens(s)
			return list
		}, impl.Token{Kind: 77, Text: "changed"})
	}
	for _, s := range []string{"A", "F(B,A) G(C)", "'x'"} {
		e, _ := impl.ExprOf(s)
		checkNew(t, "NamesIn", func() []string { return impl.NamesIn(e) }, "changed")
		checkNew(t, "CallsIn", func() []string { return impl.CallsIn(e) }, "changed")
	}
	for _, g := range []impl.Goto{{Always: "A"}, {Success: "A", Failure: "B"}} {
		checkNew(t, "GotoLabels", func() []string { return impl.GotoLabels(g) }, "changed")
	}
	for _, s := range []string{"", " A", "L A(B) :(M)\nN C D = E :S(L)F(K)\nEND"} {
		p := parsedProgram(t, s)
		checkNew(t, "LabelsOf", func() []string { return impl.LabelsOf(p) }, "changed")
		checkNew(t, "MissingLabels", func() []string { return impl.MissingLabels(p) }, "changed")
		checkNew(t, "ProgramNames", func() []string { return impl.ProgramNames(p) }, "changed")
	}
}

// TestFailuresHaveNoOtherResults checks that only the code and the number are left of a call that fails.
func TestFailuresHaveNoOtherResults(t *testing.T) {
	for _, s := range strangeTexts() {
		if list, number, code := impl.LogicalLines(s); code != impl.OK && len(list) > 0 || code != impl.ErrSyntax && number != 0 {
			t.Errorf("LogicalLines(%.40q): %d statements, %d, %d", s, len(list), number, code)
		}
		if list, number, code := impl.ScanTokens(s); code != impl.OK && len(list) > 0 || code != impl.ErrSyntax && code != impl.ErrFull && number != 0 {
			t.Errorf("ScanTokens(%.40q): %d tokens, %d, %d", s, len(list), number, code)
		}
		if e, ok := impl.ExprOf(s); !ok {
			checkExpr(t, s, e, impl.Expr{})
		}
		if statement, code := impl.ParseStatement(s); code != impl.OK {
			checkStatement(t, s, statement, impl.Statement{})
		}
		if p, number, code := impl.ParseProgram(s); code != impl.OK && len(p.Statements) > 0 || (code == impl.OK || code == impl.ErrInvalid) && number != 0 {
			t.Errorf("ParseProgram(%.40q): %d statements, %d, %d", s, len(p.Statements), number, code)
		}
		if v, ok := impl.ReadValue(s); !ok {
			checkEqual(t, s, v, impl.Value{})
		}
		if v, ok := impl.StringValue(s); !ok {
			checkEqual(t, s, v, impl.Value{})
		}
	}
}

// TestTokensWithAnyFields calls the functions of tokens twice for tokens that need not be valid.
func TestTokensWithAnyFields(t *testing.T) {
	for _, token := range manyTokens() {
		equal := token
		equal.Text = strings.Clone(token.Text)
		checkEqual(t, "ValidToken", impl.ValidToken(equal), impl.ValidToken(token))
		checkEqual(t, "TokenText", impl.TokenText(equal), impl.TokenText(token))
		checkEqual(t, "IsInfix", impl.IsInfix(equal), impl.IsInfix(token))
	}
}

// roomy returns an equal expression, each of whose Kids have unused elements behind them.
func roomy(e impl.Expr) impl.Expr {
	list, _ := backing(e.Kids, leaf(77, "unused"))
	for i := range list {
		list[i] = roomy(list[i])
	}
	e.Kids = list
	return e
}

// memoryOf returns all Kids of an expression, with the unused elements behind them.
func memoryOf(e impl.Expr) [][]impl.Expr {
	all := [][]impl.Expr{e.Kids[:cap(e.Kids)]}
	for _, kid := range e.Kids {
		all = append(all, memoryOf(kid)...)
	}
	return all
}

// checkKeepsExpr calls a function with an expression, and checks that no memory of it was modified.
func checkKeepsExpr(t *testing.T, what string, e impl.Expr, call func(e impl.Expr) string) {
	t.Helper()
	e = roomy(e)
	memory := memoryOf(e)
	var want [][]impl.Expr
	for _, kids := range memory {
		want = append(want, slices.Clone(kids))
	}
	first := call(e)
	for i := range memory {
		if !slices.EqualFunc(memory[i], want[i], sameMemory) {
			t.Errorf("%s modified %+v to %+v", what, want[i], memory[i])
		}
	}
	checkEqual(t, what+": a second call", call(copyExpr(e)), first)
}

// sameMemory reports whether two nodes are equal and have the same Kids, not only equal ones.
func sameMemory(a, b impl.Expr) bool {
	if a.Kind != b.Kind || a.Num != b.Num || a.Text != b.Text || len(a.Kids) != len(b.Kids) || cap(a.Kids) != cap(b.Kids) {
		return false
	}
	return cap(a.Kids) == 0 || &a.Kids[:1][0] == &b.Kids[:1][0]
}

// someExprs returns expressions, valid and invalid ones.
func someExprs() []impl.Expr {
	list := []impl.Expr{{}, {Kind: 99, Num: -1, Text: "\xff"}, series(impl.ExCat, variable("A"), 40), nested(impl.ExNeg, 300, variable("1")), call("F", make([]impl.Expr, 9)...)}
	for _, s := range []string{"A", "'x' 1", "F(B,A) G(C) . X", "-A<1> | *B | @C .D $ E", "(A B)<F(), (C | D)>", "-(A - (B - C)) * $D / 2"} {
		e, _ := impl.ExprOf(s)
		list = append(list, e)
	}
	for i, e := range manyExprs() {
		if i%17 == 0 {
			list = append(list, e)
		}
	}
	return list
}

func TestExpressionFunctionsArePure(t *testing.T) {
	functions := map[string]func(e impl.Expr) string{
		"ValidExpr": func(e impl.Expr) string { return fmt.Sprint(impl.ValidExpr(e)) },
		"ExprNodes": func(e impl.Expr) string { return fmt.Sprint(impl.ExprNodes(e)) },
		"PrintExpr": impl.PrintExpr,
		"NamesIn":   func(e impl.Expr) string { return fmt.Sprintf("%q", impl.NamesIn(e)) },
		"CallsIn":   func(e impl.Expr) string { return fmt.Sprintf("%q", impl.CallsIn(e)) },
		"SameExpr": func(e impl.Expr) string {
			return fmt.Sprint(impl.SameExpr(e, copyExpr(e)), impl.SameExpr(call("F", e), e))
		},
		"ValidStatement": func(e impl.Expr) string { return fmt.Sprint(impl.ValidStatement(statementOf(e))) },
		"PrintStatement": func(e impl.Expr) string { return impl.PrintStatement(statementOf(e)) },
		"SameStatement": func(e impl.Expr) string {
			return fmt.Sprint(impl.SameStatement(statementOf(e), statementOf(copyExpr(e))))
		},
		"SameStatement 2": func(e impl.Expr) string { return fmt.Sprint(impl.SameStatement(subject(e), statementOf(e))) },
	}
	for what, call := range functions {
		for _, e := range someExprs() {
			checkKeepsExpr(t, what, e, call)
		}
	}
}

// statementOf returns a statement with an expression as each of its parts.
func statementOf(e impl.Expr) impl.Statement {
	return withGoto(withReplace(withPattern(subject(e), e), e), "L", "", "")
}

// checkOwnMemory checks that no two Kids of some expressions share memory, not even unused elements.
func checkOwnMemory(t *testing.T, what string, list ...impl.Expr) {
	t.Helper()
	owner := map[*impl.Expr]bool{}
	for _, e := range list {
		for _, kids := range memoryOf(e) {
			for i := range kids {
				if owner[&kids[i]] {
					t.Errorf("%s: memory is shared", what)
					return
				}
				owner[&kids[i]] = true
			}
		}
	}
}

func TestParsedExpressionsHaveTheirOwnMemory(t *testing.T) {
	for _, s := range []string{"F(A,B,C,D,E)", "F(A,B)<G(A,B)> (A - B) . X", "(((A)))", "--$A", "A | (A | (A | A))", "F(F(A,A,A),F(A,A,A),F(A,A,A))"} {
		first, _ := impl.ExprOf(s)
		second, _ := impl.ExprOf(s)
		tokens := scanned(t, s)
		third, _, _ := impl.ParseExpr(tokens, 0)
		element, _, _ := impl.ParseElement(tokens, 0)
		checkOwnMemory(t, s, first, second, third, element)
	}
	for _, s := range []string{"L A(B,C)<D> E F | G(H) = 'x' A(B,C) :(L)", " (A B) C D =", " F(A,B,C) F(A,B,C) = F(A,B,C)"} {
		first, _ := impl.ParseStatement(s)
		second, _ := impl.ParseStatement(s)
		checkOwnMemory(t, s, first.Subject, first.Pattern, first.Replace, second.Subject, second.Pattern, second.Replace)
	}
}

func TestGotoFunctionsArePure(t *testing.T) {
	texts := []string{"", "A", "ABCDEFGHIJKLM", "1", "\xff", strings.Repeat("A", 100000)}
	for _, always := range texts {
		for _, success := range texts {
			for _, failure := range texts {
				g := impl.Goto{Always: always, Success: success, Failure: failure}
				equal := impl.Goto{Always: strings.Clone(always), Success: strings.Clone(success), Failure: strings.Clone(failure)}
				checkEqual(t, "ValidGoto", impl.ValidGoto(equal), impl.ValidGoto(g))
				checkEqual(t, "GotoText", impl.GotoText(equal), impl.GotoText(g))
				checkList(t, "GotoLabels", impl.GotoLabels(equal), impl.GotoLabels(g))
				if !impl.ValidGoto(g) {
					checkEqual(t, "GotoText", impl.GotoText(g), "")
					checkList(t, "GotoLabels", impl.GotoLabels(g), nil)
				}
			}
		}
	}
}

// TestParsingAnyTokens calls the parsers twice for tokens that need not be valid.
func TestParsingAnyTokens(t *testing.T) {
	for i, token := range manyTokens() {
		for _, list := range [][]impl.Token{{token}, {token, name("A"), after(mark(impl.TkClose))}, {name("F"), mark(impl.TkOpen), token, mark(impl.TkClose)}, {name("A"), token, before(name("B"))}} {
			at := int64(i % 5)
			first, second := fmt.Sprint(impl.ParseExpr(list, at)), fmt.Sprint(impl.ParseExpr(slices.Clone(list), at))
			checkEqual(t, "ParseExpr", second, first)
			e, end, code := impl.ParseElement(list, at)
			again, endAgain, codeAgain := impl.ParseElement(slices.Clone(list), at)
			checkParsed(t, "ParseElement", []int64{endAgain, codeAgain}, again, e, end, code)
			isValid := impl.PrintTokens(list) != "" && at <= int64(len(list))
			checkEqual(t, "ErrInvalid", code == impl.ErrInvalid, !isValid)
		}
	}
}

// partsOf returns the expressions of some statements, also those that a statement does not have.
func partsOf(list []impl.Statement) []impl.Expr {
	var parts []impl.Expr
	for _, s := range list {
		parts = append(parts, s.Subject, s.Pattern, s.Replace)
	}
	return parts
}

// roomyProgram returns an equal program, each of whose lists has unused elements behind it.
func roomyProgram(p impl.Program) impl.Program {
	list, _ := backing(p.Statements, statementOf(variable("unused")))
	for i, s := range list {
		list[i].Subject, list[i].Pattern, list[i].Replace = roomy(s.Subject), roomy(s.Pattern), roomy(s.Replace)
	}
	return impl.Program{Statements: list}
}

// checkKeepsProgram calls a function with a program, and checks that no memory of it was modified.
func checkKeepsProgram(t *testing.T, what string, p impl.Program, call func(p impl.Program) string) {
	t.Helper()
	p = roomyProgram(p)
	statements := p.Statements[:cap(p.Statements)]
	wantStatements := slices.Clone(statements)
	kids := memoryOf(impl.Expr{Kids: partsOf(statements)})
	var wantKids [][]impl.Expr
	for _, list := range kids {
		wantKids = append(wantKids, slices.Clone(list))
	}
	first := call(p)
	for i, s := range statements {
		want := wantStatements[i]
		if !impl.SameStatement(s, want) || !slices.EqualFunc(partsOf(statements[i:i+1]), partsOf(wantStatements[i:i+1]), sameMemory) {
			t.Errorf("%s modified %+v to %+v", what, want, s)
		}
	}
	for i := range kids {
		if !slices.EqualFunc(kids[i], wantKids[i], sameMemory) {
			t.Errorf("%s modified %+v to %+v", what, wantKids[i], kids[i])
		}
	}
	checkEqual(t, what+": a second call", call(copyProgram(p)), first)
}

// somePrograms returns programs, valid and invalid ones.
func somePrograms(t *testing.T) []impl.Program {
	t.Helper()
	valid := parsedProgram(t, "M A(B,C)<D> E F | G(H) = 'x' A(B,C) :(L)\n B = -1\nL :S(N)F(K)\nEND")
	list := []impl.Program{{}, valid, program(impl.Statement{}), program(slices.Concat(valid.Statements, valid.Statements)...), program(slices.Repeat(valid.Statements, 30)...), program(evenStatements(0)...), program(evenStatements(1)...)}
	for _, e := range someExprs() {
		list = append(list, program(statementOf(e), subject(e)), program(subject(variable("A")), statementOf(e), withReplace(subject(variable("B")), e)))
	}
	return list
}

func TestProgramFunctionsArePure(t *testing.T) {
	functions := map[string]func(p impl.Program) string{
		"ValidProgram": func(p impl.Program) string { return fmt.Sprint(impl.ValidProgram(p)) },
		"SameProgram": func(p impl.Program) string {
			return fmt.Sprint(impl.SameProgram(p, copyProgram(p)), impl.SameProgram(program(), p))
		},
		"PrintProgram":  impl.PrintProgram,
		"LabelIndex":    func(p impl.Program) string { return fmt.Sprint(impl.LabelIndex(p, "L"), impl.LabelIndex(p, "")) },
		"LabelsOf":      func(p impl.Program) string { return fmt.Sprintf("%q", impl.LabelsOf(p)) },
		"MissingLabels": func(p impl.Program) string { return fmt.Sprintf("%q", impl.MissingLabels(p)) },
		"ProgramNames":  func(p impl.Program) string { return fmt.Sprintf("%q", impl.ProgramNames(p)) },
	}
	for what, call := range functions {
		for _, p := range somePrograms(t) {
			checkKeepsProgram(t, what, p, call)
		}
	}
}

func TestParsedProgramsHaveTheirOwnMemory(t *testing.T) {
	for _, source := range []string{" A", " A(B,C)<D> E\n A(B,C)<D> E\nL A(B,C)<D> E = A(B,C)\n", strings.Repeat(" A B C; (D - E) =;", 40)} {
		first, second := parsedProgram(t, source), parsedProgram(t, source)
		want := copyProgram(first)
		checkOwnMemory(t, source, slices.Concat(partsOf(first.Statements), partsOf(second.Statements))...)
		memory := first.Statements[:cap(first.Statements)]
		for i := range memory {
			memory[i] = labelled("changed", subject(variable("changed")))
		}
		checkProgram(t, "an earlier result", second, want)
		checkProgram(t, "a later result", parsedProgram(t, source), want)
	}
}

// TestValuesWithAnyFields calls the functions of values twice for values that need not be valid.
func TestValuesWithAnyFields(t *testing.T) {
	for _, v := range manyValues() {
		equal := v
		equal.Text = strings.Clone(v.Text)
		checkEqual(t, "ValidValue", impl.ValidValue(equal), impl.ValidValue(v))
		checkEqual(t, "SameValue", impl.SameValue(equal, v), true)
		checkEqual(t, "IsNull", impl.IsNull(equal), impl.IsNull(v))
		checkEqual(t, "IsReference", impl.IsReference(equal), impl.IsReference(v))
		checkEqual(t, "DataType", impl.DataType(equal), impl.DataType(v))
		checkEqual(t, "ValueText", impl.ValueText(equal), impl.ValueText(v))
		checkEqual(t, "PrecedesValue", impl.PrecedesValue(equal, v), false)
		first, ok := impl.IntegerValue(v.Num)
		again, okAgain := impl.IntegerValue(v.Num)
		checkEqual(t, "IntegerValue", again, first)
		checkEqual(t, "IntegerValue: ok", okAgain, ok)
	}
	long := impl.Value{Kind: impl.VkPattern, Text: strings.Repeat("p", 1000000)}
	checkEqual(t, "a long text", impl.ValueText(long)+impl.DataType(long), "")
}
