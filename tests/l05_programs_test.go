package tests

import (
	"fmt"
	"slices"
	"strings"
	"testing"

	"loop.example/g00873/impl"
)

// program returns the program with some statements.
func program(list ...impl.Statement) impl.Program {
	return impl.Program{Statements: list}
}

// parsedProgram returns the program with a correct source text.
func parsedProgram(t *testing.T, source string) impl.Program {
	t.Helper()
	p, number, code := impl.ParseProgram(source)
	if number != 0 || code != impl.OK {
		t.Fatalf("%.200q: number %d, code %d", source, number, code)
	}
	return p
}

func checkProgram(t *testing.T, what string, got, want impl.Program) {
	t.Helper()
	if !impl.SameProgram(got, want) {
		t.Errorf("%s: got %+v, want %+v", what, got, want)
	}
}

func checkParsedProgram(t *testing.T, what, source string, want impl.Program, number, code int64) {
	t.Helper()
	p, gotNumber, gotCode := impl.ParseProgram(source)
	checkEqual(t, what+": number", gotNumber, number)
	checkEqual(t, what+": code", gotCode, code)
	checkEqual(t, what+": statements", len(p.Statements), len(want.Statements))
	checkProgram(t, what, p, want)
}

// longStatement returns a statement whose text has the given number of bytes, 3865 to 4000.
func longStatement(length int) impl.Statement {
	return withPattern(subject(variable("A")), longText(length-3))
}

// evenStatements returns MaxStatements statements with texts of 49 bytes, the
// first of which has some more, so that the text of the program has 4000 and as many more.
func evenStatements(more int) []impl.Statement {
	list := slices.Repeat([]impl.Statement{subject(literal(strings.Repeat("x", 46)))}, 80)
	list[0] = subject(literal(strings.Repeat("x", 46+more)))
	return list
}

func TestProgramConstants(t *testing.T) {
	checkEqual(t, "MaxStatements", int64(impl.MaxStatements), 80)
}

func TestProgramExamples(t *testing.T) {
	p := program(withReplace(subject(variable("A")), number(1)), labelled("END", impl.Statement{}))
	checkEqual(t, "valid", impl.ValidProgram(p), true)
	checkEqual(t, "text", impl.PrintProgram(p), " A = 1\nEND\n")
	checkParsedProgram(t, "the text", " A = 1\nEND\n", p, 0, impl.OK)
	checkParsedProgram(t, "two labels", "* sum\nL A = 1;L B = 2\n", impl.Program{}, 2, impl.ErrState)
	q := parsedProgram(t, " A = F(B) :(L)\n")
	checkList(t, "missing labels", impl.MissingLabels(q), []string{"L"})
	checkList(t, "names", impl.ProgramNames(q), []string{"A", "B", "F"})
}

// checkInvalidProgram checks what all functions return for an invalid program.
func checkInvalidProgram(t *testing.T, what string, p impl.Program) {
	t.Helper()
	checkEqual(t, what+": valid", impl.ValidProgram(p), false)
	checkEqual(t, what+": text", impl.PrintProgram(p), "")
	for _, label := range []string{"", "L", "END", "RETURN", "A"} {
		checkEqual(t, what+": index of "+label, impl.LabelIndex(p, label), -1)
	}
	if impl.LabelsOf(p) != nil || impl.MissingLabels(p) != nil || impl.ProgramNames(p) != nil {
		t.Errorf("%s: labels %q, missing %q, names %q", what, impl.LabelsOf(p), impl.MissingLabels(p), impl.ProgramNames(p))
	}
}

func TestInvalidPrograms(t *testing.T) {
	a := subject(call("A", variable("B")))
	l, end := labelled("L", withGoto(a, "M", "", "")), labelled("END", impl.Statement{})
	for _, c := range []struct {
		what string
		p    impl.Program
	}{
		{"a zero statement", program(impl.Statement{})},
		{"a zero statement between others", program(l, impl.Statement{}, end)},
		{"an invalid label", program(l, labelled("1", a))},
		{"an invalid expression", program(l, subject(variable("1")))},
		{"an invalid goto", program(l, withGoto(a, "L", "L", ""))},
		{"a pattern without a subject", program(l, withPattern(impl.Statement{Label: "M"}, variable("A")))},
		{"an invalid last statement", impl.Program{Statements: append(slices.Repeat([]impl.Statement{a}, 79), impl.Statement{})}},
		{"the same label twice", program(l, l)},
		{"the same label at the ends", program(l, a, end, a, labelled("L", impl.Statement{}))},
		{"END twice", program(l, end, end)},
		{"RETURN", program(l, labelled("RETURN", a))},
		{"RETURN alone", program(labelled("RETURN", impl.Statement{}))},
		{"FRETURN", program(labelled("FRETURN", a), l)},
		{"one statement more than MaxStatements", impl.Program{Statements: slices.Repeat([]impl.Statement{a}, 81)}},
		{"one label more than MaxStatements", impl.Program{Statements: append(slices.Repeat([]impl.Statement{a}, 80), end)}},
		{"a text of one byte more than MaxSource", program(longStatement(4000))},
		{"a text of one byte more with a label", program(labelled("L", longStatement(3997)), end)},
		{"a text of one byte more in MaxStatements statements", program(evenStatements(1)...)},
		{"long statements", program(longStatement(4000), longStatement(4000))},
		{"very many statements", program(slices.Repeat([]impl.Statement{a}, 100000)...)},
		{"very many zero statements", program(make([]impl.Statement, 100000)...)},
		{"a very deep expression", program(l, subject(nested(impl.ExNeg, 1000000, variable("A"))))},
		{"an endless expression", program(l, withPattern(a, endlessKids(3)))},
		{"a shared expression", program(l, withReplace(a, sharedKids(200)))},
		{"a very long label", program(l, labelled(strings.Repeat("L", 1000000), a))},
		{"a very long string", program(l, subject(literal(strings.Repeat("x", 1000000))))},
	} {
		checkInvalidProgram(t, c.what, c.p)
	}
}

func TestValidPrograms(t *testing.T) {
	a := subject(variable("A"))
	end := labelled("END", impl.Statement{})
	for _, c := range []struct {
		what string
		p    impl.Program
		want string
	}{
		{"no statements", program(), ""},
		{"an empty list", impl.Program{Statements: []impl.Statement{}}, ""},
		{"one statement", program(a), " A\n"},
		{"equal statements without labels", program(a, a, a), " A\n A\n A\n"},
		{"END and a statement behind it", program(end, a), "END\n A\n"},
		{"labels that differ in case", program(labelled("L", a), labelled("l", a)), "L A\nl A\n"},
		{"labels like the reserved ones", program(labelled("Return", a), labelled("freturn", a), labelled("RETURNS", a)), "Return A\nfreturn A\nRETURNS A\n"},
		{"gotos to reserved labels", program(withGoto(a, "RETURN", "", ""), withGoto(a, "", "RETURN", "FRETURN")), " A :(RETURN)\n A :S(RETURN)F(FRETURN)\n"},
		{"names like the reserved labels", program(subject(variable("RETURN"))), " RETURN\n"},
		{"MaxStatements statements", program(slices.Repeat([]impl.Statement{a}, 80)...), strings.Repeat(" A\n", 80)},
		{"a text of MaxSource bytes", program(longStatement(3999)), impl.PrintStatement(longStatement(3999)) + "\n"},
		{"a text of MaxSource bytes with a label", program(labelled("L", longStatement(3994)), end), "L" + impl.PrintStatement(longStatement(3994)) + "\nEND\n"},
		{"a text of MaxSource bytes in MaxStatements statements", program(evenStatements(0)...), strings.Repeat(" '"+strings.Repeat("x", 46)+"'\n", 80)},
	} {
		checkEqual(t, c.what+": valid", impl.ValidProgram(c.p), true)
		checkEqual(t, c.what+": text", impl.PrintProgram(c.p), c.want)
		checkParsedProgram(t, c.what, c.want, c.p, 0, impl.OK)
	}
}

func TestSameProgram(t *testing.T) {
	a, b := subject(variable("A")), subject(variable("B"))
	list := []impl.Program{
		{}, program(impl.Statement{}), program(impl.Statement{}, impl.Statement{}), program(a), program(b), program(a, a), program(a, b), program(b, a),
		program(labelled("L", a)), program(labelled("L", a), labelled("L", a)), program(withPattern(a, variable("A"))), program(withReplace(a, variable("A"))),
		program(withGoto(a, "L", "", "")), program(withGoto(a, "", "L", "")), program(impl.Statement{HasPattern: true}), program(subject(nested(impl.ExNeg, 100, variable("A")))),
		program(slices.Repeat([]impl.Statement{a}, 81)...), program(slices.Repeat([]impl.Statement{a}, 82)...),
	}
	for i, p := range list {
		for j, q := range list {
			checkEqual(t, fmt.Sprintf("%+v and %+v", p, q), impl.SameProgram(p, copyProgram(q)), i == j)
		}
	}
	checkEqual(t, "nil and empty", impl.SameProgram(program(), impl.Program{Statements: []impl.Statement{}}), true)
}

// copyProgram returns an equal program that shares no memory.
func copyProgram(p impl.Program) impl.Program {
	var list []impl.Statement
	for _, s := range p.Statements {
		s.Subject, s.Pattern, s.Replace = copyExpr(s.Subject), copyExpr(s.Pattern), copyExpr(s.Replace)
		list = append(list, s)
	}
	return impl.Program{Statements: list}
}

func TestSameProgramOfStrangePrograms(t *testing.T) {
	deep, endless, shared := subject(nested(impl.ExNeg, 100000, variable("A"))), subject(endlessKids(2)), subject(sharedKids(100))
	other := subject(nested(impl.ExNeg, 100000, variable("B")))
	many := slices.Repeat([]impl.Statement{subject(variable("A"))}, 100000)
	last := append(slices.Clone(many[1:]), subject(variable("B")))
	for _, c := range []struct {
		what string
		p, q impl.Program
		want bool
	}{
		{"strange", program(deep, endless, shared), program(subject(nested(impl.ExNeg, 100000, variable("A"))), subject(endlessKids(3)), subject(sharedKids(100))), true},
		{"strange with another end", program(deep, shared, deep), program(deep, shared, other), false},
		{"strange with another length", program(deep, shared, endless), program(deep, shared), false},
		{"shared in each statement", program(slices.Repeat([]impl.Statement{shared}, 80)...), program(slices.Repeat([]impl.Statement{subject(sharedKids(100))}, 80)...), true},
		{"large", program(many...), program(slices.Clone(many)...), true},
		{"large with another end", program(many...), program(last...), false},
	} {
		checkEqual(t, c.what, impl.SameProgram(c.p, c.q), c.want)
		checkEqual(t, c.what+", exchanged", impl.SameProgram(c.q, c.p), c.want)
	}
}

func TestParseProgram(t *testing.T) {
	for _, c := range []struct{ source, want string }{
		{"", ""},
		{"\n \n* A\n", ""},
		{";;\n ; \n", ""},
		{" A", " A\n"},
		{" A\n", " A\n"},
		{"L", "L\n"},
		{"END", "END\n"},
		{" A;B C;D", " A\nB C\nD\n"},
		{"* head\n A = 1\n+ + 2;L B\n", " A = 1 + 2\nL B\n"},
		{"L A\n+\n+ 'x;y' ;; M\n* C\n\n+:(L);N :F(M)S(N)", "L A 'x;y'\n M :(L)\nN :S(N)F(M)\n"},
		{" A =", " A = ''\n"},
		{" A = \"x\" ; B = 007", " A = 'x'\n B = 7\n"},
		{" ((A)) ((B | C))\n", " A B | C\n"},
		{"L A :(L)\nM A :(RETURN)\nEND", "L A :(L)\nM A :(RETURN)\nEND\n"},
		{"l A;L A;Return A;RETURN1 A", "l A\nL A\nReturn A\nRETURN1 A\n"},
	} {
		p := parsedProgram(t, c.source)
		checkEqual(t, c.source, impl.PrintProgram(p), c.want)
		checkEqual(t, c.source+": valid", impl.ValidProgram(p), true)
	}
	want := program(exampleStatement(), withGoto(withPattern(subject(variable("B")), call("F")), "END", "", ""), labelled("END", impl.Statement{}))
	checkParsedProgram(t, "three statements", "L A 'x' | B =\n+ :F(L)\n B F() :(END)\nEND", want, 0, impl.OK)
}

func TestParseProgramErrors(t *testing.T) {
	names := func(count int) string { return strings.Repeat(" A", count) }
	many := strings.Repeat(" A\n", 80)
	for _, c := range []struct {
		what, source string
		number, code int64
	}{
		{"a bad byte", " A\x00", 0, impl.ErrInvalid},
		{"a bad byte behind other errors", "+ A\n B =C\nRETURN\n\t", 0, impl.ErrInvalid},
		{"a letter outside of ASCII", " A = '\u00e4'", 0, impl.ErrInvalid},
		{"one byte more than MaxSource", strings.Repeat(" ", 4000) + "\n", 0, impl.ErrInvalid},
		{"one line more than MaxLines", strings.Repeat("\n", 121), 0, impl.ErrInvalid},
		{"one statement in one line more than MaxLines", strings.Repeat("*\n", 120) + " A", 0, impl.ErrInvalid},
		{"a very long text", strings.Repeat(" A\n", 1000000), 0, impl.ErrInvalid},
		{"a continuation line first", "+ A", 1, impl.ErrSyntax},
		{"a continuation line behind a comment", "* A\n\n+ A\n", 3, impl.ErrSyntax},
		{"a continuation line before other errors", "\n+ A\n B =C\nRETURN\n", 2, impl.ErrSyntax},
		{"a continuation line in the last line", strings.Repeat("*\n", 119) + "+", 120, impl.ErrSyntax},
		{"no infix =", " A\n B =C\n", 2, impl.ErrSyntax},
		{"no label", " A\n\n* C\n1 A\n", 4, impl.ErrSyntax},
		{"no token", "\n A #", 2, impl.ErrSyntax},
		{"an error behind a semicolon", "\n A\n B; C =D; E\n", 3, impl.ErrSyntax},
		{"an error in a continuation line", " A\n B\n+ = C\n+ )\n D\n", 2, impl.ErrSyntax},
		{"an error behind a semicolon in a continuation line", "\n B\n+ = C\n+;1 D\n D )\n", 2, impl.ErrSyntax},
		{"a comment behind a semicolon", " A;* B", 1, impl.ErrSyntax},
		{"a continuation behind a semicolon", "\n A;+ B", 2, impl.ErrSyntax},
		{"an error in the last line", strings.Repeat("\n", 119) + " A )", 120, impl.ErrSyntax},
		{"too many tokens", "\n" + names(121), 2, impl.ErrFull},
		{"too many nodes", "\n\n A" + names(31), 3, impl.ErrFull},
		{"too many arguments", " A\n;F(A,A,A,A,A,A,A); F(A,A,A,A,A,A,A)", 2, impl.ErrSyntax},
		{"too many arguments behind a blank", " A\n; F(A,A,A,A,A,A,A)", 2, impl.ErrFull},
		{"a statement whose text is too long", "\n" + impl.PrintStatement(longStatement(3996)) + " =", 2, impl.ErrFull},
		{"RETURN", "RETURN A\n", 1, impl.ErrState},
		{"FRETURN", " A\nFRETURN\n", 2, impl.ErrState},
		{"RETURN behind a semicolon", "\n A\n+;RETURN A", 2, impl.ErrState},
		{"a label twice", "L A\n\nM A\nL B\n", 4, impl.ErrState},
		{"a label twice without a part behind it", "L;M;L", 1, impl.ErrState},
		{"END twice", "END\nEND\n", 2, impl.ErrState},
		{"a label twice in a continued line", "L\n A\n+ ;B;L\n", 2, impl.ErrState},
		{"a reserved label and an error in the same statement", " A\nRETURN A )\n", 2, impl.ErrSyntax},
		{"a label twice and an error in the same statement", "L A\nL A )\n", 2, impl.ErrSyntax},
		{"a label twice before an error", "L A;L B\n A )\n", 1, impl.ErrState},
		{"an error before a label twice", " A )\nL A;L B\n", 1, impl.ErrSyntax},
		{"a large statement before an error", " A" + names(31) + "\n A )\nRETURN", 1, impl.ErrFull},
		{"one statement more than MaxStatements", many + " A\n", 81, impl.ErrFull},
		{"one statement more in the same line", strings.Repeat(" A;", 81), 1, impl.ErrFull},
		{"one statement more in a later line", "\n" + strings.Repeat(" A;", 80) + "\n*\n\n B", 5, impl.ErrFull},
		{"one statement more, with a syntax error", many + " A )\n", 81, impl.ErrSyntax},
		{"one statement more, with too many nodes", many + " A" + names(31), 81, impl.ErrFull},
		{"one statement more, with a reserved label", many + "RETURN A\n", 81, impl.ErrState},
		{"one statement more, with a label twice", "L A\n" + strings.Repeat(" A\n", 79) + "L A\n", 81, impl.ErrState},
		{"one statement more before an error", many + " A\n A )\nRETURN\n", 81, impl.ErrFull},
		{"an error before one statement more", strings.Repeat(" A\n", 79) + " A )\n B\n C\n", 80, impl.ErrSyntax},
	} {
		checkParsedProgram(t, c.what, c.source, impl.Program{}, c.number, c.code)
	}
}

func TestParseProgramLimits(t *testing.T) {
	long := func(length int) string { return impl.PrintStatement(longStatement(length)) }
	even := strings.Repeat(" '"+strings.Repeat("x", 46)+"'\n", 79)
	growing := strings.Repeat(" '"+strings.Repeat("x", 43)+"' =;", 80)
	for _, c := range []struct {
		what, source string
		number, code int64
	}{
		{"MaxStatements statements", strings.Repeat(" A\n", 80), 0, impl.OK},
		{"MaxStatements statements in a line", strings.Repeat(" A;", 80), 0, impl.OK},
		{"MaxStatements statements in MaxLines lines", strings.Repeat("*\n", 39) + strings.Repeat(" A\n", 80) + "*\n", 0, impl.OK},
		{"MaxLines lines of one statement", " A\n" + strings.Repeat("+ 'x'\n", 30) + strings.Repeat("\n", 89), 0, impl.OK},
		{"MaxSource blanks", strings.Repeat(" ", 4000), 0, impl.OK},
		{"MaxSource bytes of a comment", "*" + strings.Repeat("x", 3999), 0, impl.OK},
		{"a text of MaxSource bytes", long(3999) + "\n", 0, impl.OK},
		{"a text of MaxSource bytes from a shorter one", long(3999), 0, impl.OK},
		{"a text of one byte more", long(4000), 0, impl.ErrFull},
		{"a text of MaxSource bytes with an empty string", long(3994) + " =", 0, impl.OK},
		{"a text of one byte more with an empty string", long(3995) + " =", 0, impl.ErrFull},
		{"a text of MaxSource bytes in MaxStatements statements", even + " '" + strings.Repeat("x", 46) + "'", 0, impl.OK},
		{"a text of one byte more in MaxStatements statements", even + " '" + strings.Repeat("x", 47) + "'", 0, impl.ErrFull},
		{"a text of one byte more in statements of one line", "L A;" + long(3996), 0, impl.ErrFull},
		{"a text of MaxSource bytes in statements of one line", "L A;" + long(3995), 0, impl.OK},
		{"a text of one byte more from statements with one byte less", long(3990) + ";A\n A =", 0, impl.ErrFull},
		{"a text that is too long before an error", long(3995) + ";A )", 1, impl.ErrSyntax},
		{"a text that is too long before a reserved label", long(3988) + " =\nRETURN", 2, impl.ErrState},
		{"a text that is too long in MaxStatements statements", growing, 0, impl.ErrFull},
		{"a text that is too long before one statement more", growing + " A", 1, impl.ErrFull},
		{"a text of one byte more than MaxSource with blanks", " " + long(4000), 0, impl.ErrInvalid},
	} {
		p, number, code := impl.ParseProgram(c.source)
		checkEqual(t, c.what+": number", number, c.number)
		checkEqual(t, c.what+": code", code, c.code)
		checkEqual(t, c.what+": valid", impl.ValidProgram(p), true)
		if c.code != impl.OK {
			checkProgram(t, c.what, p, impl.Program{})
		}
	}
}

// modelProgram returns what ParseProgram returns, with the functions of chapters 1 and 4 alone.
func modelProgram(source string) (impl.Program, int64, int64) {
	var list []impl.Statement
	text := ""
	lines, number, code := impl.LogicalLines(source)
	if code != impl.OK {
		return impl.Program{}, number, code
	}
	for i, line := range lines {
		s, code := impl.ParseStatement(line.Text)
		isTaken := slices.ContainsFunc(list, func(other impl.Statement) bool { return other.Label == s.Label })
		switch {
		case code != impl.OK:
		case s.Label == "RETURN", s.Label == "FRETURN", s.Label != "" && isTaken:
			code = impl.ErrState
		case i == 80:
			code = impl.ErrFull
		}
		if code != impl.OK {
			return impl.Program{}, line.Number, code
		}
		list = append(list, s)
		text += impl.PrintStatement(s) + "\n"
	}
	if len(text) > 4000 {
		return impl.Program{}, 0, impl.ErrFull
	}
	return impl.Program{Statements: list}, 0, impl.OK
}

// programSources are source texts of many programs, correct and incorrect ones.
func programSources() []string {
	separators := []string{"\n", "\n", ";", "\n\n", "\n* C\n", "\n+ "}
	correct := []string{" A = 1", " A =", " B 'x;y' :S(L)F(N)", " :(END)", " :(RETURN)", " F(A,G(B)) . C :F(M)", " .X *Y = @Z | $W", " A<I> D", " 'a' (B . C) = -1 :S(FRETURN)"}
	labels := []string{"L", "M", "N", "END", "L1", "A"}
	wrong := []string{"RETURN A", "FRETURN", " A =B", "1 A", " A #", " F(A,A,A,A,A,A,A)", "\n+ B", " :(A)S(B)"}
	var pieces []string
	for i, s := range slices.Repeat(correct, 8) {
		if i%4 == 0 {
			s = labels[i/4%len(labels)] + s
		}
		pieces = append(pieces, s+separators[i%len(separators)])
	}
	list := randomTexts(12, 6000, 8, pieces)
	list = append(list, randomTexts(13, 300, 12, []string{" A = ''\n", " B; C :(L)\n", " A =\n+;;", "* C\n", "\n"})...)
	list = append(list, randomTexts(14, 600, 200, []string{" A;", " B :(L);", " A =;", "\n A = 'xxxxxxxxxxxxxxxxxxxxxxxxxxxxxxxxxxxxxxxxxxxxxx'\n", "  ;"})...)
	for i, s := range randomTexts(15, 6000, 6, pieces) {
		list = append(list, s+wrong[i%len(wrong)]+"\n"+s)
	}
	for _, s := range []string{" A\n", " 'xxxxxxxxxxxxxxxxxxxxxxxxxxxxxxxxxxxxxxxxxxxxxx'\n"} {
		for count := range 125 {
			list = append(list, strings.Repeat(s, count), strings.Repeat(s, count)+"L A\n", "L\n"+strings.Repeat(s, count)+"L", strings.Repeat(s, count)+" A )")
		}
	}
	return list
}

func TestParseProgramAgainstModel(t *testing.T) {
	counts := map[int64]int{}
	for _, source := range programSources() {
		want, number, code := modelProgram(source)
		checkParsedProgram(t, source, source, want, number, code)
		counts[code]++
	}
	for _, code := range []int64{impl.OK, impl.ErrInvalid, impl.ErrSyntax, impl.ErrState, impl.ErrFull} {
		if counts[code] < 100 {
			t.Errorf("only %d results with the code %d", counts[code], code)
		}
	}
}

// eachProgram calls visit with many valid programs: with those that were parsed, and with those that other statements form.
func eachProgram(t *testing.T, visit func(p impl.Program)) {
	t.Helper()
	for _, source := range programSources() {
		if p, _, code := impl.ParseProgram(source); code == impl.OK {
			visit(p)
		}
	}
	var list []impl.Statement
	count := 0
	manyStatements(t, func(s impl.Statement) {
		count++
		label := []string{"", "L", "l", "END", "L_1", "M"}[len(list)%6]
		if len(list) >= 6 {
			label = ""
		}
		if s = labelled(label, s); impl.ValidStatement(s) {
			list = append(list, s)
		}
		if len(list) == count%81 {
			visit(impl.Program{Statements: list})
			list = nil
		}
	})
}

// TestProgramsAreRecovered is the first part of promise 6.
func TestProgramsAreRecovered(t *testing.T) {
	recovered, empty, full := 0, 0, 0
	eachProgram(t, func(p impl.Program) {
		checkEqual(t, fmt.Sprintf("%+v", p), impl.ValidProgram(p), true)
		source := impl.PrintProgram(p)
		checkParsedProgram(t, source, source, p, 0, impl.OK)
		checkEqual(t, "lines of "+source, strings.Count(source, "\n"), len(p.Statements))
		recovered++
		switch len(p.Statements) {
		case 0:
			empty++
		case 80:
			full++
		}
	})
	if recovered < 2000 || empty < 5 || full < 5 {
		t.Errorf("only %d programs were recovered, of them %d empty and %d full ones", recovered, empty, full)
	}
}

// TestParsedProgramsAreValid checks that valid programs, and only these, are returned together with OK.
func TestParsedProgramsAreValid(t *testing.T) {
	for _, source := range programSources() {
		p, _, code := impl.ParseProgram(source)
		checkEqual(t, source, impl.ValidProgram(p), true)
		if code != impl.OK {
			checkEqual(t, source+": statements", len(p.Statements), 0)
		}
	}
}

// TestLabelsAreFound is the second part of promise 6.
func TestLabelsAreFound(t *testing.T) {
	found := 0
	eachProgram(t, func(p impl.Program) {
		var labels []string
		for i, s := range p.Statements {
			if s.Label != "" {
				labels = append(labels, s.Label)
				checkEqual(t, s.Label, impl.LabelIndex(p, s.Label), int64(i))
				found++
			}
		}
		checkList(t, "labels", impl.LabelsOf(p), labels)
		for _, label := range []string{"", " ", "L", "M", "END", "RETURN", "A", "X", "L\xff"} {
			if !slices.Contains(labels, label) {
				checkEqual(t, label, impl.LabelIndex(p, label), -1)
			}
		}
	})
	if found < 1000 {
		t.Errorf("only %d labels were found", found)
	}
}

func TestLabels(t *testing.T) {
	p := parsedProgram(t, " A :(N)\nL A\n B;END\nA;l 'L'\n+ :(RETURN)\n")
	checkList(t, "labels", impl.LabelsOf(p), []string{"L", "END", "A", "l"})
	for label, want := range map[string]int64{"L": 1, "END": 3, "A": 4, "l": 5, "": -1, "N": -1, "B": -1, "RETURN": -1, "FRETURN": -1, "L ": -1, "1": -1, strings.Repeat("L", 1000000): -1} {
		checkEqual(t, fmt.Sprintf("index of %.20q", label), impl.LabelIndex(p, label), want)
	}
	checkList(t, "no labels", impl.LabelsOf(parsedProgram(t, " A\n B :(L)\n")), nil)
	checkList(t, "no statements", impl.LabelsOf(program()), nil)
	checkEqual(t, "a label and no statements", impl.LabelIndex(program(), "L"), -1)
	checkEqual(t, "an empty label and no statements", impl.LabelIndex(program(), ""), -1)
	full := parsedProgram(t, strings.Repeat(" A\n", 79)+"L\n")
	checkEqual(t, "the last statement", impl.LabelIndex(full, "L"), 79)
}

// distinct returns the different texts of a list in order.
func distinct(texts map[string]bool) []string {
	var list []string
	for text := range texts {
		list = append(list, text)
	}
	slices.Sort(list)
	return list
}

// TestMissingLabelsAreThoseThatOnlyGotosName is the third part of promise 6.
func TestMissingLabelsAreThoseThatOnlyGotosName(t *testing.T) {
	missing := 0
	eachProgram(t, func(p impl.Program) {
		want := map[string]bool{}
		for _, s := range p.Statements {
			for _, label := range []string{s.Goto.Always, s.Goto.Success, s.Goto.Failure} {
				want[label] = true
			}
		}
		for _, label := range append(impl.LabelsOf(p), "", "END", "RETURN", "FRETURN") {
			delete(want, label)
		}
		checkList(t, impl.PrintProgram(p), impl.MissingLabels(p), distinct(want))
		missing += len(want)
	})
	if missing < 1000 {
		t.Errorf("only %d labels were missing", missing)
	}
}

func TestMissingLabels(t *testing.T) {
	for _, c := range []struct {
		source string
		want   []string
	}{
		{"", nil},
		{" A", nil},
		{" :(L)", []string{"L"}},
		{" :(END);A :(RETURN);B :(FRETURN);C :S(END)F(RETURN);D :S(FRETURN)", nil},
		{"L :(L)", nil},
		{" :(L)\nL", nil},
		{"L :S(M)F(N)\nM", []string{"N"}},
		{" :S(Z)F(A);X :F(L);Y :S(b);Z :(B);W :(L)", []string{"A", "B", "L", "b"}},
		{" :S(L)F(L);M :(L)", []string{"L"}},
		{" L = M N :(END)", nil},
		{" ':(L)' :(return)", []string{"return"}},
		{" :(End);B :(END1)", []string{"END1", "End"}},
	} {
		checkList(t, c.source, impl.MissingLabels(parsedProgram(t, c.source)), c.want)
	}
}

func TestProgramNames(t *testing.T) {
	for _, c := range []struct {
		source string
		want   []string
	}{
		{"", nil},
		{"L :(M)", nil},
		{" A", []string{"A"}},
		{" A;B C;D E F = G", []string{"A", "C", "E", "F", "G"}},
		{" A = A(A)", []string{"A"}},
		{" B(A) C() D(E(F))<G> . H", []string{"A", "B", "C", "D", "E", "F", "G", "H"}},
		{" .X *Y = @Z;L $W", []string{"W", "X", "Y", "Z"}},
		{" b B;C 'A' = 1", []string{"B", "b"}},
		{" Z; Y; Z(Y); Y Z :(X)", []string{"Y", "Z"}},
		{" RETURN END", []string{"END", "RETURN"}},
	} {
		checkList(t, c.source, impl.ProgramNames(parsedProgram(t, c.source)), c.want)
	}
}

// TestProgramNamesAgainstPrintedTokens finds the names in the texts of the parts of each statement.
func TestProgramNamesAgainstPrintedTokens(t *testing.T) {
	names := 0
	eachProgram(t, func(p impl.Program) {
		want := map[string]bool{}
		for _, s := range p.Statements {
			for _, e := range []impl.Expr{s.Subject, s.Pattern, s.Replace} {
				tokens, _, _ := impl.ScanTokens(impl.PrintExpr(e))
				for _, token := range tokens {
					if token.Kind == impl.TkName {
						want[token.Text] = true
					}
				}
			}
		}
		checkList(t, impl.PrintProgram(p), impl.ProgramNames(p), distinct(want))
		names += len(want)
	})
	if names < 5000 {
		t.Errorf("only %d names", names)
	}
}
