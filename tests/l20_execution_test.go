package tests

import (
	"fmt"
	"math"
	"slices"
	"strings"
	"testing"

	"loop.example/g00873/impl"
)

func TestExecutionConstants(t *testing.T) {
	checkList(t, "limits", []int64{impl.MaxSteps, impl.MaxCalls}, []int64{4000, 12})
	checkList(t, "jumps", []int64{impl.JumpEnd, impl.JumpReturn, impl.JumpFReturn}, []int64{-1, -2, -3})
}

// factorial is the example of chapter 20.
const factorial = " DEFINE('FACT(N)')\n OUTPUT = FACT(6) :(END)\nFACT FACT = LE(N,1) 1 :S(RETURN)\n FACT = N * FACT(N - 1) :(RETURN)\nEND\n"

// newMemory returns the memory in which a program begins.
func newMemory(t *testing.T, input ...string) impl.Memory {
	t.Helper()
	m, ok := impl.NewMemory(input)
	if !ok {
		t.Fatalf("no memory for %q", input)
	}
	return m
}

func TestExecutionExample(t *testing.T) {
	x := impl.RunProgram(parsedProgram(t, factorial), newMemory(t), 4000)
	checkList(t, "output", x.Memory.Console.Output, []string{"720"})
	checkList(t, "numbers", []int64{x.At, x.Steps, x.Code}, []int64{1, 13, impl.OK})
}

// runRow is a program whose lines are separated by semicolons, its input
// lines separated by bars, and what is expected of a run with as much fuel as possible.
type runRow struct {
	source, input, output string
	at, steps, code       int64
}

// checkRows runs programs, and compares them with what is expected and with the model.
func checkRows(t *testing.T, rows []runRow) {
	t.Helper()
	for _, row := range rows {
		p := parsedProgram(t, row.source+"\n")
		m := newMemory(t, strings.Split(row.input, "|")...)
		x := impl.RunProgram(p, m, 4000)
		checkEqual(t, row.source+": output", strings.Join(x.Memory.Console.Output, "|"), row.output)
		checkList(t, row.source+": at, steps and code", []int64{x.At, x.Steps, x.Code}, []int64{row.at, row.steps, row.code})
		checkRun(t, row.source, programRun(x), modelRun(p, m, 4000, 0))
	}
}

func TestStatementParts(t *testing.T) {
	checkRows(t, []runRow{
		{"END", "", "", -1, 0, impl.OK},
		{"END OUTPUT = 1", "", "", -1, 0, impl.OK},
		{" :S(L)F(END); OUTPUT = 'skipped';L OUTPUT = 'yes'", "", "yes", 2, 2, impl.OK},
		{"L;M;N", "", "", 2, 3, impl.OK},
		{" 'x'; OUTPUT = 'on'", "", "on", 1, 2, impl.OK},
		{" X :S(L)F(END); OUTPUT = 'skipped';L OUTPUT = 'null'", "", "null", 2, 2, impl.OK},
		{" EQ(1,2) :S(END); OUTPUT = 'failed'", "", "failed", 1, 2, impl.OK},
		{" EQ(1,1) :F(END); OUTPUT = 'succeeded'", "", "succeeded", 1, 2, impl.OK},
		{" INPUT; INPUT; OUTPUT = INPUT; OUTPUT = INPUT :F(L);L OUTPUT = 'end'", "a|b|c", "c|end", 4, 5, impl.OK},
		{" NONE(); OUTPUT = 1", "", "", 0, 1, impl.ErrUndefined},
		{" OUTPUT = 1; X = 1 / 0; OUTPUT = 2", "", "1", 1, 2, impl.ErrDivision},
		{" A = 'x'; B = A; A =; OUTPUT = B '-' A '-'", "", "x--", 3, 4, impl.OK},
		{" A = 5; A = EQ(1,2) 6 :S(END); OUTPUT = A", "", "5", 2, 3, impl.OK},
		{" $'A' = 5; $.B = A; $B = 1; OUTPUT = A B", "", "", 2, 3, impl.ErrType},
		{" A = ARRAY(3); A<2> = 'x'; A<'2'> = 'y' :S(END); A<4> = 'y' :S(END); OUTPUT = A<1> '-' A<2> '-' A<3>", "", "-x-", 4, 5, impl.OK},
		{" T = TABLE(); T<T> = 1; T<'k'> = 2; OUTPUT = T<T> T<'k'> T<'n'> LENGTH(T)", "", "122", 3, 4, impl.OK},
		{" DATA('R(A,B)'); X = R(1); B(X) = A(X) + 1; A(X) =; OUTPUT = A(X) '-' B(X)", "", "-2", 4, 5, impl.OK},
		{" 5 = 1", "", "", 0, 1, impl.ErrType},
		{" (INPUT 1) = INPUT; OUTPUT = INPUT", "a|b", "", 0, 1, impl.ErrType},
		{" SIZE('x') = 1 / 0", "", "", 0, 1, impl.ErrType},
		{" $5 = 1 / 0", "", "", 0, 1, impl.ErrType},
		{" A<1 / 0> = ARRAY(99)", "", "", 0, 1, impl.ErrDivision},
		{" A = ARRAY(2); A<9> = 1 / 0", "", "", 1, 2, impl.ErrDivision},
		{" A = ARRAY(2); A<A<9>> = 1 / 0 :F(L);L OUTPUT = 'failed'", "", "failed", 2, 3, impl.OK},
		{" A = ARRAY(2); A<INPUT> = INPUT :F(L);L OUTPUT = INPUT", "a|b|c", "c", 2, 3, impl.OK},
		{" INPUT = 1", "a", "", 0, 1, impl.ErrState},
		{" INPUT = 1 / 0", "a", "", 0, 1, impl.ErrDivision},
		{" OUTPUT = ARRAY(2)", "", "", 0, 1, impl.ErrType},
		{" OUTPUT = REM", "", "", 0, 1, impl.ErrType},
		{" OUTPUT = 1; OUTPUT = -2; OUTPUT =; OUTPUT = '  '; OUTPUT = OUTPUT 'x'", "", "1|-2||  |x", 4, 5, impl.OK},
	})
}

func TestMatchingStatements(t *testing.T) {
	checkRows(t, []runRow{
		{" S = 'abc'; S 'b' :F(END); OUTPUT = S", "", "abc", 2, 3, impl.OK},
		{" 'abc' 'd' :S(END); OUTPUT = 'no'", "", "no", 1, 2, impl.OK},
		{" X '' :F(END); OUTPUT = 'empty'", "", "empty", 1, 2, impl.OK},
		{" 123 2 :F(END); OUTPUT = 'numbers'", "", "numbers", 1, 2, impl.OK},
		{" INPUT INPUT :F(END); OUTPUT = INPUT", "xaby|ab|c", "c", 1, 2, impl.OK},
		{" INPUT INPUT; OUTPUT = INPUT", "ab|xaby|c", "c", 1, 2, impl.OK},
		{" L = ARRAY(1); L<2> (1 / 0) :F(M);M OUTPUT = 'failed'", "", "failed", 2, 3, impl.OK},
		{" 'x' L<2>", "", "", 0, 1, impl.ErrType},
		{" L = ARRAY(1); 'x' L<2> :F(M);M OUTPUT = 'failed'", "", "failed", 2, 3, impl.OK},
		{" ARRAY(2) (1 / 0)", "", "", 0, 1, impl.ErrDivision},
		{" (1 / 0) NONE()", "", "", 0, 1, impl.ErrDivision},
		{" ARRAY(2) 'x'", "", "", 0, 1, impl.ErrType},
		{" REM 'x'", "", "", 0, 1, impl.ErrType},
		{" 'x' .X", "", "", 0, 1, impl.ErrType},
		{" 'x' ARRAY(1)", "", "", 0, 1, impl.ErrType},
		{" 'x' *NONE", "", "", 0, 1, impl.ErrUndefined},
		{" 'x' *REM", "", "", 0, 1, impl.ErrUndefined},
		{" L = ARRAY(1); 'x' *L", "", "", 1, 2, impl.ErrUndefined},
		{" 'x' SUCCEED FAIL", "", "", 0, 1, impl.ErrSteps},
		{" P = 'x' | '(' *P ')'; 'a((x)' P . OUTPUT; 5 *P; N = 5; Q = *N; '25' Q . OUTPUT", "", "(x)|5", 5, 6, impl.OK},
		{" 'abc' LEN(1) . X LEN(1) $ Y @Z; OUTPUT = X Y Z DATATYPE(Z) DATATYPE(X)", "", "ab2integerstring", 1, 2, impl.OK},
		{" 'abc' (LEN(1) . OUTPUT) (LEN(1) $ OUTPUT) @OUTPUT (REM . OUTPUT)", "", "b|2|a|c", 0, 1, impl.OK},
		{" 'abc' LEN(1) $ OUTPUT FAIL :S(END); OUTPUT = 'no'", "", "a|b|c|no", 1, 2, impl.OK},
		{" 'abc' LEN(1) . OUTPUT FAIL :S(END); OUTPUT = 'no'", "", "no", 1, 2, impl.OK},
		{" 'abc' LEN(1) $ X @Y FAIL; OUTPUT = X Y", "", "c3", 1, 2, impl.OK},
		{" 'abc' LEN(1) $ INPUT FAIL", "", "", 0, 1, impl.ErrState},
		{" 'abc' LEN(1) . INPUT FAIL; OUTPUT = 'no'", "", "no", 1, 2, impl.OK},
		{" 'abc' LEN(1) . INPUT; OUTPUT = 'no'", "", "", 0, 1, impl.ErrState},
		{" 'abc' @INPUT", "", "", 0, 1, impl.ErrState},
		{" X = 'x'; 'axb' *X $ X . Y *X", "", "", 1, 2, impl.OK},
		{" 'abc' 'b' :F(END); ANCHOR = 1; 'abc' 'b' :S(END); 'abc' 'ab' :F(END); ANCHOR =; 'abc' 'c' :F(END); OUTPUT = 'all'", "", "all", 6, 7, impl.OK},
		{" 'abc' LEN(1) $ ANCHOR 'c' :F(END); OUTPUT = ANCHOR; 'abc' 'b' :S(END); OUTPUT = 'anchored'", "", "b|anchored", 3, 4, impl.OK},
		{" ANCHOR = ARRAY(1); 'ab' 'b' :S(END); OUTPUT = 'anchored'", "", "anchored", 2, 3, impl.OK},
		{" ANCHOR = 0; 'ab' 'b' :S(END); OUTPUT = 'anchored'", "", "anchored", 2, 3, impl.OK},
	})
}

func TestReplacingStatements(t *testing.T) {
	checkRows(t, []runRow{
		{" S = 'abc'; S 'b' = 'x' :F(END); OUTPUT = S", "", "axc", 2, 3, impl.OK},
		{" S = 'abcabc';L S 'b' = :S(L); OUTPUT = S", "", "acac", 2, 5, impl.OK},
		{" S = 'abc'; S 'd' = INPUT :S(END); OUTPUT = S INPUT", "a|b", "abca", 2, 3, impl.OK},
		{" S = 'abc'; S 'd' = 1 / 0; OUTPUT = S", "", "abc", 2, 3, impl.OK},
		{" S = 'abc'; S 'b' = INPUT INPUT :S(END); OUTPUT = S INPUT", "a", "", 2, 3, impl.OK},
		{" S = 'abc'; S LEN(1) . X = X X; OUTPUT = S", "", "aabc", 2, 3, impl.OK},
		{" S = 'abc'; S LEN(1) $ X @Y REM = Y X; OUTPUT = S", "", "1a", 2, 3, impl.OK},
		{" S = 'abc'; S LEN(1) $ S 'z' = 'y'; OUTPUT = S", "", "c", 2, 3, impl.OK},
		{" S = 'abc'; S LEN(1) $ S 'b' = 'y'; OUTPUT = S", "", "yc", 2, 3, impl.OK},
		{" S = 'abc'; S (LEN(1) . S) 'b' = S; OUTPUT = S", "", "ac", 2, 3, impl.OK},
		{" S = 12345; S 3 = 0; OUTPUT = S DATATYPE(S)", "", "12045string", 2, 3, impl.OK},
		{" S '' = 'new'; OUTPUT = S", "", "new", 1, 2, impl.OK},
		{" S = 'x'; S LEN(1) = ARRAY(2)", "", "", 1, 2, impl.ErrType},
		{" S = 'x'; S LEN(1) = REM", "", "", 1, 2, impl.ErrType},
		{" S = 'x'; S 'y' = ARRAY(2); OUTPUT = S", "", "x", 2, 3, impl.OK},
		{" S = DUPL('x',199); S '' = 'y'; OUTPUT = SIZE(S); S '' = 'y'", "", "200", 3, 4, impl.ErrFull},
		{" S = ARRAY(2); S (1 / 0) = 1", "", "", 1, 2, impl.ErrDivision},
		{" S = ARRAY(2); S 'x' = 1 / 0", "", "", 1, 2, impl.ErrType},
		{" S = 'x'; S .X = 1", "", "", 1, 2, impl.ErrType},
		{" INPUT 'a' = 'b'", "xay|c", "", 0, 1, impl.ErrState},
		{" INPUT 'a' = INPUT :S(END); OUTPUT = INPUT", "b|c", "c", 1, 2, impl.OK},
		{" INPUT 'a' = 1; INPUT 'a' = 2; OUTPUT = 'none left'", "", "none left", 2, 3, impl.OK},
		{" OUTPUT 'a' = 'b' :S(END); OUTPUT '' = 'c' :F(END); OUTPUT = 'd'", "", "c|d", 2, 3, impl.OK},
		{" 'abc' 'b' = 'x'", "", "", 0, 1, impl.ErrType},
		{" SIZE(INPUT) INPUT = INPUT", "a", "", 0, 1, impl.ErrType},
		{" $'S' = 'abc'; $.S 'b' = 'x'; OUTPUT = S; $'' 'b' = 'x'", "", "axc", 3, 4, impl.ErrType},
		{" N = 'S'; S = 'S'; $N 'S' = 'T'; OUTPUT = S; N = 'N'; $N 'N' = 'S'; OUTPUT = N", "", "T|S", 6, 7, impl.OK},
		{" A = ARRAY(2,'abc'); A<2> 'b' =; OUTPUT = A<1> A<2>; A<3> '' = 1 / 0 :F(L);L A<0> (1 / 0) =; OUTPUT = 'both'", "", "abcac|both", 5, 6, impl.OK},
		{" T = TABLE('abc'); T<1> 'b' = 'x'; OUTPUT = T<1> T<2>; 5<1> 'b' = 'x'", "", "axcabc", 3, 4, impl.ErrType},
		{" DATA('R(A)'); X = R('abc'); A(X) 'b' = 'x'; OUTPUT = A(X); A(5) 'x' = 'y'", "", "axc", 4, 5, impl.ErrType},
		{" A = ARRAY(1,'x'); A<1> LEN(1) $ B = 'y'; OUTPUT = A<1> B", "", "yx", 2, 3, impl.OK},
		{" N = 1; A = ARRAY(2,'x'); A<N> @N 'x' = 'y'; OUTPUT = A<1> A<2> N", "", "yx0", 3, 4, impl.OK},
	})
}

func TestGotoFields(t *testing.T) {
	checkRows(t, []runRow{
		{" :(B);A OUTPUT = 'a' :(END);B OUTPUT = 'b' :(A);END", "", "b|a", 1, 3, impl.OK},
		{" 'x' :S(A)F(B);A OUTPUT = 'a' :(END);B OUTPUT = 'b'", "", "a", 1, 2, impl.OK},
		{" EQ(1,2) :S(A)F(B);A OUTPUT = 'a' :(END);B OUTPUT = 'b'", "", "b", 2, 2, impl.OK},
		{" EQ(1,2) :(B);A OUTPUT = 'a' :(END);B OUTPUT = 'b'", "", "b", 2, 2, impl.OK},
		{" EQ(1,2) :S(NONE); OUTPUT = 'on'", "", "on", 1, 2, impl.OK},
		{" EQ(1,1) :F(NONE); OUTPUT = 'on'", "", "on", 1, 2, impl.OK},
		{" OUTPUT = 1 :S(NONE)", "", "1", 0, 1, impl.ErrUndefined},
		{" EQ(1,2) :F(NONE)", "", "", 0, 1, impl.ErrUndefined},
		{" OUTPUT = 1 :(NONE)", "", "1", 0, 1, impl.ErrUndefined},
		{" X = 1 / 0 :(NONE)", "", "", 0, 1, impl.ErrDivision},
		{" OUTPUT = 1 :(END); OUTPUT = 2", "", "1", 0, 1, impl.OK},
		{" OUTPUT = 1 :S(END); OUTPUT = 2;END OUTPUT = 3; OUTPUT = 4", "", "1", 0, 1, impl.OK},
		{" OUTPUT = 1;END OUTPUT = 2; OUTPUT = 3", "", "1", 0, 1, impl.OK},
		{" :(L);END OUTPUT = 2;L OUTPUT = 3", "", "3", 2, 2, impl.OK},
		{"A N = LT(N,3) N + 1 :S(A); OUTPUT = N", "", "3", 1, 5, impl.OK},
		{" :(RETURN)", "", "", 0, 1, impl.ErrState},
		{" OUTPUT = 1; EQ(1,2) :F(FRETURN)", "", "1", 1, 2, impl.ErrState},
		{" 'x' :S(RETURN)F(FRETURN)", "", "", 0, 1, impl.ErrState},
		{"END :(NONE)", "", "", -1, 0, impl.OK},
	})
}

func TestNextStatement(t *testing.T) {
	p := parsedProgram(t, " A;L B;END C;M D\n")
	var texts []string
	for at := range int64(4) {
		for _, g := range []impl.Goto{{}, {Always: "L"}, {Always: "END"}, {Always: "NONE"}, {Success: "M"}, {Failure: "M"}, {Success: "RETURN", Failure: "FRETURN"}, {Success: "END", Failure: "NONE"}, {Failure: "L"}} {
			for _, succeeded := range []bool{true, false} {
				next, code := impl.NextStatement(p, g, succeeded, at)
				want, wantCode := modelContinuation(p.Statements, g, succeeded, int(at))
				checkList(t, fmt.Sprintf("%+v %t at %d", g, succeeded, at), []int64{next, code}, []int64{want, wantCode})
				if at == 0 {
					texts = append(texts, fmt.Sprint(next, code))
				}
			}
		}
	}
	checkEqual(t, "the jumps of the first statement", strings.Join(texts, ", "), "1 0, 1 0, 1 0, 1 0, -1 0, -1 0, 0 5, 0 5, 3 0, 1 0, 1 0, 3 0, -2 0, -3 0, -1 0, 0 5, 1 0, 1 0")
	for _, at := range []int64{1, 3} {
		next, code := impl.NextStatement(p, impl.Goto{}, true, at)
		checkList(t, "before END, and at the end", []int64{next, code}, []int64{-1, impl.OK})
	}
	for _, at := range []int64{math.MinInt64, -3, -2, -1, 4, 5, 1 << 32, math.MaxInt64} {
		next, code := impl.NextStatement(p, impl.Goto{Always: "NONE"}, true, at)
		checkList(t, fmt.Sprint("no statement ", at), []int64{next, code}, []int64{0, impl.ErrRange})
	}
	next, code := impl.NextStatement(impl.Program{}, impl.Goto{}, true, 0)
	checkList(t, "no statements", []int64{next, code}, []int64{0, impl.ErrRange})
	for _, g := range invalidGotos() {
		next, code := impl.NextStatement(p, g, true, 99)
		checkList(t, fmt.Sprintf("%.40q", fmt.Sprint(g)), []int64{next, code}, []int64{0, impl.ErrInvalid})
	}
	for _, c := range invalidPrograms() {
		next, code := impl.NextStatement(c.p, impl.Goto{}, true, 99)
		checkList(t, c.what, []int64{next, code}, []int64{0, impl.ErrInvalid})
	}
}

func invalidGotos() []impl.Goto {
	list := []impl.Goto{{Always: "A", Success: "A"}, {Always: "A", Failure: "B"}, {Always: "A", Success: "A", Failure: "A"}}
	for _, name := range noNames()[1:] {
		list = append(list, impl.Goto{Always: name}, impl.Goto{Success: name}, impl.Goto{Failure: name}, impl.Goto{Success: "A", Failure: name})
	}
	return list
}

// namedProgram is a program with a description.
type namedProgram struct {
	what string
	p    impl.Program
}

// invalidPrograms returns programs of which each is invalid for another reason.
func invalidPrograms() []namedProgram {
	a := subject(call("A", variable("B")))
	l := labelled("L", withGoto(a, "M", "", ""))
	list := []namedProgram{
		{"a zero statement", program(l, impl.Statement{})},
		{"an invalid label", program(l, labelled("1", a))},
		{"an invalid goto", program(l, withGoto(a, "L", "L", ""))},
		{"a pattern without a subject", program(l, withPattern(impl.Statement{Label: "M"}, variable("A")))},
		{"the same label twice", program(l, a, l)},
		{"RETURN", program(labelled("RETURN", a))},
		{"one statement more than MaxStatements", impl.Program{Statements: slices.Repeat([]impl.Statement{a}, 81)}},
		{"a text of one byte more than MaxSource", program(longStatement(4000))},
		{"very many statements", program(slices.Repeat([]impl.Statement{a}, 100000)...)},
		{"an endless expression", program(l, withPattern(a, endlessKids(3)))},
		{"a shared expression", program(l, withReplace(a, sharedKids(200)))},
	}
	for i, e := range invalidExprs()[:40] {
		list = append(list, namedProgram{fmt.Sprint("the expression ", i), program(l, subject(e))})
	}
	return list
}

func TestCalls(t *testing.T) {
	checkRows(t, []runRow{
		{" DEFINE('F(X,Y)A'); X = 1; Y = 2; A = 3; F = 4; OUTPUT = F(5) X Y A F :(END);F F = X Y 'a' A :(RETURN);END", "", "5a1234", 5, 7, impl.OK},
		{" DEFINE('F(X,Y)A'); OUTPUT = F(5,6) :(END);F F = X Y A :(RETURN);END", "", "56", 1, 3, impl.OK},
		{" DEFINE('F(X,Y)A'); OUTPUT = F() '.' :(END);F F = X Y A :(RETURN);END", "", ".", 1, 3, impl.OK},
		{" DEFINE('F(X,Y)A'); OUTPUT = F(1,2,3) :(END);F F = X Y A :(RETURN);END", "", "", 1, 2, impl.ErrRange},
		{" DEFINE('F()A'); F(1 / 0)", "", "", 1, 2, impl.ErrDivision},
		{" DEFINE('F()A'); F(1)", "", "", 1, 2, impl.ErrRange},
		{" DEFINE('F(X)'); OUTPUT = F(1)", "", "", 1, 2, impl.ErrUndefined},
		{" DEFINE('F(F)','R'); OUTPUT = F(7) '-' F() F :(END);R :(RETURN);END", "", "7-", 1, 4, impl.OK},
		{" DEFINE('F(X)F','R'); F = 3; OUTPUT = F(7) '-' F :(END);R F = X F :(RETURN);END", "", "7-3", 2, 4, impl.OK},
		{" DEFINE('F(X)'); F(1) :S(END)F(L);F F = 1 :(FRETURN);L OUTPUT = 'failed' F X", "", "failed", 3, 4, impl.OK},
		{" DEFINE('F(X)'); OUTPUT = 1 F(2) INPUT :F(L);F OUTPUT = X :(FRETURN);L OUTPUT = INPUT", "a", "2|a", 3, 4, impl.OK},
		{" DEFINE('F(X)'); F(1) :(END);F :(END);END", "", "", 2, 3, impl.ErrState},
		{" DEFINE('F(X)'); F(1);F OUTPUT = X", "", "1", 2, 3, impl.ErrState},
		{" DEFINE('F(X)'); F(1);F OUTPUT = X;END", "", "1", 2, 3, impl.ErrState},
		{" DEFINE('F(X)'); F(1);F OUTPUT = X :(NONE)", "", "1", 2, 3, impl.ErrUndefined},
		{" DEFINE('F(X)'); F(1);F X = 1 / 0", "", "", 2, 3, impl.ErrDivision},
		{" DEFINE('F(X)','END'); F(1);END", "", "", 1, 2, impl.ErrState},
		{" DEFINE('F(X)','END'); F(1)", "", "", 1, 2, impl.ErrUndefined},
		{" DEFINE('F(X)','RETURN'); F(1)", "", "", 1, 2, impl.ErrUndefined},
		{" DEFINE('F(X)','M'); OUTPUT = F(1);M OUTPUT = 'main' X :S(L);N F = 2 X :(RETURN);L EQ(X,1) :S(N)", "", "main1|21|main", 4, 7, impl.OK},
		{" DEFINE('F(N)'); OUTPUT = F(4) :(END);F F = LE(N,1) 1 :S(RETURN); F = F(N - 1) F(N - 2) :(RETURN);END", "", "11111", 1, 15, impl.OK},
		{" DEFINE('E(N)'); DEFINE('O(N)'); OUTPUT = E(5) :S(END); OUTPUT = O(5) :(END);E E = EQ(N,0) 'even' :S(RETURN); E = O(N - 1) :S(RETURN)F(FRETURN);O EQ(N,0) :S(FRETURN); O = E(N - 1) 'odd' :S(RETURN)F(FRETURN);END", "", "evenoddoddodd", 3, 26, impl.OK},
		{" DEFINE('F()','A'); OUTPUT = F() F() F() :(END);A DEFINE('F()','B'); F = 'a' :(RETURN);B DEFINE('F()','A'); F = 'b' :(RETURN);END", "", "aba", 1, 8, impl.OK},
		{" DEFINE('F(X)'); L = ARRAY(2); F(L); OUTPUT = L<1> X :(END);F X<1> = 'set'; X = 5 :(RETURN);END", "", "set", 3, 6, impl.OK},
		{" DEFINE('F(OUTPUT)'); OUTPUT = F(3) OUTPUT '.' :(END);F OUTPUT = 'written'; F = OUTPUT + 1 :(RETURN);END", "", "written|4.", 1, 4, impl.OK},
		{" DEFINE('F(INPUT)'); OUTPUT = F(3) :(END);F F = INPUT INPUT :(RETURN);END", "a|b", "ab", 1, 3, impl.OK},
		{" DEFINE('F(REM)'); OUTPUT = F(3) :(END);F 'abc' REM :S(RETURN)F(L);L 'abc' LEN(1) REM . F :(RETURN);END", "", "", 1, 4, impl.OK},
		{" DEFINE('F(REM)'); OUTPUT = DATATYPE(F()) DATATYPE(F('x')) :(END);F F = REM :(RETURN);END", "", "patternstring", 1, 4, impl.OK},
		{" DEFINE('F(ANCHOR)'); 'ab' F(1) :F(END); OUTPUT = 'free' :(END);F 'ab' 'b' :S(FRETURN); F = 'b' :(RETURN);END", "", "free", 2, 5, impl.OK},
		{" DEFINE('F(X)'); L = ARRAY(3,'x'); L<F(1)> = F(2); OUTPUT = L<2> L<3> :(END);F F = X + 1 :(RETURN);END", "", "3x", 3, 6, impl.OK},
		{" DEFINE('F(X)'); S = 'S'; $F('S') F('S') = F('T') :F(END); OUTPUT = S :(END);F F = X; OUTPUT = 'F' X :(RETURN);END", "", "FS|FS|FT|T", 3, 10, impl.OK},
		{" DEFINE('F(X)'); DEFINE('G(X)','F'); 'ab' F('b') . OUTPUT | G('a') . OUTPUT :(END);F F = X; OUTPUT = X :(RETURN);END", "", "b|a|", 2, 7, impl.OK},
		{" DEFINE('F(X)'); DEFINE('F(X,Y)'); OUTPUT = F(1,2) :(END);F F = X Y :(RETURN);END", "", "12", 2, 4, impl.OK},
		{" DATA('F(A)'); DEFINE('F(X)'); OUTPUT = F(1) :(END);F F = 'function' :(RETURN);END", "", "function", 2, 4, impl.OK},
		{" DEFINE('SIZE(X)'); OUTPUT = SIZE('abc') :(END);SIZE SIZE = X X :(RETURN);END", "", "abcabc", 1, 3, impl.OK},
		{" DEFINE('DEFINE(X)'); DEFINE('G(X)'); G(1) :(END);DEFINE OUTPUT = X :(RETURN);END", "", "G(X)", 2, 4, impl.ErrUndefined},
		{" DEFINE('F()'); X = F() F() F() :(END);F OUTPUT = INPUT :S(RETURN)F(FRETURN);END", "a|b", "a|b", 1, 5, impl.OK},
	})
}

// TestErrorsInCalls checks the memory of runs that end within a call.
func TestErrorsInCalls(t *testing.T) {
	for _, c := range []struct {
		source    string
		vars      string
		at, steps int64
		code      int64
	}{
		{" DEFINE('F(X,Y)A'); X = 1; F = 2; F(5) :(END);F A = 3; Y = 1 / 0", "A 3, X 5", 5, 6, impl.ErrDivision},
		{" DEFINE('F(X)'); X = 1; F(5) :(END);F X = 6 :(NONE)", "X 6", 3, 4, impl.ErrUndefined},
		{" DEFINE('F(X)'); X = 1; F(5) :(END);F X = 6 :(END)", "X 6", 3, 4, impl.ErrState},
		{" DEFINE('F(X)'); X = 1; F(5) :(END)", "X 5", 2, 3, impl.ErrUndefined},
		{" DEFINE('F(X)','END'); X = 1; F = 3; F(5) :(END);END", "X 5", 3, 4, impl.ErrState},
		{" DEFINE('F(X)'); X = 1; F(5,6) :(END);F X = 6 :(END)", "X 1", 2, 3, impl.ErrRange},
		{" DEFINE('F(X)'); X = 1; F(5) :(END);F X = F(X + 1)", "X 16", 3, 15, impl.ErrStack},
		{" DEFINE('F(X)'); DEFINE('G(Y)'); F(5) :(END);F X = G(X) :(END);G Y = Y + 1 :(RETURN)", "X", 3, 5, impl.ErrState},
		{" DEFINE('F(X)'); X = 1; OUTPUT = F(5) ARRAY(1) :(END);F X = 6 :(RETURN)", "X 1", 2, 4, impl.ErrType},
	} {
		p := parsedProgram(t, c.source+"\n")
		x := impl.RunProgram(p, newMemory(t), 4000)
		checkRun(t, c.source, programRun(x), modelRun(p, newMemory(t), 4000, 0))
		checkList(t, c.source, []int64{x.At, x.Steps, x.Code}, []int64{c.at, c.steps, c.code})
		var vars []string
		for _, b := range x.Memory.Scope.Vars {
			vars = append(vars, fmt.Sprint(b.Name, " ", b.Value.Num))
		}
		if c.vars == "X" {
			vars = vars[:0]
			checkEqual(t, c.source+": X", len(x.Memory.Scope.Vars), 0)
			continue
		}
		checkEqual(t, c.source+": variables", strings.Join(vars, ", "), c.vars)
	}
}

// crowded returns a memory with a function and all variables but some.
func crowded(prototype string, free int, list ...impl.Binding) impl.Memory {
	m := impl.Memory{}
	for _, name := range namesTo(40 - free - len(list)) {
		list = append(list, binding(name, integerOf(1)))
	}
	m.Scope = modelDefineFunction(modelAssign(impl.Scope{}, list...).s, prototype, "").s
	return m
}

func TestVariableLimitsInCalls(t *testing.T) {
	p := parsedProgram(t, " R = F(7,8) :(END)\nF F = X Y\n :(RETURN)\nEND\n")
	x := impl.RunProgram(p, crowded("F(X,Y)", 3), 100)
	checkList(t, "three variables", []int64{x.At, x.Steps, x.Code}, []int64{0, 3, impl.OK})
	x = impl.RunProgram(p, crowded("F(X,Y)", 2), 100)
	checkList(t, "two variables", []int64{x.At, x.Steps, x.Code}, []int64{1, 2, impl.ErrFull})
	x = impl.RunProgram(p, crowded("F(X,Y)", 1), 100)
	checkList(t, "one variable: the second argument", []int64{x.At, x.Steps, x.Code}, []int64{0, 1, impl.ErrFull})
	checkEqual(t, "one variable: the first argument", x.Memory.Scope.Vars[39], binding("X", integerOf(7)))
	x = impl.RunProgram(p, crowded("F(X,Y)", 0, binding("F", integerOf(2))), 100)
	checkList(t, "the result is removed first", []int64{x.At, x.Steps, x.Code}, []int64{0, 1, impl.ErrFull})
	checkEqual(t, "the first argument", x.Memory.Scope.Vars[39], binding("X", integerOf(7)))
	x = impl.RunProgram(p, crowded("F(X)", 1), 100)
	checkList(t, "an argument more", []int64{x.At, x.Steps, x.Code}, []int64{0, 1, impl.ErrRange})
}

func TestErrorsWhileRestoring(t *testing.T) {
	p := parsedProgram(t, " OUTPUT = F() :(END)\nF A =\n B = 1\n C = 2 :(RETURN)\nEND\n")
	for free, want := range map[int][]int64{0: {3, 4, impl.ErrFull}, 1: {3, 4, impl.ErrFull}, 2: {0, 4, impl.OK}} {
		m := crowded("F()A", free, binding("A", integerOf(5)))
		x := impl.RunProgram(p, m, 100)
		checkList(t, fmt.Sprint(free, " variables more"), []int64{x.At, x.Steps, x.Code}, want)
		checkRun(t, fmt.Sprint(free, " variables more"), programRun(x), modelRun(p, m, 100, 0))
		checkEqual(t, "A", x.Memory.Scope.Vars[0].Name == "A", free == 2)
		_, _, _, _, code := impl.CallProgram(p, m, "F", nil, 100)
		checkEqual(t, "a direct call", code, want[2])
		_, _, _, _, code = impl.EvaluateIn(p, m, call("F"), 100)
		checkEqual(t, "an expression", code, want[2])
	}
}

func TestCallLimits(t *testing.T) {
	source := " DEFINE('H(N)')\n OUTPUT = H(%d) :(END)\nH H = EQ(N,1) 'deep' :S(RETURN)\n H = H(N - 1) :S(RETURN)F(FRETURN)\nEND\n"
	p := parsedProgram(t, fmt.Sprintf(source, 12))
	x := impl.RunProgram(p, newMemory(t), 4000)
	checkList(t, "MaxCalls calls", x.Memory.Console.Output, []string{"deep"})
	checkList(t, "MaxCalls calls", []int64{x.At, x.Steps, x.Code}, []int64{1, 25, impl.OK})
	m := x.Memory
	x = impl.RunProgram(parsedProgram(t, fmt.Sprintf(source, 13)), newMemory(t), 4000)
	checkList(t, "a call more", []int64{x.At, x.Steps, x.Code}, []int64{3, 26, impl.ErrStack})
	for n, want := range map[int64]int64{12: impl.OK, 13: impl.ErrStack} {
		_, v, succeeds, steps, code := impl.CallProgram(p, m, "H", []impl.Value{integerOf(n)}, 4000)
		checkEqual(t, "a direct call", code, want)
		checkEqual(t, "a direct call", succeeds && v == stringOf("deep") && steps == 23, want == impl.OK)
		_, v, succeeds, steps, code = impl.EvaluateIn(p, m, call("H", number(n)), 4000)
		checkEqual(t, "an expression", code, want)
		checkEqual(t, "an expression", succeeds && v == stringOf("deep") && steps == 23, want == impl.OK)
	}
	many := parsedProgram(t, " DEFINE('H()');L OUTPUT = H(1,2);H X = H()\n")
	x = impl.RunProgram(many, newMemory(t), 4000)
	checkEqual(t, "superfluous arguments", x.Code, impl.ErrRange)
	again := parsedProgram(t, " DEFINE('H()') :(L)\nH X = H(1)\nL X = H()\n")
	checkEqual(t, "superfluous arguments in a call", impl.RunProgram(again, newMemory(t), 4000).Code, impl.ErrRange)
	deep := parsedProgram(t, " DEFINE('H(N)')\n X = H(1) :(END)\nH X = LT(N,12) H(N + 1)\n X = H(1,2)\nEND\n")
	checkEqual(t, "superfluous arguments at the last level", impl.RunProgram(deep, newMemory(t), 4000).Code, impl.ErrRange)
}

func TestFuelOfRuns(t *testing.T) {
	p, m := parsedProgram(t, factorial), newMemory(t)
	for fuel := range int64(13) {
		x := impl.RunProgram(p, m, fuel)
		checkList(t, fmt.Sprint("fuel ", fuel), []int64{x.Steps, x.Code}, []int64{fuel, impl.ErrSteps})
		checkEqual(t, fmt.Sprint("fuel ", fuel, ": at"), x.At, []int64{0, 1, 2, 3, 2, 3, 2, 3, 2, 3, 2, 3, 2}[fuel])
		checkRun(t, fmt.Sprint("fuel ", fuel), programRun(x), modelRun(p, m, fuel, 0))
	}
	x := impl.RunProgram(p, m, 13)
	checkList(t, "enough fuel", []int64{x.At, x.Steps, x.Code}, []int64{1, 13, impl.OK})
	for _, fuel := range []int64{math.MinInt64, -1, 4001, 1 << 32, math.MaxInt64} {
		checkRun(t, fmt.Sprint("fuel ", fuel), programRun(impl.RunProgram(p, m, fuel)), runResult{code: impl.ErrRange})
		checkRun(t, fmt.Sprint("fuel ", fuel), programRun(impl.RunCollecting(p, m, fuel, 1)), runResult{code: impl.ErrRange})
		checkRun(t, fmt.Sprint("fuel ", fuel), evaluatedRun(impl.EvaluateIn(p, m, number(1), fuel)), runResult{code: impl.ErrRange})
		checkRun(t, fmt.Sprint("fuel ", fuel), evaluatedRun(impl.CallProgram(p, m, "NONE", nil, fuel)), runResult{code: impl.ErrRange})
		checkRun(t, fmt.Sprint("fuel ", fuel), statementRun(impl.RunStatement(p, m, 0, fuel)), runResult{code: impl.ErrRange})
		output, code := impl.OutputOf(factorial, nil, fuel)
		checkEqual(t, fmt.Sprint("fuel ", fuel), len(output) == 0 && code == impl.ErrRange, true)
	}
	loop := "L N = LT(N,%d) N + 1 :S(L)\n OUTPUT = N :(END)\nEND\n"
	for n, code := range map[int]int64{3998: impl.OK, 3999: impl.ErrSteps} {
		x := impl.RunProgram(parsedProgram(t, fmt.Sprintf(loop, n)), m, 4000)
		checkList(t, "MaxSteps steps", []int64{x.At, x.Steps, x.Code}, []int64{1, 4000, code})
	}
	x = impl.RunProgram(parsedProgram(t, fmt.Sprintf(loop, 3998)), m, 3999)
	checkList(t, "one less", []int64{x.At, x.Steps, x.Code}, []int64{1, 3999, impl.ErrSteps})
}

// costly returns the value of a pattern that fails after exactly the given number of steps, anchored at the subject.
func costly(t *testing.T, subject string, steps int64) impl.Value {
	t.Helper()
	// The parts become smaller: each one is the largest that leaves enough for another one.
	var parts []string
	left := steps
	for depth := 4; depth >= 0; depth-- {
		for skipped := range len(subject) {
			text := fmt.Sprintf("cat(len(%d),", skipped) + strings.Repeat("cat(arb,", depth) + "fail" + strings.Repeat(")", depth+1)
			p, _ := impl.ReadPattern(text)
			_, _, used, code := impl.FirstMatch(nil, p, subject, true, 20000)
			if code == impl.OK && used+2 <= left {
				parts = append(parts, text)
				left -= used + 1
			}
		}
	}
	for ; left > 1; left -= 2 {
		parts = append(parts, "fail")
	}
	text := []string{"cat(fail,fail)", "fail"}[left]
	if left == 0 {
		text, parts = "cat(fail,fail)", parts[:len(parts)-1]
	}
	for _, part := range slices.Backward(parts) {
		text = "alt(" + part + "," + text + ")"
	}
	p, ok := impl.ReadPattern(text)
	_, found, used, code := impl.FirstMatch(nil, p, subject, true, 20000)
	if !ok || found || code == impl.OK && used != steps || (code == impl.ErrSteps) != (steps > 20000) {
		t.Fatalf("%d steps: %q has %d, code %d", steps, text, used, code)
	}
	return patternOf(text)
}

func TestLimitsOfMatchingStatements(t *testing.T) {
	p := parsedProgram(t, " S P :S(END)\n OUTPUT = 'failed'\nEND\n")
	s := stringOf(strings.Repeat("x", 24))
	for _, steps := range []int64{19999, 20000, 20001, 20002} {
		m := newMemory(t)
		m.Scope = modelAssign(m.Scope, binding("ANCHOR", integerOf(1)), binding("S", s), binding("P", costly(t, s.Text, steps))).s
		x := impl.RunProgram(p, m, 10)
		want := []int64{1, 2, impl.OK}
		if steps > 20000 {
			want = []int64{0, 1, impl.ErrSteps}
		}
		checkList(t, fmt.Sprint(steps, " steps of matching"), []int64{x.At, x.Steps, x.Code}, want)
	}
	captures := parsedProgram(t, " S ARBNO(LEN(1) $ X) RPOS(0) :S(END)\n OUTPUT = 'failed'\nEND\n")
	for count, code := range map[int]int64{100: impl.OK, 101: impl.ErrFull} {
		m := newMemory(t)
		m.Scope = varsOf(binding("S", stringOf(strings.Repeat("x", count))))
		x := impl.RunProgram(captures, m, 10)
		checkList(t, fmt.Sprint(count, " captures"), []int64{x.At, x.Code}, []int64{0, code})
	}
}

func TestOutputLimits(t *testing.T) {
	p := parsedProgram(t, "L OUTPUT = N\n N = LT(N,150) N + 1 :S(L)\n")
	x := impl.RunProgram(p, newMemory(t), 4000)
	checkList(t, "OUTPUT", []int64{int64(len(x.Memory.Console.Output)), x.At, x.Steps, x.Code}, []int64{100, 0, 201, impl.ErrFull})
	p = parsedProgram(t, "L 'x' LEN(1) $ OUTPUT\n N = LT(N,150) N + 1 :S(L)\n")
	x = impl.RunProgram(p, newMemory(t), 4000)
	checkList(t, "captures", []int64{int64(len(x.Memory.Console.Output)), x.At, x.Steps, x.Code}, []int64{100, 0, 201, impl.ErrFull})
	p = parsedProgram(t, "L N = LT(N,39) N + 1 :F(M)\n T = TABLE(T) :(L)\nM T = TABLE(T)\n T = TABLE(T)\n")
	x = impl.RunProgram(p, newMemory(t), 4000)
	checkList(t, "objects", []int64{int64(len(x.Memory.Heap.Objects)), x.At, x.Code}, []int64{40, 3, impl.ErrFull})
}

func TestTraces(t *testing.T) {
	for _, c := range []struct{ source, trace string }{
		{" DEFINE('F(X)'); F(1) :(END);F F = X :(RETURN);END", ""},
		{" DEFINE('F(X)'); TRACE = 1; F(1) :(END);F F = X :(RETURN);END", `3: call F|3: return F = ""`},
		{" DEFINE('F(X)'); TRACE = 'x'; F(1) :F(G);G F(F(2)) :(END);F F = X :(FRETURN);END", "3: call F|3: fail F|4: call F|4: fail F"},
		{" DEFINE('F(X)'); TRACE = ARRAY(1); F(F(1)) F() :(END);F F = X :(RETURN);END", `3: call F|3: return F = ""|3: call F|3: return F = ""|3: call F|3: return F = ""`},
		{" DEFINE('F(X)'); TRACE = 1; OUTPUT = F(3) :(END);F F = LE(X,1) 1 :S(RETURN); F = F(X - 1) :(RETURN);END", `3: call F|5: call F|5: call F|5: return F = ""|5: return F = ""|3: return F = ""`},
		{" DEFINE('F(X)'); DEFINE('G(X)'); TRACE = 1; F(3) :(END);F F = G(X) :S(RETURN)F(FRETURN);G TRACE = 0 :(FRETURN);END", "4: call F|5: call G|5: fail G|4: fail F"},
		{" DEFINE('F(X)'); F(1); TRACE =; F(1) :(END);F TRACE = 1 :(RETURN);END", `2: return F = ""|4: return F = ""`},
		{" DEFINE('F(X)'); TRACE = 1; F(1) :(END);F TRACE = :(RETURN);END", "3: call F"},
		{" DEFINE('F(X)TRACE'); DEFINE('G(X)'); TRACE = 1; F(1) :(END);F G(X) :(RETURN);G X = 2 :(RETURN);END", `4: call F|4: return F = ""`},
		{" DEFINE('F(TRACE)'); DEFINE('G(X)'); F(1) F() :(END);F G(X) :(RETURN);G X = 2 :(RETURN);END", `4: call G|4: return G = ""`},
		{" DEFINE('F(X)TRACE'); DEFINE('G(X)'); F(1) :(END);F TRACE = 1; G(X) :(RETURN);G X = 2 :(FRETURN);END", "5: call G|5: fail G"},
		{" DEFINE('TRACE(X)'); OUTPUT = TRACE(5); TRACE = 1; OUTPUT = TRACE(5) TRACE :(END);TRACE TRACE = X :(RETURN);END", `4: call TRACE|4: return TRACE = ""`},
		{" DEFINE('F(X)'); TRACE = 1; F(1,2) :(END);F F = X :(RETURN);END", ""},
		{" DEFINE('F(X)'); TRACE = 1; F(1) :(END);F F = F(X) :(RETURN);END", "3: call F" + strings.Repeat("|4: call F", 11)},
		{" DEFINE('F(X)'); TRACE = 1; F(1) :(END)", "3: call F"},
		{" DEFINE('F(X)','END'); TRACE = 1; F(1);END", "3: call F"},
		{" DEFINE('F(X)'); TRACE = 1; F(1);F F = 1 / 0", "3: call F"},
		{" DEFINE('F(X)'); TRACE = 1; F(1);F F = 1 :(END)", "3: call F"},
		{" TRACE = 1; NONE(1)", ""},
		{" TRACE = 1; OUTPUT = SIZE('x'); X = 1 :(L);L END", ""},
		{" DEFINE('F(X)'); TRACE = 1; S = 'ab'; S F('b') = F('c') :(END);F F = X :(RETURN);END", `4: call F|4: return F = ""|4: call F|4: return F = ""`},
	} {
		p := parsedProgram(t, c.source+"\n")
		x := impl.RunProgram(p, newMemory(t), 4000)
		checkEqual(t, c.source, strings.Join(x.Memory.Console.Trace, "|"), c.trace)
		checkRun(t, c.source, programRun(x), modelRun(p, newMemory(t), 4000, 0))
	}
}

func TestFullTrace(t *testing.T) {
	p := parsedProgram(t, " DEFINE('F(X)'); TRACE = 1; OUTPUT = F(3) :(END);F F = X :(RETURN);END\n")
	for _, count := range []int{0, 197, 198, 199, 200} {
		m := newMemory(t)
		m.Console.Trace = slices.Repeat([]string{"old"}, count)
		x := impl.RunProgram(p, m, 4000)
		want := append(m.Console.Trace, "3: call F", `3: return F = ""`)[:min(count+2, 200)]
		checkList(t, fmt.Sprint(count, " lines"), x.Memory.Console.Trace, want)
		checkList(t, fmt.Sprint(count, " lines"), x.Memory.Console.Output, []string{"3"})
		checkEqual(t, fmt.Sprint(count, " lines"), x.Code, impl.OK)
	}
}

// called returns a memory with the functions of a program, and a program with their bodies.
func called(t *testing.T) (impl.Program, impl.Memory) {
	t.Helper()
	p := parsedProgram(t, " DEFINE('F(X)'); DEFINE('G(X,Y)A'); DEFINE('E()','END'); DEFINE('N()','NONE') :(END);F F = LE(X,0) 0 :S(RETURN); F = X + F(X - 1) :(RETURN);G X = F(X) :F(FRETURN); OUTPUT = X; A = INPUT :F(FRETURN); G = A X Y :(RETURN);END OUTPUT = 'end' :(F)\n")
	x := impl.RunProgram(p, newMemory(t, "line", "more"), 10)
	checkEqual(t, "defined", x.Code, impl.OK)
	x.Memory.Scope = modelAssign(x.Memory.Scope, binding("X", integerOf(70)), binding("TRACE", integerOf(1))).s
	return p, x.Memory
}

func TestEvaluateIn(t *testing.T) {
	p, m := called(t)
	for _, c := range []struct {
		text  string
		want  any
		steps int64
		trace int
	}{
		{"1 + 2", integerOf(3), 0, 0}, {"F(2)", integerOf(3), 5, 4}, {"F(2) + F(0) + X", integerOf(73), 6, 4}, {"G(1,'z')", stringOf("line1z"), 7, 4}, {"G(1) G(2)", stringOf("line1more3"), 16, 10}, {"G(1) G(2) G(3)", failing, 26, 18},
		{"EQ(1,2) F(1)", failing, 0, 0}, {"F(1) EQ(1,2) F(2)", failing, 3, 2}, {"INPUT INPUT INPUT", failing, 0, 0}, {"F(F(2))", integerOf(6), 12, 10}, {"SIZE(F(4))", integerOf(2), 9, 8},
		{"F(1,2)", int64(impl.ErrRange), 0, 0}, {"F('x')", int64(impl.ErrType), 0, 0}, {"E()", int64(impl.ErrState), 0, 0}, {"N()", int64(impl.ErrUndefined), 0, 0}, {"F(1) N()", int64(impl.ErrUndefined), 0, 0}, {"NONE()", int64(impl.ErrUndefined), 0, 0}, {"F(13)", int64(impl.ErrStack), 0, 0}, {"1 / 0", int64(impl.ErrDivision), 0, 0},
	} {
		e := parsedExpr(t, c.text)
		got := evaluatedRun(impl.EvaluateIn(p, m, e, 100))
		checkRun(t, c.text, got, modelEvaluateIn(p, m, e, 100))
		checkEqual(t, c.text+": steps", got.steps, c.steps)
		switch x := c.want.(type) {
		case impl.Value:
			checkEqual(t, c.text, got.v, x)
			checkEqual(t, c.text, got.succeeds && got.code == impl.OK, true)
		case string:
			checkEqual(t, c.text, !got.succeeds && got.code == impl.OK && got.v == impl.Value{}, true)
		case int64:
			checkRun(t, c.text, got, runResult{code: x})
			continue
		}
		checkEqual(t, c.text+": trace", len(got.m.Console.Trace), c.trace)
		if c.steps > 0 {
			checkRun(t, c.text+" with enough fuel", evaluatedRun(impl.EvaluateIn(p, m, e, c.steps)), got)
			checkRun(t, c.text+" with one less", evaluatedRun(impl.EvaluateIn(p, m, e, c.steps-1)), runResult{code: impl.ErrSteps})
		} else {
			checkRun(t, c.text+" without fuel", evaluatedRun(impl.EvaluateIn(p, m, e, 0)), got)
		}
	}
	for _, x := range []impl.Expr{parsedExpr(t, "1 + 2"), parsedExpr(t, "INPUT"), parsedExpr(t, "SIZE('x')"), parsedExpr(t, "F(1)"), parsedExpr(t, "NONE()")} {
		got := evaluatedRun(impl.EvaluateIn(impl.Program{}, exampleMemory(), x, 0))
		checkRun(t, "no program", got, modelEvaluateIn(impl.Program{}, exampleMemory(), x, 0))
	}
}

func TestCallProgram(t *testing.T) {
	p, m := called(t)
	for _, c := range []struct {
		name  string
		args  []impl.Value
		want  any
		steps int64
	}{
		{"F", valuesOf(2), integerOf(3), 5}, {"F", nil, integerOf(0), 1}, {"G", valuesOf(2, "z"), stringOf("line3z"), 9}, {"G", valuesOf("", "z"), stringOf("line0z"), 5}, {"F", valuesOf("3"), integerOf(6), 7},
		{"F", valuesOf(1, 2), int64(impl.ErrRange), 0}, {"F", slices.Repeat(valuesOf("x"), 100000), int64(impl.ErrRange), 0}, {"F", valuesOf("x"), int64(impl.ErrType), 0}, {"E", nil, int64(impl.ErrState), 0}, {"E", valuesOf(1), int64(impl.ErrRange), 0}, {"N", nil, int64(impl.ErrUndefined), 0},
		{"NONE", nil, int64(impl.ErrUndefined), 0}, {"NONE", valuesOf(1), int64(impl.ErrUndefined), 0}, {"SIZE", valuesOf("x"), int64(impl.ErrUndefined), 0}, {"DEFINE", valuesOf("H(X)"), int64(impl.ErrUndefined), 0}, {"f", nil, int64(impl.ErrUndefined), 0},
	} {
		what := fmt.Sprintf("%s of %.60q", c.name, fmt.Sprint(c.args))
		got := evaluatedRun(impl.CallProgram(p, m, c.name, c.args, 100))
		checkRun(t, what, got, modelCallProgram(p, m, c.name, c.args, 100))
		checkEqual(t, what+": steps", got.steps, c.steps)
		switch x := c.want.(type) {
		case impl.Value:
			checkEqual(t, what, got.v, x)
			checkRun(t, what+" with enough fuel", evaluatedRun(impl.CallProgram(p, m, c.name, c.args, c.steps)), got)
			checkRun(t, what+" with one less", evaluatedRun(impl.CallProgram(p, m, c.name, c.args, c.steps-1)), runResult{code: impl.ErrSteps})
		case int64:
			checkRun(t, what, got, runResult{code: x})
		}
	}
	empty := copyMemory(m)
	empty.Console.At = 2
	got := evaluatedRun(impl.CallProgram(p, empty, "G", valuesOf(1), 100))
	checkRun(t, "a call that fails", got, modelCallProgram(p, empty, "G", valuesOf(1), 100))
	checkEqual(t, "a call that fails", !got.succeeds && got.code == impl.OK && got.steps == 6, true)
	checkList(t, "its output", got.m.Console.Output, []string{"1"})
	checkList(t, "its trace", got.m.Console.Trace, []string{"7: call F", "6: call F", `6: return F = ""`, `7: return F = ""`})
}

func TestRunStatement(t *testing.T) {
	p, m := called(t)
	for at, want := range [][]int64{{1, 1}, {2, 1}, {3, 1}, {-1, 1}, {5, 1}, {-2, 146}, {7, 147}, {8, 1}, {9, 1}, {-2, 1}, {4, 1}} {
		got := statementRun(impl.RunStatement(p, m, int64(at), 4000))
		checkRun(t, fmt.Sprint("statement ", at), got, modelRunStatement(p, m, at, 4000))
		if at == 5 || at == 6 {
			checkRun(t, fmt.Sprint("statement ", at), got, runResult{code: impl.ErrStack})
			continue
		}
		checkList(t, fmt.Sprint("statement ", at), []int64{got.next, got.steps, got.code}, append(want, impl.OK))
		checkEqual(t, fmt.Sprint("statement ", at), got.succeeds, at != 4)
		checkRun(t, "without fuel", statementRun(impl.RunStatement(p, m, int64(at), 0)), runResult{code: impl.ErrSteps})
	}
	for _, at := range []int64{math.MinInt64, -3, -2, -1, 11, 12, 1 << 32, math.MaxInt64} {
		checkRun(t, fmt.Sprint("statement ", at), statementRun(impl.RunStatement(p, m, at, 100)), runResult{code: impl.ErrRange})
	}
	checkRun(t, "no statements", statementRun(impl.RunStatement(impl.Program{}, m, 0, 100)), runResult{code: impl.ErrRange})
	small := parsedProgram(t, " X = 2 :(NONE)\n X = 1 / 0\n F(2)\n F(3,4) :(RETURN)\nF F = X :(RETURN)\n EQ(1,2) :F(FRETURN)\n")
	for at, code := range []int64{impl.ErrUndefined, impl.ErrDivision, impl.OK, impl.ErrRange, impl.OK, impl.OK} {
		got := statementRun(impl.RunStatement(small, m, int64(at), 2))
		checkRun(t, fmt.Sprint("statement ", at), got, modelRunStatement(small, m, at, 2))
		checkEqual(t, fmt.Sprint("statement ", at), got.code, code)
	}
	checkRun(t, "a call with one step less", statementRun(impl.RunStatement(small, m, 2, 1)), runResult{code: impl.ErrSteps})
}

// checkRunError checks what the functions of chapter 20 return that have a program and a memory.
func checkRunError(t *testing.T, what string, p impl.Program, m impl.Memory, code int64) {
	t.Helper()
	want := runResult{code: code}
	for _, fuel := range []int64{100, -1, 4001} {
		checkRun(t, what+": RunProgram", programRun(impl.RunProgram(p, m, fuel)), want)
		for _, every := range []int64{1, 0, -1} {
			checkRun(t, what+": RunCollecting", programRun(impl.RunCollecting(p, m, fuel, every)), want)
		}
		for _, at := range []int64{0, -1, 99} {
			checkRun(t, what+": RunStatement", statementRun(impl.RunStatement(p, m, at, fuel)), want)
		}
		for _, e := range []impl.Expr{number(1), call("F"), {}} {
			checkRun(t, what+": EvaluateIn", evaluatedRun(impl.EvaluateIn(p, m, e, fuel)), want)
		}
		for _, name := range []string{"F", "NONE", "1"} {
			checkRun(t, what+": CallProgram", evaluatedRun(impl.CallProgram(p, m, name, nil, fuel)), want)
		}
	}
}

func TestInvalidRuns(t *testing.T) {
	p, m := called(t)
	for _, c := range invalidPrograms() {
		checkRunError(t, c.what, c.p, m, impl.ErrInvalid)
	}
	for _, c := range invalidMemories() {
		checkRunError(t, c.what, p, c.m, impl.ErrInvalid)
		collected, code := impl.CollectMemory(c.m)
		checkRun(t, c.what+": CollectMemory", runResult{m: collected, code: code}, runResult{code: impl.ErrInvalid})
		checkEqual(t, c.what+": AlikeMemory", impl.AlikeMemory(c.m, c.m) || impl.AlikeMemory(c.m, m) || impl.AlikeMemory(m, c.m), false)
	}
	for _, fuel := range []int64{100, -1, math.MaxInt64} {
		for i, e := range invalidExprs() {
			checkRun(t, fmt.Sprint("expression ", i), evaluatedRun(impl.EvaluateIn(p, m, e, fuel)), runResult{code: impl.ErrInvalid})
		}
		for _, name := range noNames() {
			checkRun(t, fmt.Sprintf("%.20q", name), evaluatedRun(impl.CallProgram(p, m, name, nil, fuel)), runResult{code: impl.ErrInvalid})
		}
		for _, v := range append(invalidValues(), arrayRef(1), tableRef(7)) {
			for _, name := range []string{"F", "NONE", "1"} {
				checkRun(t, fmt.Sprintf("%.40q", fmt.Sprint(v)), evaluatedRun(impl.CallProgram(p, m, name, []impl.Value{integerOf(1), v}, fuel)), runResult{code: impl.ErrInvalid})
			}
		}
	}
}

func TestPatternsOfTheMemory(t *testing.T) {
	m := newMemory(t)
	m.Scope = varsOf(binding("B", patternOf("bad")), binding("S", stringOf("x")))
	for source, want := range map[string][]int64{
		" 'x' B :S(END)":            {0, 1, impl.ErrInvalid},
		" 'x' *B :S(END)":           {0, 1, impl.ErrUndefined},
		" S B = 'y'":                {0, 1, impl.ErrInvalid},
		" X = B; S = B; Y = B . X":  {2, 3, impl.ErrInvalid},
		" B 'x'":                    {0, 1, impl.ErrType},
		" ARRAY(1) B":               {0, 1, impl.ErrType},
		" X = ARRAY(1); X B = 'y'":  {1, 2, impl.ErrType},
		" X = B | 'x'":              {0, 1, impl.ErrInvalid},
		" 'x' 'x' :F(END); 'y' B B": {1, 2, impl.ErrInvalid},
	} {
		p := parsedProgram(t, source+"\n")
		x := impl.RunProgram(p, m, 100)
		checkList(t, source, []int64{x.At, x.Steps, x.Code}, want)
		checkRun(t, source, programRun(x), modelRun(p, m, 100, 0))
	}
}

func TestNewMemory(t *testing.T) {
	long := strings.Repeat("x", 200)
	for _, input := range [][]string{nil, {}, {""}, {"a", "\xff\n", ""}, {long}, slices.Repeat([]string{long}, 100)} {
		m, ok := impl.NewMemory(input)
		checkEqual(t, "a memory", ok, true)
		checkEval(t, fmt.Sprintf("%.40q", input), evalResult{m: m}, evalResult{m: impl.Memory{Console: impl.Console{Input: input}}})
	}
	for _, input := range [][]string{{long + "x"}, {"", long + "x"}, slices.Repeat([]string{""}, 101), make([]string, 500000)} {
		m, ok := impl.NewMemory(input)
		checkEqual(t, "a memory", ok, false)
		checkEval(t, fmt.Sprintf("%.40q", input), evalResult{m: m}, evalResult{})
	}
}

func TestOutputOf(t *testing.T) {
	for _, c := range []struct {
		source string
		input  []string
		fuel   int64
		want   []string
		code   int64
	}{
		{factorial, nil, 13, []string{"720"}, impl.OK},
		{factorial, nil, 12, nil, impl.ErrSteps},
		{"", nil, 0, nil, impl.OK},
		{"END\n", nil, 0, nil, impl.OK},
		{" OUTPUT = INPUT\n OUTPUT = 'b'\n OUTPUT = 1 / 0\n OUTPUT = 'c'\n", []string{"a"}, 100, []string{"a", "b"}, impl.ErrDivision},
		{" OUTPUT = 1 :(RETURN)\n", nil, 100, []string{"1"}, impl.ErrState},
		{" OUTPUT = 1\n OUTPUT = 2\n", nil, 1, []string{"1"}, impl.ErrSteps},
		{" OUTPUT = 1\n", nil, 0, nil, impl.ErrSteps},
		{"* a comment\n OUTPUT =\n+ 'x' ; OUTPUT = 2\n", nil, 100, []string{"x", "2"}, impl.OK},
		{" OUTPUT = 1\n", nil, -1, nil, impl.ErrRange},
		{" OUTPUT = 1\n", nil, 4001, nil, impl.ErrRange},
		{" OUTPUT = \n A =B\n", nil, 100, nil, impl.ErrSyntax},
		{" OUTPUT = 1\nL A;L B\n", nil, 100, nil, impl.ErrState},
		{" OUTPUT = '\xff'\n", nil, 100, nil, impl.ErrInvalid},
		{strings.Repeat(" A\n", 81), nil, 100, nil, impl.ErrFull},
		{" A =B\n", make([]string, 101), -1, nil, impl.ErrSyntax},
		{" OUTPUT = 1\n", make([]string, 101), 100, nil, impl.ErrInvalid},
		{" OUTPUT = 1\n", make([]string, 101), -1, nil, impl.ErrInvalid},
		{" OUTPUT = 1\n", []string{strings.Repeat("x", 201)}, 100, nil, impl.ErrInvalid},
		{"L OUTPUT = INPUT :S(L)\n", slices.Repeat([]string{"y"}, 100), 4000, slices.Repeat([]string{"y"}, 100), impl.OK},
	} {
		output, code := impl.OutputOf(c.source, c.input, c.fuel)
		checkList(t, fmt.Sprintf("%.60q: output", c.source), output, c.want)
		checkEqual(t, fmt.Sprintf("%.60q: code", c.source), code, c.code)
	}
}

func TestCollectMemory(t *testing.T) {
	for _, c := range validMemories() {
		collected, code := impl.CollectMemory(c.m)
		want := copyMemory(c.m)
		var roots []impl.Value
		for _, b := range c.m.Scope.Vars {
			roots = append(roots, b.Value)
		}
		h, moved, _ := impl.Collect(c.m.Heap, roots)
		want.Heap = h
		for i, v := range moved {
			want.Scope.Vars[i].Value = v
		}
		checkRun(t, c.what, runResult{m: collected, code: code}, runResult{m: want})
		again, code := impl.CollectMemory(collected)
		checkRun(t, c.what+", again", runResult{m: again, code: code}, runResult{m: want})
		checkEqual(t, c.what+": alike", impl.AlikeMemory(c.m, collected) && impl.AlikeMemory(collected, c.m), true)
	}
	m := impl.Memory{
		Heap:    heapWith(9, arrayWith(2), tableWith(4, arrayRef(7), arrayRef(7), integerOf(1)), arrayWith(7, tableRef(4)), arrayWith(9)),
		Scope:   impl.Scope{Vars: []impl.Binding{binding("A", arrayRef(9)), binding("B", tableRef(4)), binding("C", arrayRef(7)), binding("D", integerOf(7))}, Functions: []impl.Function{function("F", "F", nil, nil)}},
		Console: impl.Console{Input: []string{"x"}, Trace: []string{"t"}},
	}
	collected, code := impl.CollectMemory(m)
	want := copyMemory(m)
	want.Heap = heapWith(3, arrayWith(1), tableWith(2, arrayRef(3), arrayRef(3), integerOf(1)), arrayWith(3, tableRef(2)))
	want.Scope.Vars = []impl.Binding{binding("A", arrayRef(1)), binding("B", tableRef(2)), binding("C", arrayRef(3)), binding("D", integerOf(7))}
	checkRun(t, "an example", runResult{m: collected, code: code}, runResult{m: want})
}

func TestAlikeMemory(t *testing.T) {
	base := impl.Memory{
		Heap:    heapWith(5, arrayWith(1, integerOf(1)), tableWith(3, stringOf(""), integerOf(1), arrayRef(1)), arrayWith(5)),
		Scope:   impl.Scope{Vars: []impl.Binding{binding("A", tableRef(3)), binding("B", integerOf(7)), binding("C", arrayRef(5))}, Functions: []impl.Function{function("F", "F", []string{"X"}, nil)}, Types: []impl.RecordType{recordType("R", "A")}},
		Console: exampleConsole(),
	}
	renumbered := copyMemory(base)
	renumbered.Heap = heapWith(12, arrayWith(2), tableWith(4, stringOf(""), integerOf(1), arrayRef(9)), arrayWith(7, tableRef(4)), arrayWith(9, integerOf(1)))
	renumbered.Scope.Vars[0].Value, renumbered.Scope.Vars[2].Value = tableRef(4), arrayRef(2)
	alike := []impl.Memory{base, copyMemory(base), renumbered}
	for i, a := range alike {
		for k, b := range alike {
			checkEqual(t, fmt.Sprintf("the memories %d and %d", i, k), impl.AlikeMemory(a, b), true)
		}
	}
	for what, change := range map[string]func(m *impl.Memory){
		"another element":         func(m *impl.Memory) { m.Heap.Objects[3].Vals[0] = integerOf(2) },
		"another key":             func(m *impl.Memory) { m.Heap.Objects[1].Keys[0] = integerOf(2) },
		"another default":         func(m *impl.Memory) { m.Heap.Objects[1].Default = integerOf(2) },
		"another object":          func(m *impl.Memory) { m.Scope.Vars[2].Value = arrayRef(9) },
		"the same object twice":   func(m *impl.Memory) { m.Heap.Objects[1].Vals[0] = arrayRef(2) },
		"another value":           func(m *impl.Memory) { m.Scope.Vars[1].Value = integerOf(8) },
		"another kind of value":   func(m *impl.Memory) { m.Scope.Vars[1].Value = stringOf("7") },
		"an object for a value":   func(m *impl.Memory) { m.Scope.Vars[1].Value = arrayRef(2) },
		"another name":            func(m *impl.Memory) { m.Scope.Vars[1].Name = "BB" },
		"a variable more":         func(m *impl.Memory) { m.Scope.Vars = append(m.Scope.Vars, binding("D", integerOf(1))) },
		"a variable less":         func(m *impl.Memory) { m.Scope.Vars = m.Scope.Vars[:2] },
		"another function":        func(m *impl.Memory) { m.Scope.Functions[0].Label = "G" },
		"no function":             func(m *impl.Memory) { m.Scope.Functions = nil },
		"another type":            func(m *impl.Memory) { m.Scope.Types[0].Fields[0] = "B" },
		"another input":           func(m *impl.Memory) { m.Console.Input[0] = "x" },
		"more input that is read": func(m *impl.Memory) { m.Console.At++ },
		"another output":          func(m *impl.Memory) { m.Console.Output[0] = "x" },
		"another file":            func(m *impl.Memory) { m.Console.Files[0].Lines[0] = "x" },
		"another trace":           func(m *impl.Memory) { m.Console.Trace = m.Console.Trace[1:] },
		"an invalid heap":         func(m *impl.Memory) { m.Heap.Next = 8 },
		"an invalid scope":        func(m *impl.Memory) { m.Scope.Functions[0].Label = "" },
		"an invalid console":      func(m *impl.Memory) { m.Console.At = 4 },
		"a value that fits not":   func(m *impl.Memory) { m.Scope.Vars[1].Value = arrayRef(1) },
	} {
		m := copyMemory(renumbered)
		change(&m)
		checkEqual(t, what, impl.AlikeMemory(base, m) || impl.AlikeMemory(m, base), false)
	}
	invalid := copyMemory(base)
	invalid.Scope.Vars[1].Value = arrayRef(2)
	checkEqual(t, "an invalid memory and itself", impl.AlikeMemory(invalid, invalid), false)
}

func TestRunCollecting(t *testing.T) {
	// Each statement but the last two makes the object of the one before it garbage.
	p := parsedProgram(t, " A = ARRAY(1)\n A = ARRAY(2)\n A = ARRAY(3)\n A = ARRAY(4)\n EQ(1,2)\n A = ARRAY(5)\n A = 1 / 0\n")
	m := newMemory(t)
	for every, count := range map[int64]int{1: 1, 2: 1, 3: 1, 4: 2, 5: 2, 6: 1, 7: 5, 8: 5, 4000: 5, math.MaxInt64: 5} {
		x := impl.RunCollecting(p, m, 100, every)
		checkList(t, fmt.Sprint("every ", every), []int64{x.At, x.Steps, x.Code, int64(len(x.Memory.Heap.Objects))}, []int64{6, 7, impl.ErrDivision, int64(count)})
		checkRun(t, fmt.Sprint("every ", every), programRun(x), modelRun(p, m, 100, every))
	}
	for _, every := range []int64{0, -1, math.MinInt64} {
		checkRun(t, fmt.Sprint("every ", every), programRun(impl.RunCollecting(p, m, 100, every)), runResult{code: impl.ErrRange})
	}
	for _, every := range []int64{1, 2, 3} {
		x := impl.RunCollecting(parsedProgram(t, " A = ARRAY(1)\n B = ARRAY(2)\n A =\n B = TABLE() :(END)\nEND\n"), m, 3, every)
		checkEqual(t, "without fuel for the last statement", len(x.Memory.Heap.Objects), map[int64]int{1: 1, 2: 2, 3: 1}[every])
		x = impl.RunCollecting(parsedProgram(t, " A = ARRAY(1)\n A = ARRAY(2)\n A = ARRAY(3)\n"), m, 100, every)
		checkEqual(t, fmt.Sprint("the last statement, every ", every), len(x.Memory.Heap.Objects), map[int64]int{1: 1, 2: 2, 3: 1}[every])
		x = impl.RunCollecting(parsedProgram(t, " A = ARRAY(1)\n A = ARRAY(2)\n A = ARRAY(3) :(NONE)\n"), m, 100, every)
		checkEqual(t, fmt.Sprint("an undefined label, every ", every), len(x.Memory.Heap.Objects), map[int64]int{1: 2, 2: 2, 3: 3}[every])
		x = impl.RunCollecting(parsedProgram(t, " A = ARRAY(1)\n A = ARRAY(2)\n A = ARRAY(3) :(RETURN)\n"), m, 100, every)
		checkEqual(t, fmt.Sprint("a return, every ", every), len(x.Memory.Heap.Objects), map[int64]int{1: 1, 2: 2, 3: 1}[every])
		checkEqual(t, "a return", x.Code, impl.ErrState)
	}
}

// TestCollectingInCalls checks that statements in calls neither count nor collect.
func TestCollectingInCalls(t *testing.T) {
	p := parsedProgram(t, " DEFINE('F(X)Y')\n A = F(2)\n A = F(1)\n A = 5 :(END)\nF Y = ARRAY(X)\n Y = TABLE()\n Y<X> = Y\n F = Y :(RETURN)\nEND\n")
	m := newMemory(t)
	for every, count := range map[int64]int{1: 0, 2: 0, 3: 1, 4: 0, 5: 4} {
		x := impl.RunCollecting(p, m, 100, every)
		checkList(t, fmt.Sprint("every ", every), []int64{x.At, x.Steps, x.Code, int64(len(x.Memory.Heap.Objects))}, []int64{3, 12, impl.OK, int64(count)})
		checkRun(t, fmt.Sprint("every ", every), programRun(x), modelRun(p, m, 100, every))
	}
	// With collections, a program can create more objects than there can be at a time.
	many := parsedProgram(t, "L A = TABLE()\n N = LT(N,200) N + 1 :S(L)\n OUTPUT = N\n")
	checkEqual(t, "without collections", impl.RunProgram(many, m, 4000).Code, impl.ErrFull)
	checkList(t, "with collections", impl.RunCollecting(many, m, 4000, 7).Memory.Console.Output, []string{"200"})
}

// TestTraceOfTheFirstStatement checks that the first statement has a number, and that an expression outside of statements has none.
func TestTraceOfTheFirstStatement(t *testing.T) {
	p := parsedProgram(t, " X = F(1) :(END)\nF F = X :(RETURN)\n")
	m := newMemory(t)
	m.Scope = modelDefineFunction(varsOf(binding("TRACE", integerOf(1))), "F(X)", "").s
	x := impl.RunProgram(p, m, 10)
	checkList(t, "the program", x.Memory.Console.Trace, []string{"1: call F", `1: return F = ""`})
	after, _, _, _, _ := impl.RunStatement(p, m, 0, 10)
	checkList(t, "the statement", after.Console.Trace, []string{"1: call F", `1: return F = ""`})
	after, _, _, _, _ = impl.EvaluateIn(p, m, call("F", number(1)), 10)
	checkList(t, "the expression", after.Console.Trace, nil)
	after, _, _, _, _ = impl.CallProgram(p, m, "F", nil, 10)
	checkList(t, "the call", after.Console.Trace, nil)
}
