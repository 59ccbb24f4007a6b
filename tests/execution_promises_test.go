package tests

import (
	"fmt"
	"math/rand"
	"slices"
	"strings"
	"testing"

	"loop.example/g00873/impl"
)

// The tests of this file are the promises 26, 27 and 28.

// programSource makes random programs.
type programSource struct {
	*rand.Rand
}

func newProgramSource(seed int64) programSource {
	return programSource{rand.New(rand.NewSource(seed))}
}

func (s programSource) oneOf(list ...string) string {
	return list[s.Intn(len(list))]
}

// numeral returns an expression whose value is a number in most cases.
func (s programSource) numeral(depth int) string {
	if depth == 0 || s.Intn(3) == 0 {
		return s.oneOf("I", "J", "N", "0", "1", "2", "7", "'3'", "L<1>", "L<I>", "T<'k'>", "SIZE(S)")
	}
	a, b := s.numeral(depth-1), s.numeral(depth-1)
	return s.oneOf("("+a+" + "+b+")", "("+a+" - "+b+")", "("+a+" * "+b+")", "F("+a+")", "G("+a+","+b+")", "-"+a, "(LT("+a+","+b+") "+a+")", "H()", "LENGTH(L)")
}

// text returns an expression whose value is a string in most cases.
func (s programSource) text(depth int) string {
	if depth == 0 || s.Intn(3) == 0 {
		return s.oneOf("S", "W", "V", "'ab'", "'cab'", "''", "INPUT", "I", "T<I>", "T<S>", "$'S'", "$.W", "DUPL('ab',I)")
	}
	a, b := s.text(depth-1), s.text(depth-1)
	return s.oneOf("("+a+" "+b+")", "REVERSE("+a+")", "F("+a+")", "G("+a+")", "("+a+" "+s.numeral(depth-1)+")", "TRIM("+a+")", "HEAD(R)", "K("+a+")", "(IDENT("+a+","+b+") "+a+")")
}

// pattern returns an expression whose value is a pattern in most cases.
func (s programSource) pattern(depth int) string {
	if depth == 0 || s.Intn(3) == 0 {
		return s.oneOf("P", "'a'", "'b'", "SPAN('ab')", "LEN(1)", "ARB", "REM", "BAL", "*P", "*S", "@I", "BREAK('b')", "ANY(S)", "POS(0)", "RPOS(0)", "FENCE", "TAB(N)", "FAIL", "S", "I")
	}
	a, b := s.pattern(depth-1), s.pattern(depth-1)
	return s.oneOf("("+a+" "+b+")", "("+a+" | "+b+")", "("+a+" . W)", "("+a+" $ V)", "("+a+" . OUTPUT)", "ARBNO("+a+")", "("+a+" @N)", "("+a+" $ OUTPUT "+b+")")
}

// target returns an expression to which a value can be assigned in most cases.
func (s programSource) target() string {
	return s.oneOf("S", "S", "W", "I", "I", "J", "N", "V", "P", "OUTPUT", "OUTPUT", "T<I>", "T<S>", "L<1>", "L<I>", "L<F(I)>", "HEAD(R)", "TAIL(R)", "$'S'", "$V", "$('S' 'S')", "TRACE", "ANCHOR", "T<INPUT>", "R", "SS")
}

// object returns an expression that creates or finds an object.
func (s programSource) object() string {
	return s.oneOf("ARRAY(3,I)", "ARRAY(4,L)", "TABLE()", "TABLE(T)", "NODE(S,R)", "NODE(L,T)", "COPY(L)", "COPY(R)", "TAIL(R)", "HEAD(R)", "L", "T", "R", "L<2>", "T<S>", "ITEM(T,1)", "KEY(T,2)", "K(R)")
}

func (s programSource) goTo() string {
	label := s.oneOf("L1", "L2", "L3", "L4", "L5", "L6")
	return s.oneOf("", "", "", "", "", "", ":("+label+")", ":S("+label+")", ":F("+label+")", ":S("+label+")F(L6)", ":F(END)")
}

// statement returns a statement with parts of all sorts.
func (s programSource) statement() string {
	var body string
	switch s.Intn(12) {
	case 0:
		body = "(" + s.text(2) + ")"
	case 1, 2:
		body = s.target() + " = " + s.text(2)
	case 3, 4:
		body = s.oneOf("I", "J", "N", "OUTPUT", "L<I>", "T<I>", s.target()) + " = " + s.numeral(2)
	case 5, 6:
		body = "(" + s.text(1) + ") " + s.pattern(2)
	case 7, 8:
		body = s.target() + " " + s.pattern(2) + " = " + s.text(1)
	case 9:
		body = "P = " + s.pattern(2)
	case 10:
		body = s.oneOf("L", "T", "R", "L<2>", "T<S>", "TAIL(R)", "V", "T<R>") + " = " + s.object()
	default:
		body = s.oneOf("", "S = INPUT", "DEFINE('F(I)J')", "DEFINE('G(N,S)','F')", "DEFINE('K(S)','K2')", "DATA('NODE(HEAD,TAIL)')", "OUTPUT = I", "OUTPUT = S", "TRACE = 1", "TRACE =", "ANCHOR = 1", "ANCHOR =")
		if body == "" {
			return " :(" + s.oneOf("L1", "L2", "L3", "L4", "L5", "L6", "END", "NONE", "RETURN") + ")"
		}
	}
	return " " + body + " " + s.goTo()
}

// source returns a source text with functions that call each other, objects, and statements of all sorts.
func (s programSource) source() string {
	lines := []string{
		" DEFINE('F(I)J')", " DEFINE('G(N,S)W','G1')", " DEFINE('H()I')", " DEFINE('K(K)','K1')", " DATA('NODE(HEAD,TAIL)')",
		" L = ARRAY(3,1)", " T = TABLE()", " R = NODE('ab',L)", " S = 'cabab'", " I = 2",
	}
	for i := range 12 {
		label := ""
		if i%2 == 0 {
			label = fmt.Sprint("L", i/2+1)
		}
		lines = append(lines, label+s.statement())
	}
	lines = append(lines, " :(END)")
	bodies := [][]string{
		{"F F = LT(I,3) I + 1 :S(RETURN)", " I = I - 1", " J = F(I) :F(FRETURN)", " F = J :(RETURN)"},
		{"G1 W = S :F(FRETURN)", " S 'b' = :F(RETURN)", " G = G(N) N :(RETURN)"},
		{"H I = LT(I,5) I + 1 :S(H)", " H = I :(RETURN)"},
		{"K1 K = K :(RETURN)"},
		{"K2 S LEN(1) . K :S(RETURN)F(FRETURN)"},
	}
	for _, body := range bodies {
		if s.Intn(3) == 0 {
			body[s.Intn(len(body))] += ";" + s.statement()
		}
		lines = append(lines, body...)
	}
	return strings.Join(append(lines, "END"), "\n") + "\n"
}

// program returns a random program and the memory in which it begins.
func (s programSource) program(t *testing.T) (impl.Program, impl.Memory) {
	t.Helper()
	var input []string
	for range s.Intn(5) {
		input = append(input, s.oneOf("", "ab", "cab", "7", "S", "k", "bab ba"))
	}
	m, _ := impl.NewMemory(input)
	for {
		if p, _, code := impl.ParseProgram(s.source()); code == impl.OK {
			return p, m
		}
	}
}

// TestRandomProgramsAgainstModel compares runs, and those that are collected, with the model.
func TestRandomProgramsAgainstModel(t *testing.T) {
	t.Parallel()
	s := newProgramSource(201)
	codes := map[int64]int{}
	for range 1500 {
		p, m := s.program(t)
		fuel := []int64{400, 400, 400, int64(s.Intn(60))}[s.Intn(4)]
		want := modelRun(p, m, fuel, 0)
		codes[want.code]++
		what := fmt.Sprintf("fuel %d: %s", fuel, impl.PrintProgram(p))
		checkRun(t, what, programRun(impl.RunProgram(p, m, fuel)), want)
		every := int64(1 + s.Intn(7))
		checkRun(t, fmt.Sprint("every ", every, ": ", what), programRun(impl.RunCollecting(p, m, fuel, every)), modelRun(p, m, fuel, every))
		if t.Failed() {
			return
		}
	}
	t.Log(codes)
}

var _ = slices.Sort[[]int]
