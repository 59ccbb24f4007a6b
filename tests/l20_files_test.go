package tests

import (
	"fmt"
	"slices"
	"strings"
	"testing"

	"loop.example/g00873/impl"
)

// The tests of this file are for programs that use files.

// numberingLines is the program of the catalogue that uses files.
const numberingLines = `* writes a file, and a second one with numbered lines
 OPEN('NOTES','W')
READ LINE = INPUT :F(COPY)
 PUT('NOTES',LINE) :(READ)
COPY CLOSE('NOTES')
 OPEN('NOTES','R')
 OPEN('LIST','W')
NEXT LINE = GET('NOTES') :F(DONE)
 N = N + 1
 PUT('LIST',LPAD(N,3) ' ' LINE) :(NEXT)
DONE CLOSE('LIST')
 CLOSE('NOTES')
 OPEN('LIST','R')
SHOW OUTPUT = GET('LIST') :S(SHOW)
END
`

func TestNumberingLines(t *testing.T) {
	output, code := impl.OutputOf(numberingLines, []string{"first", "second"}, 4000)
	checkList(t, "output", output, []string{"  1 first", "  2 second"})
	checkEqual(t, "code", code, impl.OK)
	p := parsedProgram(t, numberingLines)
	for count := range 42 {
		var input, lines, numbered []string
		for i := range count {
			input = append(input, fmt.Sprint("line ", i))
		}
		m := newMemory(t, input...)
		x := impl.RunProgram(p, m, 4000)
		checkRun(t, fmt.Sprint(count, " lines"), programRun(x), modelRun(p, m, 4000, 0))
		for i, line := range input[:min(count, 40)] {
			lines, numbered = append(lines, line), append(numbered, fmt.Sprintf("%3d %s", i+1, line))
		}
		if count > 40 {
			checkList(t, "too many lines", []int64{x.At, x.Steps, x.Code}, []int64{2, 83, impl.ErrFull})
			checkEqual(t, "too many lines", equalConsoles(x.Memory.Console, impl.Console{Input: input, At: 41, Files: []impl.File{fileIn("NOTES", 2, 0, lines...)}}), true)
			continue
		}
		checkList(t, fmt.Sprint(count, " lines"), []int64{x.At, x.Steps, x.Code}, []int64{12, int64(10 + 6*count), impl.OK})
		want := impl.Console{Input: input, At: int64(count), Output: numbered, Files: []impl.File{fileIn("LIST", 1, int64(count), numbered...), fileIn("NOTES", 0, 0, lines...)}}
		if !equalConsoles(x.Memory.Console, want) {
			t.Errorf("%d lines: got %.500q, want %.500q", count, fmt.Sprint(x.Memory.Console), fmt.Sprint(want))
		}
	}
}

func TestProgramsWithFiles(t *testing.T) {
	for _, row := range []struct {
		source, output, files string
		at, steps, code       int64
	}{
		{" OPEN('F','W'); PUT('F','a'); PUT('F',7); PUT('F'); CLOSE('F'); OPEN('F','R');L OUTPUT = GET('F') :S(L); OUTPUT = 'end'", "a|7||end", "F 1 3 a-7-", 7, 11, impl.OK},
		{" OPEN('F','R') :S(END)F(END)", "", "", 0, 1, impl.ErrNotFound},
		{" OPEN('F','A'); OPEN('F','R')", "", "F 3 0 ", 1, 2, impl.ErrState},
		{" OPEN('F','W'); PUT('F','a'); OPEN('F','W')", "", "F 2 0 a", 2, 3, impl.ErrState},
		{" OPEN('F','W'); PUT('F','a'); OPEN('F','A')", "", "F 2 0 a", 2, 3, impl.ErrState},
		{" OPEN('F','W'); PUT('F','a'); CLOSE('F'); OPEN('F','A'); PUT('F','b'); CLOSE('F'); OPEN('F','R'); OUTPUT = GET('F') GET('F')", "ab", "F 1 2 a-b", 7, 8, impl.OK},
		{" OPEN('F','W'); PUT('F','a'); CLOSE('F'); OPEN('F','W'); PUT('F','b'); CLOSE('F'); OPEN('F','R'); OUTPUT = GET('F'); GET('F') :F(END); OUTPUT = 'more'", "b", "F 1 1 b", 8, 9, impl.OK},
		{" OPEN('F','W'); PUT('F','a'); GET('F') :F(END)", "", "F 2 0 a", 2, 3, impl.ErrState},
		{" OPEN('F','W'); PUT('F','a'); REWIND('F')", "", "F 2 0 a", 2, 3, impl.ErrState},
		{" OPEN('F','W'); PUT('F','a'); ERASE('F')", "", "F 2 0 a", 2, 3, impl.ErrState},
		{" OPEN('F','W'); CLOSE('F'); PUT('F','a')", "", "F 0 0 ", 2, 3, impl.ErrState},
		{" OPEN('F','W'); CLOSE('F'); ERASE('F'); ERASE('F')", "", "", 3, 4, impl.ErrNotFound},
		{" OPEN('F','W'); PUT('F','ab'); CLOSE('F'); OPEN('F','R'); GET('F') 'b' = 'x'", "", "F 1 0 ab", 4, 5, impl.ErrType},
		{" OPEN('F','W'); PUT('F','ab'); PUT('F','b'); CLOSE('F'); OPEN('F','R'); GET('F') GET('F') :F(END); OUTPUT = 'matched'", "matched", "F 1 2 ab-b", 6, 7, impl.OK},
		{" OPEN('F','W'); PUT('F','G'); CLOSE('F'); OPEN('F','R'); $GET('F') = 5; OUTPUT = G", "5", "F 1 1 G", 5, 6, impl.OK},
		{" OPEN('F','W'); PUT('F','x'); CLOSE('F'); OPEN('F','R'); T = TABLE(); T<GET('F')> = REWIND('F') GET('F'); OUTPUT = T<'x'>; T<GET('F')> = 1 :S(END); OUTPUT = LENGTH(T)", "x|1", "F 1 1 x", 8, 9, impl.OK},
		{" OPEN('F','W'); PUT('F',DUPL('x',200)); PUT('F',DUPL('x',200) 'x')", "", "F 2 0 " + strings.Repeat("x", 200), 2, 3, impl.ErrFull},
		{" OPEN('F','W'); PUT('F',ARRAY(1))", "", "F 2 0 ", 1, 2, impl.ErrType},
		{" OPEN('F','W'); PUT('F',GET('F') PUT('F','x'))", "", "F 2 0 ", 1, 2, impl.ErrState},
		{" OPEN('F','W'); PUT('F',PUT('F','x') 'y')", "", "F 2 0 x-y", 1, 2, impl.OK},
		{"L N = LT(N,7) N + 1 :F(END); OPEN('F' N,'W') :(L)", "", "F1 2 0 , F2 2 0 , F3 2 0 , F4 2 0 , F5 2 0 , F6 2 0 ", 1, 14, impl.ErrFull},
		{" OPEN('F','W');L N = N + 1; PUT('F',N) :(L)", "", "F 2 0 " + numbersTo(40), 2, 83, impl.ErrFull},
		{" DEFINE('OPEN(X)'); OUTPUT = OPEN('F') :(END);OPEN OPEN = 'mine' X :(RETURN);END", "mineF", "", 1, 3, impl.OK},
		{" DATA('R(GET)'); X = R('field'); OUTPUT = GET(X); GET(X) = 'new'; OUTPUT = GET(X)", "field|new", "", 4, 5, impl.OK},
		{" DEFINE('F(N)L'); OPEN('F','W'); PUT('F','a'); PUT('F','b'); CLOSE('F'); OPEN('F','R'); OUTPUT = F('F') F('F') :S(END); OUTPUT = 'failed' :(END);F F = GET(N) :S(RETURN)F(FRETURN);END", "ab", "F 1 2 a-b", 6, 9, impl.OK},
		{" DEFINE('F(N)L'); OPEN('F','W'); PUT('F','a'); CLOSE('F'); OPEN('F','R'); OUTPUT = F('F') F('F') :S(END); OUTPUT = 'failed' :(END);F F = GET(N) :S(RETURN)F(FRETURN);END", "failed", "F 1 1 a", 6, 9, impl.OK},
		{" OPEN('F','W') CLOSE('F') OPEN('F','R') CLOSE('F') OPEN('F','A') CLOSE('F') ERASE('F') :S(L)F(END);L OUTPUT = 'all'", "all", "", 1, 2, impl.OK},
		{" OPEN('A B','W')", "", "", 0, 1, impl.ErrInvalid},
		{" OPEN('F','X')", "", "", 0, 1, impl.ErrRange},
		{" OPEN('A B','X')", "", "", 0, 1, impl.ErrRange},
		{" OPEN('F','W','')", "", "", 0, 1, impl.ErrRange},
		{" OPEN(.F,'X')", "", "", 0, 1, impl.ErrType},
	} {
		p, m := parsedProgram(t, row.source+"\n"), newMemory(t)
		x := impl.RunProgram(p, m, 4000)
		checkEqual(t, row.source+": output", strings.Join(x.Memory.Console.Output, "|"), row.output)
		checkEqual(t, row.source+": files", describedFiles(x.Memory.Console, impl.Console{}), row.files)
		checkList(t, row.source+": at, steps and code", []int64{x.At, x.Steps, x.Code}, []int64{row.at, row.steps, row.code})
		checkRun(t, row.source, programRun(x), modelRun(p, m, 4000, 0))
	}
}

// numbersTo returns the lines with the numbers up to a limit, as describedFiles does.
func numbersTo(limit int) string {
	var list []string
	for i := range limit {
		list = append(list, fmt.Sprint(i+1))
	}
	return strings.Join(list, "-")
}

// TestStatementsWithFiles executes statements, expressions and calls in a memory that has files.
func TestStatementsWithFiles(t *testing.T) {
	p := parsedProgram(t, " DEFINE('NEXT(F)');L OUTPUT = GET('A') :F(END); PUT('a',OUTPUT); ERASE('B') :(RETURN);NEXT NEXT = GET(F) :S(RETURN)F(FRETURN);END\n")
	m := exampleMemory()
	m.Scope = modelDefineFunction(m.Scope, "NEXT(F)", "").s
	after := func(c impl.Console, files ...impl.File) impl.Memory {
		changed := copyMemory(m)
		for _, f := range files {
			c = withFiles(c, changedFile(c, f))
		}
		changed.Console = copyConsole(c)
		return changed
	}
	read, null := fileIn("A", 1, 2, "a", "b"), stringOf("")
	shown := copyConsole(m.Console)
	shown.Output = append(shown.Output, "b")
	checkRun(t, "GET", statementRun(impl.RunStatement(p, m, 1, 1)), statementRun(after(shown, read), 2, true, 1, impl.OK))
	end := after(m.Console, read)
	checkRun(t, "GET at the end", statementRun(impl.RunStatement(p, end, 1, 1)), statementRun(end, impl.JumpEnd, false, 1, impl.OK))
	checkRun(t, "PUT", statementRun(impl.RunStatement(p, m, 2, 1)), statementRun(after(m.Console, fileIn("a", 2, 0, "", "", "", "")), 3, true, 1, impl.OK))
	erased := after(m.Console)
	erased.Console.Files = slices.Delete(erased.Console.Files, 1, 2)
	checkRun(t, "ERASE", statementRun(impl.RunStatement(p, m, 3, 1)), statementRun(erased, impl.JumpReturn, true, 1, impl.OK))
	checkRun(t, "ERASE again", statementRun(impl.RunStatement(p, erased, 3, 1)), runResult{code: impl.ErrNotFound})
	checkRun(t, "a call", evaluatedRun(impl.CallProgram(p, m, "NEXT", valuesOf("A"), 1)), evaluatedRun(after(m.Console, read), stringOf("b"), true, 1, impl.OK))
	checkRun(t, "a call that fails", evaluatedRun(impl.CallProgram(p, end, "NEXT", valuesOf("A"), 1)), runResult{m: end, steps: 1})
	checkRun(t, "a call with an error", evaluatedRun(impl.CallProgram(p, m, "NEXT", valuesOf("B"), 1)), runResult{code: impl.ErrState})
	checkRun(t, "a call of a built-in function", evaluatedRun(impl.CallProgram(p, m, "GET", valuesOf("A"), 1)), runResult{code: impl.ErrUndefined})
	e := parsedExpr(t, "NEXT('A') REWIND('A') NEXT('A')")
	checkRun(t, "an expression", evaluatedRun(impl.EvaluateIn(p, m, e, 9)), evaluatedRun(m, stringOf("ba"), true, 2, impl.OK))
	checkRun(t, "an expression with an error", evaluatedRun(impl.EvaluateIn(p, m, parsedExpr(t, "NEXT('A') OPEN('A','R')"), 9)), runResult{code: impl.ErrState})
	checkRun(t, "CLOSE", evaluatedRun(impl.EvaluateIn(p, m, parsedExpr(t, "CLOSE('A')"), 0)), evaluatedRun(after(m.Console, fileIn("A", 0, 0, "a", "b")), null, true, 0, impl.OK))
}

// TestFilesOfMemories checks that files remain from run to run, and that no run changes those of the memory in which it begins.
func TestFilesOfMemories(t *testing.T) {
	p := parsedProgram(t, " OPEN('LOG','A'); PUT('LOG',INPUT) CLOSE('LOG')\n")
	m := newMemory(t, "a", "b", "c")
	for i := range 4 {
		before := copyMemory(m)
		x := impl.RunProgram(p, m, 10)
		checkEqual(t, "the memory that was given", equalMemories(m, before), true)
		if i < 3 {
			checkList(t, "lines", x.Memory.Console.Files[0].Lines, []string{"a", "b", "c"}[:i+1])
			checkList(t, "mode and code", []int64{x.Memory.Console.Files[0].Mode, x.Code}, []int64{0, impl.OK})
			m = x.Memory
			continue
		}
		checkList(t, "an open file and the code", []int64{x.Memory.Console.Files[0].Mode, x.Code}, []int64{3, impl.OK})
		checkEqual(t, "opened again", impl.RunProgram(p, x.Memory, 10).Code, impl.ErrState)
	}
	collected := impl.RunCollecting(p, m, 10, 1)
	checkEqual(t, "with collections", impl.AlikeMemory(collected.Memory, impl.RunProgram(p, m, 10).Memory), true)
	other := copyMemory(collected.Memory)
	other.Console.Files[0].Mode = 0
	checkEqual(t, "a file in another mode", impl.AlikeMemory(collected.Memory, other), false)
}
