package tests

import (
	"math"
	"slices"
	"strings"
	"testing"

	"loop.example/g00873/impl"
)

func TestErrorCodes(t *testing.T) {
	names := []string{"ok", "invalid", "syntax", "range", "type", "undefined", "full", "steps", "division", "stack", "state", "not-found"}
	codes := []int64{impl.OK, impl.ErrInvalid, impl.ErrSyntax, impl.ErrRange, impl.ErrType, impl.ErrUndefined, impl.ErrFull, impl.ErrSteps, impl.ErrDivision, impl.ErrStack, impl.ErrState, impl.ErrNotFound}
	for i, code := range codes {
		checkEqual(t, names[i], code, int64(i))
		checkEqual(t, "CodeName", impl.CodeName(code), names[i])
	}
	for _, code := range []int64{-1, 12, 13, 256, 1 << 32, math.MinInt64, math.MaxInt64} {
		checkEqual(t, "CodeName of no code", impl.CodeName(code), "")
	}
	checkEqual(t, "example", impl.CodeName(8), "division")
	checkEqual(t, "MaxSource", int64(impl.MaxSource), 4000)
	checkEqual(t, "MaxLines", int64(impl.MaxLines), 120)
}

func TestSplitLines(t *testing.T) {
	for _, c := range []struct {
		s    string
		want []string
	}{
		{"", nil},
		{"a", []string{"a"}},
		{"a\n", []string{"a"}},
		{"a\n\nb", []string{"a", "", "b"}},
		{"\n", []string{""}},
		{"\n\n", []string{"", ""}},
		{"\na", []string{"", "a"}},
		{"a\nb\n\n", []string{"a", "b", ""}},
		{" \n", []string{" "}},
		{"a\r\nb", []string{"a\r", "b"}},
		{"\x00\xff\n\xc3\xa4\n", []string{"\x00\xff", "\xc3\xa4"}},
	} {
		checkList(t, c.s, impl.SplitLines(c.s), c.want)
	}
}

// modelLines collects the lines byte by byte.
func modelLines(s string) []string {
	var lines []string
	line := ""
	for i := range len(s) {
		if s[i] == '\n' {
			lines = append(lines, line)
			line = ""
		} else {
			line += s[i : i+1]
		}
	}
	if line != "" {
		lines = append(lines, line)
	}
	return lines
}

func TestSplitLinesAgainstModel(t *testing.T) {
	eachText("a \n\xff", 6, func(s string) {
		checkList(t, s, impl.SplitLines(s), modelLines(s))
	})
}

// fullSource has MaxLines lines and MaxSource bytes.
func fullSource() string {
	return strings.Repeat("a", 40) + strings.Repeat(strings.Repeat("a", 32)+"\n", 120)
}

func TestValidSource(t *testing.T) {
	for _, c := range []struct {
		what string
		s    string
		want bool
	}{
		{"empty", "", true},
		{"ordinary", " A = 1\nEND\n", true},
		{"MaxSource bytes", strings.Repeat("a", 4000), true},
		{"one byte more", strings.Repeat("a", 4001), false},
		{"MaxSource bytes with a newline", strings.Repeat("a", 3999) + "\n", true},
		{"one newline more", strings.Repeat("a", 4000) + "\n", false},
		{"MaxLines newlines", strings.Repeat("\n", 120), true},
		{"one newline more than lines", strings.Repeat("\n", 121), false},
		{"MaxLines lines without the last newline", strings.Repeat("a\n", 119) + "a", true},
		{"MaxLines lines with the last newline", strings.Repeat("a\n", 120), true},
		{"one line more, without a newline", strings.Repeat("a\n", 120) + "a", false},
		{"one line more, with a newline", strings.Repeat("a\n", 121), false},
		{"one blank line more", strings.Repeat("a\n", 120) + " ", false},
		{"MaxSource bytes in MaxLines lines", fullSource(), true},
		{"one byte more in MaxLines lines", "a" + fullSource(), false},
		{"a bad last byte", strings.Repeat("a", 3999) + "\t", false},
		{"letters outside of ASCII", "\u00e4", false},
		{"a long text", strings.Repeat("\n", 1000000), false},
	} {
		checkEqual(t, c.what, impl.ValidSource(c.s), c.want)
	}
	for i, s := range allBytes() {
		want := i == 10 || i >= 32 && i <= 126
		checkEqual(t, s, impl.ValidSource(s), want)
		checkEqual(t, s+" within a text", impl.ValidSource("a\n"+s+"b"), want)
	}
}

func TestKindsOfLines(t *testing.T) {
	for _, c := range []struct {
		s                            string
		blank, comment, continuation bool
	}{
		{"", true, false, false},
		{" ", true, false, false},
		{"  ", true, false, false},
		{strings.Repeat(" ", 5000), true, false, false},
		{strings.Repeat(" ", 5000) + "x", false, false, false},
		{" x", false, false, false},
		{"x ", false, false, false},
		{"\n", false, false, false},
		{"\t", false, false, false},
		{" \t", false, false, false},
		{"\x00", false, false, false},
		{"\u00a0", false, false, false},
		{"*", false, true, false},
		{"* note", false, true, false},
		{"*+", false, true, false},
		{" *", false, false, false},
		{"+", false, false, true},
		{"+ X", false, false, true},
		{"+*", false, false, true},
		{" +", false, false, false},
		{"a*+", false, false, false},
	} {
		checkEqual(t, "IsBlankLine "+c.s, impl.IsBlankLine(c.s), c.blank)
		checkEqual(t, "IsComment "+c.s, impl.IsComment(c.s), c.comment)
		checkEqual(t, "IsContinuation "+c.s, impl.IsContinuation(c.s), c.continuation)
	}
	for _, s := range allBytes() {
		checkEqual(t, "IsBlankLine "+s, impl.IsBlankLine(s), s == " ")
		checkEqual(t, "IsComment "+s, impl.IsComment(s), s == "*")
		checkEqual(t, "IsContinuation "+s, impl.IsContinuation(s), s == "+")
	}
}

func TestSplitStatements(t *testing.T) {
	for _, c := range []struct {
		s    string
		want []string
	}{
		{" A = ';';L B", []string{" A = ';'", "L B"}},
		{"", []string{""}},
		{"A", []string{"A"}},
		{";", []string{"", ""}},
		{";;", []string{"", "", ""}},
		{"A;", []string{"A", ""}},
		{";A", []string{"", "A"}},
		{" ; ", []string{" ", " "}},
		{"';", []string{"';"}},
		{"A;'B;C", []string{"A", "'B;C"}},
		{"'A';B", []string{"'A'", "B"}},
		{"'A\";\"B';C", []string{"'A\";\"B'", "C"}},
		{"\"it's;\";'\"';A", []string{"\"it's;\"", "'\"'", "A"}},
		{"'a'';';B", []string{"'a'';'", "B"}},
		{"''\"\";A", []string{"''\"\"", "A"}},
		{"A;'", []string{"A", "'"}},
		{"A\n;\x00;\xff", []string{"A\n", "\x00", "\xff"}},
	} {
		checkList(t, c.s, impl.SplitStatements(c.s), c.want)
	}
}

// modelStatements reads byte by byte and remembers the quote that is open.
func modelStatements(s string) []string {
	parts := []string{""}
	var quote byte
	for i := range len(s) {
		b := s[i]
		if b == ';' && quote == 0 {
			parts = append(parts, "")
			continue
		}
		parts[len(parts)-1] += s[i : i+1]
		switch {
		case quote == b:
			quote = 0
		case quote == 0 && (b == '\'' || b == '"'):
			quote = b
		}
	}
	return parts
}

func TestSplitStatementsAgainstModel(t *testing.T) {
	eachText("a;'\"", 8, func(s string) {
		checkList(t, s, impl.SplitStatements(s), modelStatements(s))
	})
}

func checkLogical(t *testing.T, s string, list []impl.Line, number, code int64) {
	t.Helper()
	gotList, gotNumber, gotCode := impl.LogicalLines(s)
	checkList(t, s, gotList, list)
	checkEqual(t, s+": number", gotNumber, number)
	checkEqual(t, s+": code", gotCode, code)
}

func TestLogicalLines(t *testing.T) {
	for _, c := range []struct {
		s    string
		want []impl.Line
	}{
		{"* head\n A = 1\n+ + 2;L B\n", []impl.Line{{Number: 2, Text: " A = 1  + 2"}, {Number: 2, Text: "L B"}}},
		{"", nil},
		{"\n \n* A\n", nil},
		{";", nil},
		{"; ;\n+;\n", nil},
		{"A", []impl.Line{{Number: 1, Text: "A"}}},
		{"A\nB\n", []impl.Line{{Number: 1, Text: "A"}, {Number: 2, Text: "B"}}},
		{"\n\n A \n", []impl.Line{{Number: 3, Text: " A "}}},
		{"A\n+", []impl.Line{{Number: 1, Text: "A "}}},
		{"A\n++B", []impl.Line{{Number: 1, Text: "A +B"}}},
		{"A\n+*B", []impl.Line{{Number: 1, Text: "A *B"}}},
		{"A\n* C\n\n   \n+B\nD", []impl.Line{{Number: 1, Text: "A B"}, {Number: 6, Text: "D"}}},
		{"A\n+B\n+C\nD\n+E\n", []impl.Line{{Number: 1, Text: "A B C"}, {Number: 4, Text: "D E"}}},
		{"A;B\n+C", []impl.Line{{Number: 1, Text: "A"}, {Number: 1, Text: "B C"}}},
		{"A\n+;B", []impl.Line{{Number: 1, Text: "A "}, {Number: 1, Text: "B"}}},
		{";\n+A", []impl.Line{{Number: 1, Text: " A"}}},
		{"A 'x\n+y;z'\n", []impl.Line{{Number: 1, Text: "A 'x y;z'"}}},
		{"A 'x;y\nB;C", []impl.Line{{Number: 1, Text: "A 'x;y"}, {Number: 2, Text: "B"}, {Number: 2, Text: "C"}}},
		{" * A\n +B", []impl.Line{{Number: 1, Text: " * A"}, {Number: 2, Text: " +B"}}},
		{"A;*B\n+C;+D", []impl.Line{{Number: 1, Text: "A"}, {Number: 1, Text: "*B C"}, {Number: 1, Text: "+D"}}},
		{strings.Repeat("\n", 119) + "A", []impl.Line{{Number: 120, Text: "A"}}},
		{strings.Repeat("a", 4000), []impl.Line{{Number: 1, Text: strings.Repeat("a", 4000)}}},
	} {
		checkLogical(t, c.s, c.want, 0, impl.OK)
	}
}

func TestLogicalLinesErrors(t *testing.T) {
	for _, c := range []struct {
		s            string
		number, code int64
	}{
		{"a\x00", 0, impl.ErrInvalid},
		{"a\tb", 0, impl.ErrInvalid},
		{"\x7f", 0, impl.ErrInvalid},
		{strings.Repeat("a", 4001), 0, impl.ErrInvalid},
		{strings.Repeat("\n", 121), 0, impl.ErrInvalid},
		{strings.Repeat("\n", 120) + "A", 0, impl.ErrInvalid},
		{"+ x", 1, impl.ErrSyntax},
		{"+", 1, impl.ErrSyntax},
		{"\n* c\n+ x\n", 3, impl.ErrSyntax},
		{"  \n+ x\n+ y\nA\n+ z", 2, impl.ErrSyntax},
		{strings.Repeat("*\n", 119) + "+", 120, impl.ErrSyntax},
		{"+ x\n\x00", 0, impl.ErrInvalid},
		{"+ x" + strings.Repeat("\n", 121), 0, impl.ErrInvalid},
	} {
		checkLogical(t, c.s, nil, c.number, c.code)
	}
}

// modelLogical joins the lines to one text, in which a byte that no valid
// source text contains ends each combined line.
func modelLogical(s string) ([]impl.Line, int64, int64) {
	var numbers []int64
	joined := ""
	for i, line := range modelLines(s) {
		first := strings.TrimLeft(line, " ")
		switch {
		case first == "" || line[0] == '*':
		case line[0] != '+':
			numbers = append(numbers, int64(i+1))
			joined += "\x00" + line
		case joined == "":
			return nil, int64(i + 1), impl.ErrSyntax
		default:
			joined += " " + line[1:]
		}
	}
	var list []impl.Line
	for i, combined := range strings.Split(joined, "\x00") {
		for _, part := range modelStatements(combined) {
			if strings.Trim(part, " ") != "" {
				list = append(list, impl.Line{Number: numbers[i-1], Text: part})
			}
		}
	}
	return list, 0, impl.OK
}

// sources are texts that contain what matters to lines in many combinations.
func sources() []string {
	var list []string
	eachText("a *+;'\n", 6, func(s string) { list = append(list, s) })
	pieces := []string{"A", " = ", "'", "\"", ";", " ", "\n", "\n+", "\n*", "\n ", "\n\n", "L B", "'x;y'", "\"it's\"", ":S(L)"}
	return append(list, randomTexts(1, 20000, 40, pieces)...)
}

func TestLogicalLinesAgainstModel(t *testing.T) {
	for _, s := range sources() {
		list, number, code := modelLogical(s)
		checkLogical(t, s, list, number, code)
	}
}

func TestJoinLines(t *testing.T) {
	checkEqual(t, "nil", impl.JoinLines(nil), "")
	checkEqual(t, "empty", impl.JoinLines([]impl.Line{}), "")
	checkEqual(t, "ordinary", impl.JoinLines([]impl.Line{{Number: 2, Text: " A = 1  + 2"}, {Number: 2, Text: "L B"}}), " A = 1  + 2\nL B\n")
	checkEqual(t, "any texts", impl.JoinLines([]impl.Line{{Number: -1, Text: ""}, {Text: "\n"}, {Number: math.MaxInt64, Text: "\x00\xff;"}}), "\n\n\n\x00\xff;\n")
	long := slices.Repeat([]impl.Line{{Text: "A"}}, 100000)
	checkEqual(t, "long", impl.JoinLines(long), strings.Repeat("A\n", 100000))
}

// isRecoverable reports whether the statements can stand in lines of their
// own: a line that begins with * or + is a comment or a continuation line,
// and the text with one statement per line has to be a source text.
func isRecoverable(list []impl.Line) bool {
	for _, line := range list {
		if impl.IsComment(line.Text) || impl.IsContinuation(line.Text) {
			return false
		}
	}
	return len(list) <= impl.MaxLines && len(impl.JoinLines(list)) <= impl.MaxSource
}

// TestStatementsAreRecovered is promise 2.
func TestStatementsAreRecovered(t *testing.T) {
	recovered := 0
	limits := []string{strings.Repeat("a;", 119) + "a", strings.Repeat("a", 3999), fullSource()}
	for _, s := range append(sources(), limits...) {
		list, _, code := impl.LogicalLines(s)
		if code != impl.OK || !isRecoverable(list) {
			continue
		}
		want := slices.Clone(list)
		for i := range want {
			want[i].Number = int64(i + 1)
		}
		checkLogical(t, impl.JoinLines(list), want, 0, impl.OK)
		recovered += len(list)
	}
	if recovered < 100000 {
		t.Errorf("only %d statements were recovered", recovered)
	}
}

// TestStatementsBeyondTheLimits shows where the text with one statement per line is no source text.
func TestStatementsBeyondTheLimits(t *testing.T) {
	for _, s := range []string{strings.Repeat("a;", 120) + "a", strings.Repeat("a", 4000)} {
		list, _, code := impl.LogicalLines(s)
		checkEqual(t, "code", code, impl.OK)
		checkLogical(t, impl.JoinLines(list), nil, 0, impl.ErrInvalid)
	}
}
