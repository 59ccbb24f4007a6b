package tests

import (
	"fmt"
	"slices"
	"strings"
	"sync"
	"testing"

	"loop.example/g00873/impl"
)

// The tests of this file are promise 1: every function returns for all
// arguments, modifies no argument and returns equal results for equal arguments.

// textFunctions are all functions of chapters 1 and 2 with a text as their argument.
func textFunctions() map[string]func(s string) string {
	return map[string]func(s string) string{
		"SplitLines":      func(s string) string { return fmt.Sprintf("%q", impl.SplitLines(s)) },
		"ValidSource":     func(s string) string { return fmt.Sprint(impl.ValidSource(s)) },
		"IsBlankLine":     func(s string) string { return fmt.Sprint(impl.IsBlankLine(s)) },
		"IsComment":       func(s string) string { return fmt.Sprint(impl.IsComment(s)) },
		"IsContinuation":  func(s string) string { return fmt.Sprint(impl.IsContinuation(s)) },
		"SplitStatements": func(s string) string { return fmt.Sprintf("%q", impl.SplitStatements(s)) },
		"LogicalLines":    func(s string) string { return fmt.Sprint(impl.LogicalLines(s)) },
		"IsName":          func(s string) string { return fmt.Sprint(impl.IsName(s)) },
		"IsOperator":      func(s string) string { return fmt.Sprint(impl.IsOperator(s)) },
		"CanQuote":        func(s string) string { return fmt.Sprint(impl.CanQuote(s)) },
		"QuoteString":     func(s string) string { return fmt.Sprintf("%q", impl.QuoteString(s)) },
		"ScanTokens":      func(s string) string { return fmt.Sprint(impl.ScanTokens(s)) },
	}
}

// strangeTexts are texts of any bytes, short ones and long ones.
func strangeTexts() []string {
	list := append(allBytes(), randomTexts(4, 1000, 200, allBytes())...)
	list = append(list, randomTexts(5, 1000, 100, []string{"'", "\"", ";", "\n", "+", "*", " ", "A", "1", "\x00", "\xff", "\u20ac"})...)
	for _, piece := range []string{"a", "1", " ", "\n", ";", "'", "\"", "+", "*", "_", "\x00", "\xff", "\u20ac", "a\n+", "';'"} {
		for _, count := range []int{119, 120, 121, 200, 201, 3999, 4000, 4001, 100000} {
			list = append(list, strings.Repeat(piece, count))
		}
	}
	return list
}

func TestTextFunctionsArePure(t *testing.T) {
	for what, call := range textFunctions() {
		for _, s := range strangeTexts() {
			first := call(s)
			if again := call(strings.Clone(s)); again != first {
				t.Fatalf("%s(%.40q): %.80s, then %.80s", what, s, first, again)
			}
		}
	}
}

func TestCodeNameIsPure(t *testing.T) {
	for code := int64(-300); code <= 300; code++ {
		first := impl.CodeName(code)
		checkEqual(t, "a second call", impl.CodeName(code), first)
		checkEqual(t, "a name for codes only", first != "", code >= impl.OK && code <= impl.ErrNotFound)
	}
}

// TestResultsDoNotDependOnOtherCalls runs the calls in several goroutines at the same time.
func TestResultsDoNotDependOnOtherCalls(t *testing.T) {
	texts := randomTexts(6, 200, 60, []string{"A", " ", "=", "'x'", "\n", "\n+", ";", "12", "#"})
	for what, call := range textFunctions() {
		var want []string
		for _, s := range texts {
			want = append(want, call(s))
		}
		var group sync.WaitGroup
		for range 4 {
			group.Go(func() {
				for i := range texts {
					at := len(texts) - 1 - i
					if got := call(texts[at]); got != want[at] {
						t.Errorf("%s(%q): %s, then %s", what, texts[at], want[at], got)
					}
				}
			})
		}
		group.Wait()
	}
}

// checkKeeps calls a function with a list that has unused capacity, and checks that neither was modified.
func checkKeeps[T comparable](t *testing.T, what string, elements []T, unused T, call func(list []T) string) {
	t.Helper()
	list, memory := backing(elements, unused)
	want := slices.Clone(memory)
	first := call(list)
	checkList(t, what+": the argument afterwards", memory, want)
	checkEqual(t, what+": a second call", call(slices.Clone(elements)), first)
}

func TestListFunctionsArePure(t *testing.T) {
	unused := impl.Line{Number: 77, Text: "unused"}
	for _, texts := range [][]string{nil, {""}, {"A"}, {" A", "B\n", "\xff"}, allBytes()} {
		var list []impl.Line
		for i, text := range texts {
			list = append(list, impl.Line{Number: int64(i) - 2, Text: text})
		}
		checkKeeps(t, "JoinLines", list, unused, impl.JoinLines)
	}
	token := impl.Token{Kind: 77, Text: "unused"}
	valid, _, _ := impl.ScanTokens("F(A,'x') - B<007> . C :(L)")
	for _, list := range [][]impl.Token{nil, {{}}, valid, valid[1:3], append(slices.Clone(valid), token), manyTokens(), slices.Repeat(valid, 1000)} {
		checkKeeps(t, "PrintTokens", list, token, impl.PrintTokens)
	}
}

// checkNew checks that changing a result, and appending to it, changes no other result.
func checkNew[T comparable](t *testing.T, what string, call func() []T, changed T) {
	t.Helper()
	first := call()
	want := slices.Clone(first)
	second := call()
	for i := range first {
		first[i] = changed
	}
	memory := first[:cap(first)]
	for i := range memory {
		memory[i] = changed
	}
	checkList(t, what+": an earlier result", second, want)
	checkList(t, what+": a later result", call(), want)
}

func TestResultsAreNew(t *testing.T) {
	for _, s := range []string{"", "A", "A;B;'C'", "A\nB\n+C\n", " A = B + 1", ";\n;\n"} {
		checkNew(t, "SplitLines", func() []string { return impl.SplitLines(s) }, "changed")
		checkNew(t, "SplitStatements", func() []string { return impl.SplitStatements(s) }, "changed")
		checkNew(t, "LogicalLines", func() []impl.Line {
			list, _, _ := impl.LogicalLines(s)
			return list
		}, impl.Line{Number: 77, Text: "changed"})
		checkNew(t, "ScanTokens", func() []impl.Token {
			list, _, _ := impl.ScanTokens(s)
			return list
		}, impl.Token{Kind: 77, Text: "changed"})
	}
}

// TestFailuresHaveNoOtherResults checks that only the code and the number are left of a call that fails.
func TestFailuresHaveNoOtherResults(t *testing.T) {
	for _, s := range strangeTexts() {
		if list, number, code := impl.LogicalLines(s); code != impl.OK && len(list) > 0 || code != impl.ErrSyntax && number != 0 {
			t.Errorf("LogicalLines(%.40q): %d statements, %d, %d", s, len(list), number, code)
		}
		if list, number, code := impl.ScanTokens(s); code != impl.OK && len(list) > 0 || code != impl.ErrSyntax && code != impl.ErrFull && number != 0 {
			t.Errorf("ScanTokens(%.40q): %d tokens, %d, %d", s, len(list), number, code)
		}
	}
}

// TestTokensWithAnyFields calls the functions of tokens twice for tokens that need not be valid.
func TestTokensWithAnyFields(t *testing.T) {
	for _, token := range manyTokens() {
		equal := token
		equal.Text = strings.Clone(token.Text)
		checkEqual(t, "ValidToken", impl.ValidToken(equal), impl.ValidToken(token))
		checkEqual(t, "TokenText", impl.TokenText(equal), impl.TokenText(token))
		checkEqual(t, "IsInfix", impl.IsInfix(equal), impl.IsInfix(token))
	}
}
