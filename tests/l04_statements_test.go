package tests

import (
	"fmt"
	"regexp"
	"slices"
	"strings"
	"testing"

	"loop.example/g00873/impl"
)

// subject returns the statement that consists of a subject.
func subject(e impl.Expr) impl.Statement {
	return impl.Statement{HasSubject: true, Subject: e}
}

// withPattern, withReplace, withGoto and labelled return a statement with one part more.
func withPattern(s impl.Statement, e impl.Expr) impl.Statement {
	s.HasPattern, s.Pattern = true, e
	return s
}

func withReplace(s impl.Statement, e impl.Expr) impl.Statement {
	s.HasReplace, s.Replace = true, e
	return s
}

func withGoto(s impl.Statement, always, success, failure string) impl.Statement {
	s.Goto = impl.Goto{Always: always, Success: success, Failure: failure}
	return s
}

func labelled(label string, s impl.Statement) impl.Statement {
	s.Label = label
	return s
}

func checkStatement(t *testing.T, what string, got, want impl.Statement) {
	t.Helper()
	if !impl.SameStatement(got, want) {
		t.Errorf("%s: got %+v, want %+v", what, got, want)
	}
}

// exampleStatement is that of the document.
func exampleStatement() impl.Statement {
	pattern := node(impl.ExAlt, literal("x"), variable("B"))
	return withGoto(labelled("L", withReplace(withPattern(subject(variable("A")), pattern), literal(""))), "", "", "L")
}

func TestIsLabel(t *testing.T) {
	texts := append(allBytes(), "", "L1", "1L", "L_1", "_L", "END", "ABCDEFGHIJKL", "ABCDEFGHIJKLM", "A B", " A", "A:", "a\xff", "RETURN", strings.Repeat("A", 1000000))
	for _, s := range texts {
		checkEqual(t, s, impl.IsLabel(s), nameSyntax.MatchString(s))
	}
}

func TestGotos(t *testing.T) {
	for _, c := range []struct {
		g      impl.Goto
		valid  bool
		text   string
		labels []string
	}{
		{impl.Goto{}, true, "", nil},
		{impl.Goto{Success: "L", Failure: "END"}, true, ":S(L)F(END)", []string{"L", "END"}},
		{impl.Goto{Always: "A"}, true, ":(A)", []string{"A"}},
		{impl.Goto{Success: "A"}, true, ":S(A)", []string{"A"}},
		{impl.Goto{Failure: "A"}, true, ":F(A)", []string{"A"}},
		{impl.Goto{Success: "Z", Failure: "A"}, true, ":S(Z)F(A)", []string{"Z", "A"}},
		{impl.Goto{Success: "A", Failure: "A"}, true, ":S(A)F(A)", []string{"A", "A"}},
		{impl.Goto{Success: "F", Failure: "S"}, true, ":S(F)F(S)", []string{"F", "S"}},
		{impl.Goto{Always: "ABCDEFGHIJKL"}, true, ":(ABCDEFGHIJKL)", []string{"ABCDEFGHIJKL"}},
		{impl.Goto{Always: "ABCDEFGHIJKLM"}, false, "", nil},
		{impl.Goto{Always: "1"}, false, "", nil},
		{impl.Goto{Success: "1"}, false, "", nil},
		{impl.Goto{Failure: "1"}, false, "", nil},
		{impl.Goto{Success: "A", Failure: " "}, false, "", nil},
		{impl.Goto{Success: "\xff", Failure: "A"}, false, "", nil},
		{impl.Goto{Always: "A", Success: "A"}, false, "", nil},
		{impl.Goto{Always: "A", Failure: "B"}, false, "", nil},
		{impl.Goto{Always: "A", Success: "B", Failure: "C"}, false, "", nil},
	} {
		what := fmt.Sprintf("%+v", c.g)
		checkEqual(t, what, impl.ValidGoto(c.g), c.valid)
		checkEqual(t, what+": text", impl.GotoText(c.g), c.text)
		checkList(t, what+": labels", impl.GotoLabels(c.g), c.labels)
	}
}

func TestPrintStatement(t *testing.T) {
	a, b, c := variable("A"), variable("B"), variable("C")
	for _, p := range []struct {
		s    impl.Statement
		want string
	}{
		{exampleStatement(), "L A 'x' | B = '' :F(L)"},
		{labelled("END", impl.Statement{}), "END"},
		{withGoto(impl.Statement{}, "A", "", ""), " :(A)"},
		{labelled("L", withGoto(impl.Statement{}, "", "A", "B")), "L :S(A)F(B)"},
		{subject(a), " A"},
		{withGoto(subject(a), "", "", "A"), " A :F(A)"},
		{labelled("L", subject(call("F", a, b))), "L F(A,B)"},
		{withPattern(subject(a), b), " A B"},
		{withPattern(subject(a), node(impl.ExCat, b, c)), " A B C"},
		{withPattern(subject(node(impl.ExCat, a, b)), c), " (A B) C"},
		{withPattern(subject(a), node(impl.ExNeg, b)), " A -B"},
		{withPattern(subject(node(impl.ExNeg, a)), leaf(impl.ExDefer, "B")), " -A *B"},
		{withPattern(subject(a), node(impl.ExIndex, node(impl.ExAlt, b, c), a)), " A (B | C)<A>"},
		{subject(node(impl.ExSub, a, b)), " (A - B)"},
		{subject(node(impl.ExCond, a, b)), " (A . B)"},
		{subject(node(impl.ExIndirect, a)), " $A"},
		{subject(leaf(impl.ExNameOf, "A")), " .A"},
		{subject(leaf(impl.ExCursor, "A")), " @A"},
		{withReplace(subject(node(impl.ExIndex, a, b)), node(impl.ExAlt, b, c)), " A<B> = B | C"},
		{withReplace(subject(a), literal("")), " A = ''"},
		{withReplace(withPattern(subject(a), literal("")), literal("it's")), " A '' = \"it's\""},
		{withGoto(withReplace(subject(a), number(0)), "", "S", "F"), " A = 0 :S(S)F(F)"},
		{impl.Statement{}, ""},
		{labelled("1", impl.Statement{}), ""},
		{subject(impl.Expr{}), ""},
		{impl.Statement{Subject: a}, ""},
		{withPattern(impl.Statement{}, a), ""},
	} {
		checkEqual(t, fmt.Sprintf("%+v", p.s), impl.PrintStatement(p.s), p.want)
		if p.want != "" {
			checkParsedStatement(t, p.want, p.s, impl.OK)
		}
	}
}

func checkParsedStatement(t *testing.T, text string, want impl.Statement, code int64) {
	t.Helper()
	s, got := impl.ParseStatement(text)
	checkEqual(t, text+": code", got, code)
	checkStatement(t, text, s, want)
}

func TestValidStatement(t *testing.T) {
	a, zero, bad := variable("A"), impl.Expr{}, variable("1")
	for _, c := range []struct {
		what string
		s    impl.Statement
		want bool
	}{
		{"zero", impl.Statement{}, false},
		{"the example", exampleStatement(), true},
		{"a label", labelled("L", impl.Statement{}), true},
		{"a long label", labelled("ABCDEFGHIJKL", impl.Statement{}), true},
		{"a label that is too long", labelled("ABCDEFGHIJKLM", impl.Statement{}), false},
		{"no label", labelled("1L", subject(a)), false},
		{"a label with a blank", labelled("L ", subject(a)), false},
		{"a goto", withGoto(impl.Statement{}, "", "A", ""), true},
		{"an invalid goto", withGoto(subject(a), "A", "A", ""), false},
		{"a goto to no label", withGoto(subject(a), "", "", "1"), false},
		{"a subject", subject(a), true},
		{"an invalid subject", subject(bad), false},
		{"a subject that is zero", subject(zero), false},
		{"a subject without its flag", labelled("L", impl.Statement{Subject: a}), false},
		{"an invalid subject without its flag", labelled("L", impl.Statement{Subject: impl.Expr{Num: 1}}), false},
		{"empty Kids without the flags", labelled("L", impl.Statement{Subject: impl.Expr{Kids: []impl.Expr{}}, Pattern: impl.Expr{Kids: []impl.Expr{}}, Replace: impl.Expr{Kids: []impl.Expr{}}}), true},
		{"a pattern", withPattern(subject(a), a), true},
		{"an invalid pattern", withPattern(subject(a), bad), false},
		{"a pattern that is zero", withPattern(subject(a), zero), false},
		{"a pattern without its flag", impl.Statement{HasSubject: true, Subject: a, Pattern: a}, false},
		{"a pattern without a subject", labelled("L", withPattern(impl.Statement{}, a)), false},
		{"a replacement", withReplace(subject(a), a), true},
		{"an invalid replacement", withReplace(subject(a), bad), false},
		{"a replacement that is zero", withReplace(subject(a), zero), false},
		{"a replacement without its flag", impl.Statement{HasSubject: true, Subject: a, Replace: a}, false},
		{"a replacement without a subject", labelled("L", withReplace(impl.Statement{}, a)), false},
		{"only the flags", impl.Statement{Label: "L", HasPattern: true, HasReplace: true}, false},
		{"large parts", withReplace(withPattern(subject(series(impl.ExCat, a, 30)), series(impl.ExCat, a, 30)), series(impl.ExCat, a, 30)), true},
		{"a subject with too many nodes", subject(series(impl.ExCat, a, 31)), false},
		{"a pattern with too many nodes", withPattern(subject(a), series(impl.ExCat, a, 31)), false},
		{"a replacement with too many nodes", withReplace(subject(a), series(impl.ExCat, a, 31)), false},
		{"a very deep subject", subject(nested(impl.ExNeg, 1000000, a)), false},
		{"an endless pattern", withPattern(subject(a), endlessKids(3)), false},
		{"a shared replacement", withReplace(subject(a), sharedKids(200)), false},
		{"an endless subject without its flag", labelled("L", impl.Statement{Subject: endlessKids(3)}), false},
		{"a very long label", labelled(strings.Repeat("L", 1000000), impl.Statement{}), false},
	} {
		checkEqual(t, c.what, impl.ValidStatement(c.s), c.want)
		checkEqual(t, c.what+": printed", impl.PrintStatement(c.s) != "", c.want)
	}
}

// alternatives returns the alternation of count names, which has count*2-1 tokens.
func alternatives(count int) impl.Expr {
	return series(impl.ExAlt, variable("A"), count)
}

// longText returns a concatenation whose text has the given number of bytes, 3862 to 4059.
func longText(length int) impl.Expr {
	full := literal(strings.Repeat("x", 200))
	return node(impl.ExCat, series(impl.ExCat, full, 19), literal(strings.Repeat("x", length-3859)))
}

func TestStatementLimits(t *testing.T) {
	a := variable("A")
	full := withPattern(subject(alternatives(30)), alternatives(30))
	for _, c := range []struct {
		what string
		s    impl.Statement
		want bool
	}{
		{"MaxTokens tokens", full, true},
		{"MaxTokens tokens and a label", labelled("L", full), true},
		{"one token more", withPattern(full, node(impl.ExAlt, alternatives(29), node(impl.ExNeg, a))), false},
		{"one token more and a label", labelled("L", withPattern(full, node(impl.ExAlt, alternatives(29), node(impl.ExNeg, a)))), false},
		{"MaxTokens tokens with a replacement", withReplace(withPattern(full, alternatives(29)), a), true},
		{"one token more with a replacement", withReplace(withPattern(full, alternatives(29)), node(impl.ExNeg, a)), false},
		{"MaxTokens tokens with a goto", withGoto(withPattern(full, alternatives(28)), "A", "", ""), true},
		{"one token more with a goto", withGoto(withPattern(full, alternatives(28)), "", "A", ""), false},
		{"MaxSource bytes", withPattern(subject(a), longText(3997)), true},
		{"one byte more", withPattern(subject(a), longText(3998)), false},
		{"MaxSource bytes with a label", labelled("LABEL", withPattern(subject(a), longText(3992))), true},
		{"one byte more with a label", labelled("LABEL", withPattern(subject(a), longText(3993))), false},
		{"MaxSource bytes with a goto", withGoto(withPattern(subject(a), longText(3987)), "", "A", "B"), true},
		{"one byte more with a goto", withGoto(withPattern(subject(a), longText(3988)), "", "A", "B"), false},
		{"too many bytes and too many tokens", withPattern(withReplace(full, a), longText(4059)), false},
	} {
		text := impl.PrintStatement(c.s)
		checkEqual(t, c.what, impl.ValidStatement(c.s), c.want)
		checkEqual(t, c.what+": printed", text != "", c.want)
		if c.want {
			checkParsedStatement(t, text, c.s, impl.OK)
		}
	}
}

func TestParseStatement(t *testing.T) {
	a, b, c := variable("A"), variable("B"), variable("C")
	for _, p := range []struct {
		text string
		want impl.Statement
	}{
		{"L A 'x' | B = :F(L)", exampleStatement()},
		{"L", labelled("L", impl.Statement{})},
		{"L   ", labelled("L", impl.Statement{})},
		{"ABCDEFGHIJKL A", labelled("ABCDEFGHIJKL", subject(a))},
		{" A", subject(a)},
		{"   A  ", subject(a)},
		{" A = B", withReplace(subject(a), b)},
		{" A =", withReplace(subject(a), literal(""))},
		{" A = ''", withReplace(subject(a), literal(""))},
		{" A  =  :(B)", withGoto(withReplace(subject(a), literal("")), "B", "", "")},
		{" A = B C | 'x'", withReplace(subject(a), node(impl.ExAlt, node(impl.ExCat, b, c), literal("x")))},
		{" A B", withPattern(subject(a), b)},
		{" A B =", withReplace(withPattern(subject(a), b), literal(""))},
		{" A B C = A", withReplace(withPattern(subject(a), node(impl.ExCat, b, c)), a)},
		{" A (B)", withPattern(subject(a), b)},
		{" A(B)", subject(call("A", b))},
		{" A(B) C", withPattern(subject(call("A", b)), c)},
		{" A<B> C", withPattern(subject(node(impl.ExIndex, a, b)), c)},
		{" (A B) C", withPattern(subject(node(impl.ExCat, a, b)), c)},
		{" (A)", subject(a)},
		{" A -B", withPattern(subject(a), node(impl.ExNeg, b))},
		{" -A", subject(node(impl.ExNeg, a))},
		{" A *B = C", withReplace(withPattern(subject(a), leaf(impl.ExDefer, "B")), c)},
		{" A B . C", withPattern(subject(a), node(impl.ExCond, b, c))},
		{" 'x' 1 = A", withReplace(withPattern(subject(literal("x")), number(1)), a)},
		{" :(A)", withGoto(impl.Statement{}, "A", "", "")},
		{" :S(A)", withGoto(impl.Statement{}, "", "A", "")},
		{" :F(A)", withGoto(impl.Statement{}, "", "", "A")},
		{" :S(A)F(B)", withGoto(impl.Statement{}, "", "A", "B")},
		{" :F(B)S(A)", withGoto(impl.Statement{}, "", "A", "B")},
		{" :S(S)F(F)", withGoto(impl.Statement{}, "", "S", "F")},
		{"L :(L)", labelled("L", withGoto(impl.Statement{}, "L", "", ""))},
		{"L  : S ( A )  F ( B ) ", labelled("L", withGoto(impl.Statement{}, "", "A", "B"))},
		{" A:(B)", withGoto(subject(a), "B", "", "")},
		{" A B:S(C)", withGoto(withPattern(subject(a), b), "", "C", "")},
		{" A = B:F(C)", withGoto(withReplace(subject(a), b), "", "", "C")},
		{"S F :F(S)", labelled("S", withGoto(subject(variable("F")), "", "", "S"))},
	} {
		checkParsedStatement(t, p.text, p.want, impl.OK)
	}
}

func TestParseStatementErrors(t *testing.T) {
	names := func(count int) string { return strings.Repeat(" A", count) }
	// The text of a statement that is almost as long as the limit, and that of one which has almost as many tokens.
	long := func(length int) string { return " A " + impl.PrintExpr(longText(length)) }
	wide := " (" + impl.PrintExpr(alternatives(30)) + ") -" + impl.PrintExpr(alternatives(29))
	for _, c := range []struct {
		what string
		s    string
		code int64
	}{
		{"a long text", strings.Repeat(" ", 4001), impl.ErrInvalid},
		{"a very long text", "L" + strings.Repeat(" A", 1000000), impl.ErrInvalid},
		{"a long text with a short rest", "L" + strings.Repeat(" ", 4000), impl.ErrInvalid},
		{"a long text without a label", strings.Repeat("1", 4001), impl.ErrInvalid},
		{"a newline", " \n", impl.ErrInvalid},
		{"a newline behind a statement", " A\n", impl.ErrInvalid},
		{"a bad byte in the label", "L\x00 A", impl.ErrInvalid},
		{"a bad byte behind other errors", "1 A # \xff", impl.ErrInvalid},
		{"a letter outside of ASCII", " A '\u00e4'", impl.ErrInvalid},
		{"a label that is as long as a text can be", strings.Repeat("L", 4000), impl.ErrSyntax},
		{"nothing", "", impl.ErrSyntax},
		{"a blank", " ", impl.ErrSyntax},
		{"blanks", "  ", impl.ErrSyntax},
		{"MaxSource blanks", strings.Repeat(" ", 4000), impl.ErrSyntax},
		{"no label", "1 A", impl.ErrSyntax},
		{"no label and nothing else", "1", impl.ErrSyntax},
		{"a long label", "ABCDEFGHIJKLM A", impl.ErrSyntax},
		{"a label with a colon", "L:(A)", impl.ErrSyntax},
		{"a label with a parenthesis", "F(A) = 1", impl.ErrSyntax},
		{"a comment", "* A", impl.ErrSyntax},
		{"a label before too many tokens", "1" + names(121), impl.ErrSyntax},
		{"no token", " A #", impl.ErrSyntax},
		{"a string without an end", "L A 'x", impl.ErrSyntax},
		{"too many tokens", names(121), impl.ErrFull},
		{"too many tokens behind a label", "L" + names(121), impl.ErrFull},
		{"too many tokens that are no statement", " " + strings.Repeat(")", 121), impl.ErrFull},
		{"no token before too many tokens", " #" + names(121), impl.ErrSyntax},
		{"the example", " A =B", impl.ErrSyntax},
		{"no subject before a replacement", " = A", impl.ErrSyntax},
		{"an infix operator", " A + B", impl.ErrSyntax},
		{"an infix period", " A . B", impl.ErrSyntax},
		{"a binary operator at the end", " A B +", impl.ErrSyntax},
		{"no blank before the pattern", " (A)B", impl.ErrSyntax},
		{"no blank before a pattern in quotes", " A'x'", impl.ErrSyntax},
		{"no blank before a unary operator", " A-B", impl.ErrSyntax},
		{"no blank before a pattern that is too large", " A'x' F(A,A,A,A,A,A,A)", impl.ErrSyntax},
		{"a blank before an index", " A <B>", impl.ErrSyntax},
		{"no blank before =", " A= B", impl.ErrSyntax},
		{"no blanks around =", " A=B", impl.ErrSyntax},
		{"no blank before = and a pattern", " A B= C", impl.ErrSyntax},
		{"no blank between = and the goto", " A =:(B)", impl.ErrSyntax},
		{"two replacements", " A = B = C", impl.ErrSyntax},
		{"two = signs", " A = = B", impl.ErrSyntax},
		{"a replacement that is no expression", " A = )", impl.ErrSyntax},
		{"a replacement with more behind it", " A = B )", impl.ErrSyntax},
		{"only a colon", " :", impl.ErrSyntax},
		{"only a colon behind a subject", " A :", impl.ErrSyntax},
		{"no labels", " :()", impl.ErrSyntax},
		{"a number as a label", " :(1)", impl.ErrSyntax},
		{"a string as a label", " :('A')", impl.ErrSyntax},
		{"an expression as a label", " :(A B)", impl.ErrSyntax},
		{"no end of the label", " :(A", impl.ErrSyntax},
		{"no label behind the parenthesis", " :S(", impl.ErrSyntax},
		{"no parentheses", " :A", impl.ErrSyntax},
		{"no parentheses behind S", " :S", impl.ErrSyntax},
		{"no parentheses behind F", " :S(A)F", impl.ErrSyntax},
		{"another word", " :T(A)", impl.ErrSyntax},
		{"a small letter", " :s(A)", impl.ErrSyntax},
		{"a longer word", " :SF(A)", impl.ErrSyntax},
		{"a string as the word", " :'S'(A)", impl.ErrSyntax},
		{"another word behind a label", " :S(A)T(B)", impl.ErrSyntax},
		{"S twice", " A :S(L)S(M)", impl.ErrSyntax},
		{"F twice", " A :F(L)F(L)", impl.ErrSyntax},
		{"three labels", " A :S(L)F(L)S(L)", impl.ErrSyntax},
		{"S behind a label for both", " :(A)S(B)", impl.ErrSyntax},
		{"F behind a label for both", " :(A)F(B)", impl.ErrSyntax},
		{"a label for both behind S", " :S(A)(B)", impl.ErrSyntax},
		{"a label for both behind S and F", " :S(A)F(B)(C)", impl.ErrSyntax},
		{"two gotos", " :(A):(B)", impl.ErrSyntax},
		{"a goto before the subject", " :(A) B", impl.ErrSyntax},
		{"a comma in a goto", " :S(A),F(B)", impl.ErrSyntax},
		{"a subject that is too large", " (" + names(31) + ")", impl.ErrFull},
		{"a subject with too many arguments", " F(A,A,A,A,A,A,A)", impl.ErrFull},
		{"a pattern that is too large", " A" + names(31), impl.ErrFull},
		{"a replacement that is too large", " A =" + names(31), impl.ErrFull},
		{"a large subject before an error", " F(A,A,A,A,A,A,A) )", impl.ErrFull},
		{"a large pattern before an error", " A" + names(31) + " = )", impl.ErrFull},
		{"a large pattern before a bad goto", " A" + names(31) + " :", impl.ErrFull},
		{"an error before a large replacement", " A ) =" + names(31), impl.ErrSyntax},
		{"an error in a large pattern", " A" + names(31) + " |", impl.ErrSyntax},
		{"MaxSource bytes", long(3997), impl.OK},
		{"MaxSource bytes with a blank more in the text", long(3993) + ":(L)", impl.ErrFull},
		{"one byte less with a blank more in the text", long(3992) + ":(L)", impl.OK},
		{"MaxSource bytes with an empty string in the text", long(3995) + " =", impl.ErrFull},
		{"three bytes less with an empty string in the text", long(3992) + " =", impl.OK},
		{"two bytes less with an empty string in the text", long(3993) + " =", impl.ErrFull},
		{"MaxSource bytes with blanks that are not in the text", strings.Repeat(" ", 10) + long(3987), impl.OK},
		{"MaxTokens tokens", " (" + impl.PrintExpr(alternatives(30)) + ") " + impl.PrintExpr(alternatives(30)), impl.OK},
		{"one token more than MaxTokens", wide + " | A", impl.ErrFull},
		{"one token less than MaxTokens", wide, impl.OK},
		{"MaxTokens tokens with an empty string in the text", wide + " =", impl.ErrFull},
		{"MaxTokens tokens with parentheses that are not in the text", " " + strings.Repeat("(", 59) + "A" + strings.Repeat(")", 59) + " =", impl.OK},
	} {
		s, code := impl.ParseStatement(c.s)
		checkEqual(t, c.what, code, c.code)
		checkEqual(t, c.what+": valid", impl.ValidStatement(s), c.code == impl.OK)
		if c.code != impl.OK {
			checkStatement(t, c.what, s, impl.Statement{})
		}
	}
}

var gotoSyntax = regexp.MustCompile(`^ : (?:\( (\w+) \)|S \( (\w+) \)(?: F \( (\w+) \))?|F \( (\w+) \)(?: S \( (\w+) \))?)$`)

// modelGoto returns the goto field that consists of some tokens, and whether there is one.
func modelGoto(tokens []impl.Token) (impl.Goto, bool) {
	text := ""
	for _, token := range tokens {
		text += " " + impl.TokenText(token)
	}
	m := gotoSyntax.FindStringSubmatch(text)
	if m == nil {
		return impl.Goto{}, text == ""
	}
	g := impl.Goto{Always: m[1], Success: m[2] + m[5], Failure: m[3] + m[4]}
	isLabel := func(s string) bool { return s == "" || nameSyntax.MatchString(s) }
	return g, isLabel(g.Always) && isLabel(g.Success) && isLabel(g.Failure)
}

// modelParts returns the parts of a statement before the goto field, which begins with the first colon.
func modelParts(tokens []impl.Token) (impl.Statement, int64) {
	var s impl.Statement
	if len(tokens) == 0 {
		return s, impl.OK
	}
	isEqualSign := func(token impl.Token) bool { return token == apart(operator("=")) }
	e, at, code := impl.ParseElement(tokens, 0)
	if code != impl.OK {
		return s, code
	}
	s = subject(e)
	if rest := tokens[at:]; len(rest) > 0 && !isEqualSign(rest[0]) {
		if !rest[0].Before {
			return s, impl.ErrSyntax
		}
		if e, at, code = impl.ParseExpr(tokens, at); code != impl.OK {
			return s, code
		}
		s = withPattern(s, e)
	}
	switch rest := tokens[at:]; {
	case len(rest) == 0:
		return s, impl.OK
	case !isEqualSign(rest[0]):
		return s, impl.ErrSyntax
	case len(rest) == 1:
		return withReplace(s, literal("")), impl.OK
	}
	if e, at, code = impl.ParseExpr(tokens, at+1); code != impl.OK {
		return s, code
	}
	if at < int64(len(tokens)) {
		return s, impl.ErrSyntax
	}
	return withReplace(s, e), impl.OK
}

// modelStatement returns what ParseStatement returns for a text whose canonical form is not too long.
func modelStatement(text string) (impl.Statement, int64) {
	label, rest := text, ""
	if blank := strings.Index(text, " "); blank >= 0 {
		label, rest = text[:blank], text[blank:]
	}
	if !plainSyntax.MatchString(text) {
		return impl.Statement{}, impl.ErrInvalid
	}
	if label != "" && !nameSyntax.MatchString(label) {
		return impl.Statement{}, impl.ErrSyntax
	}
	tokens, _, code := impl.ScanTokens(rest)
	if code != impl.OK {
		return impl.Statement{}, code
	}
	colon := slices.IndexFunc(tokens, func(token impl.Token) bool { return token.Kind == impl.TkColon })
	if colon < 0 {
		colon = len(tokens)
	}
	s, code := modelParts(tokens[:colon])
	if code != impl.OK {
		return impl.Statement{}, code
	}
	var ok bool
	s.Label = label
	s.Goto, ok = modelGoto(tokens[colon:])
	if !ok || label == "" && len(tokens) == 0 {
		return impl.Statement{}, impl.ErrSyntax
	}
	return s, impl.OK
}

// statementTexts are texts with many statements, correct and incorrect ones.
func statementTexts() []string {
	var list []string
	eachText("A S():=", 6, func(s string) { list = append(list, s) })
	pieces := []string{" ", " ", "A", "L ", " = ", " =", " B", " 'x'", "F(", "(", ")", "<", ">", " - ", " -", " . X", " | ", "1", " :", "S(", "F(", " :S(A)", "F(B)", " :(L)", "#", "\n"}
	list = append(list, randomTexts(10, 60000, 10, pieces)...)
	correct := []string{" A", " B", " 'x'", " -1", " *X", " T<I>", " F(A,B C)", " (A | B)", " . X", " $ X", " + 1", " | B", " = A", " ="}
	for i, s := range randomTexts(11, 60000, 12, correct) {
		label := []string{"", "", "L", "END", "1"}[i%5]
		field := []string{"", "", " :(A)", " :S(A)", " :F(B)", " :S(A)F(B)", " :F(B)S(A)", ":(A)", " :S(A)S(A)"}[i%9]
		list = append(list, label+s+field)
	}
	return list
}

func TestParseStatementAgainstModel(t *testing.T) {
	parsed := 0
	for _, text := range statementTexts() {
		want, code := modelStatement(text)
		checkParsedStatement(t, text, want, code)
		if code == impl.OK {
			parsed++
		}
	}
	if parsed < 15000 {
		t.Errorf("only %d statements were parsed", parsed)
	}
}

// manyStatements calls visit with statements that combine various parts.
func manyStatements(t *testing.T, visit func(s impl.Statement)) {
	t.Helper()
	var list []impl.Expr
	for _, text := range []string{"A", "'x'", "''", "7", "F()", "F(A,B)", "A<B>", "A | B", "A B", "A - B", "A * B", "A . X", "-A", "$A", ".A", "*A", "@A", "(A | B)<C>", "-(A B) . X"} {
		e, ok := impl.ExprOf(text)
		checkEqual(t, text, ok, true)
		list = append(list, e)
	}
	gotos := []impl.Goto{{}, {Always: "A"}, {Success: "S"}, {Failure: "F"}, {Success: "F", Failure: "S"}}
	for i, label := range []string{"", "L", "END"} {
		for j, g := range gotos {
			visit(impl.Statement{Label: label, Goto: g})
			for _, a := range list {
				s := impl.Statement{Label: label, Goto: g, HasSubject: true, Subject: a}
				visit(s)
				for _, b := range list {
					visit(withPattern(s, b))
					visit(withReplace(s, b))
					visit(withReplace(withPattern(s, b), list[(i+3*j)%len(list)]))
				}
			}
		}
	}
}

// TestStatementsAreRecoveredFromText is the first part of promise 5.
func TestStatementsAreRecoveredFromText(t *testing.T) {
	recovered := 0
	manyStatements(t, func(s impl.Statement) {
		text := impl.PrintStatement(s)
		if !impl.ValidStatement(s) {
			checkEqual(t, fmt.Sprintf("%+v", s), text, "")
			return
		}
		checkParsedStatement(t, text, s, impl.OK)
		recovered++
	})
	if recovered < 10000 {
		t.Errorf("only %d statements were recovered", recovered)
	}
}

// TestParsedStatementsAreValid is the second part of promise 5, and the first part for what was parsed.
func TestParsedStatementsAreValid(t *testing.T) {
	for _, text := range statementTexts() {
		s, code := impl.ParseStatement(text)
		checkEqual(t, text, impl.ValidStatement(s), code == impl.OK)
		if code == impl.OK {
			checkParsedStatement(t, impl.PrintStatement(s), s, impl.OK)
		}
	}
}

func TestSameStatement(t *testing.T) {
	a, b := variable("A"), variable("B")
	list := []impl.Statement{
		{}, {Label: "L"}, {Label: "M"}, {HasSubject: true}, {HasPattern: true}, {HasReplace: true},
		{Subject: a}, {Pattern: a}, {Replace: a}, {Subject: b}, {Pattern: b}, {Replace: b},
		{Goto: impl.Goto{Always: "L"}}, {Goto: impl.Goto{Success: "L"}}, {Goto: impl.Goto{Failure: "L"}}, {Goto: impl.Goto{Success: "L", Failure: "L"}},
		subject(a), withPattern(subject(a), b), withReplace(subject(a), b), withReplace(withPattern(subject(a), b), a), exampleStatement(),
		subject(nested(impl.ExNeg, 100, a)), subject(nested(impl.ExNeg, 100, b)),
	}
	for i, s := range list {
		for j, other := range list {
			other.Subject, other.Pattern, other.Replace = copyExpr(other.Subject), copyExpr(other.Pattern), copyExpr(other.Replace)
			checkEqual(t, fmt.Sprintf("%+v and %+v", s, other), impl.SameStatement(s, other), i == j)
		}
	}
	strange := withPattern(withReplace(subject(sharedKids(100)), endlessKids(2)), nested(impl.ExNeg, 100000, a))
	equal := withPattern(withReplace(subject(sharedKids(100)), endlessKids(3)), nested(impl.ExNeg, 100000, a))
	checkEqual(t, "strange statements", impl.SameStatement(strange, equal), true)
	equal.Pattern.Text = "A"
	checkEqual(t, "strange statements that differ", impl.SameStatement(strange, equal), false)
	empty := impl.Statement{Subject: impl.Expr{Kids: []impl.Expr{}}}
	checkEqual(t, "nil and empty Kids", impl.SameStatement(empty, impl.Statement{}), true)
}
