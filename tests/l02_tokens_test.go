package tests

import (
	"math"
	"regexp"
	"slices"
	"strconv"
	"strings"
	"testing"

	"loop.example/g00873/impl"
)

func TestTokenConstants(t *testing.T) {
	for i, kind := range []int64{impl.TkName, impl.TkInteger, impl.TkString, impl.TkOp, impl.TkOpen, impl.TkClose, impl.TkLeft, impl.TkRight, impl.TkComma, impl.TkColon} {
		checkEqual(t, "kind", kind, int64(i+1))
	}
	checkEqual(t, "MaxTokens", int64(impl.MaxTokens), 120)
	checkEqual(t, "MaxName", int64(impl.MaxName), 12)
	checkEqual(t, "MaxString", int64(impl.MaxString), 200)
	checkEqual(t, "MaxInteger", int64(impl.MaxInteger), 1000000000000)
}

func TestIsName(t *testing.T) {
	for _, c := range []struct {
		s    string
		want bool
	}{
		{"A", true}, {"z", true}, {"a_1", true}, {"A__", true}, {"OUTPUT", true}, {"a9", true},
		{"ABCDEFGHIJKL", true}, {"ABCDEFGHIJKLM", false}, {"a23456789_12", true}, {"a23456789_123", false},
		{"", false}, {"1", false}, {"1a", false}, {"_", false}, {"_a", false}, {"a b", false}, {" a", false},
		{"a ", false}, {"a-b", false}, {"a.", false}, {"\u00e4", false}, {"a\u00e4", false}, {"a\xff", false}, {"a\x00", false},
		{strings.Repeat("a", 1000000), false},
	} {
		checkEqual(t, c.s, impl.IsName(c.s), c.want)
	}
	letters := regexp.MustCompile("^[A-Za-z]$")
	others := regexp.MustCompile("^[A-Za-z0-9_]$")
	for _, s := range allBytes() {
		checkEqual(t, s, impl.IsName(s), letters.MatchString(s))
		checkEqual(t, "a"+s, impl.IsName("a"+s), others.MatchString(s))
		checkEqual(t, "a"+s+"b", impl.IsName("a"+s+"b"), others.MatchString(s))
	}
}

func TestIsOperator(t *testing.T) {
	for _, s := range allBytes() {
		checkEqual(t, s, impl.IsOperator(s), strings.Contains("+-*/|.$@=", s))
	}
	for _, s := range []string{"", "++", "+ ", " +", "==", "\u2212", "(", ":"} {
		checkEqual(t, s, impl.IsOperator(s), false)
	}
}

func TestCanQuoteAndQuoteString(t *testing.T) {
	for _, c := range []struct {
		s    string
		can  bool
		want string
	}{
		{"it's", true, "\"it's\""},
		{"", true, "''"},
		{" ", true, "' '"},
		{"a\"b", true, "'a\"b'"},
		{"'", true, "\"'\""},
		{"\"", true, "'\"'"},
		{"''", true, "\"''\""},
		{"'\"", false, ""},
		{"\"'", false, ""},
		{"a'b\"c", false, ""},
		{strings.Repeat("a", 200), true, "'" + strings.Repeat("a", 200) + "'"},
		{strings.Repeat("'", 200), true, "\"" + strings.Repeat("'", 200) + "\""},
		{strings.Repeat("a", 201), false, ""},
		{strings.Repeat("a", 1000000), false, ""},
		{strings.Repeat("a", 199) + "\n", false, ""},
		{"\u00e4", false, ""},
		{"a\nb", false, ""},
	} {
		checkEqual(t, "CanQuote "+c.s, impl.CanQuote(c.s), c.can)
		checkEqual(t, "QuoteString "+c.s, impl.QuoteString(c.s), c.want)
	}
	for i, s := range allBytes() {
		checkEqual(t, "CanQuote "+s, impl.CanQuote(s), i >= 32 && i <= 126)
		checkEqual(t, "CanQuote a"+s, impl.CanQuote("a"+s), i >= 32 && i <= 126)
	}
}

// validTexts has, for the tokens that ordinary programs have, their texts.
var validTexts = map[impl.Token]string{
	{Kind: impl.TkName, Text: "A"}:                               "A",
	{Kind: impl.TkName, Text: "a23456789_12"}:                    "a23456789_12",
	{Kind: impl.TkInteger}:                                       "0",
	{Kind: impl.TkInteger, Num: 7}:                               "7",
	{Kind: impl.TkInteger, Num: 1000000000000}:                   "1000000000000",
	{Kind: impl.TkString}:                                        "''",
	{Kind: impl.TkString, Text: "x"}:                             "'x'",
	{Kind: impl.TkString, Text: "it's"}:                          "\"it's\"",
	{Kind: impl.TkString, Text: "\""}:                            "'\"'",
	{Kind: impl.TkString, Text: strings.Repeat("; ", 100)}:       "'" + strings.Repeat("; ", 100) + "'",
	{Kind: impl.TkString, Text: "\"" + strings.Repeat(" ~", 99)}: "'\"" + strings.Repeat(" ~", 99) + "'",
	{Kind: impl.TkString, Text: "'" + strings.Repeat("#", 199)}:  "\"'" + strings.Repeat("#", 199) + "\"",
	{Kind: impl.TkOp, Text: "+"}:                                 "+",
	{Kind: impl.TkOp, Text: "-"}:                                 "-",
	{Kind: impl.TkOp, Text: "*"}:                                 "*",
	{Kind: impl.TkOp, Text: "/"}:                                 "/",
	{Kind: impl.TkOp, Text: "|"}:                                 "|",
	{Kind: impl.TkOp, Text: "."}:                                 ".",
	{Kind: impl.TkOp, Text: "$"}:                                 "$",
	{Kind: impl.TkOp, Text: "@"}:                                 "@",
	{Kind: impl.TkOp, Text: "="}:                                 "=",
	{Kind: impl.TkOpen}:                                          "(",
	{Kind: impl.TkClose}:                                         ")",
	{Kind: impl.TkLeft}:                                          "<",
	{Kind: impl.TkRight}:                                         ">",
	{Kind: impl.TkComma}:                                         ",",
	{Kind: impl.TkColon}:                                         ":",
}

func TestTokenText(t *testing.T) {
	for token, want := range validTexts {
		for _, blanks := range [][2]bool{{false, false}, {false, true}, {true, false}, {true, true}} {
			token.Before, token.After = blanks[0], blanks[1]
			checkEqual(t, want+" is valid", impl.ValidToken(token), true)
			checkEqual(t, want, impl.TokenText(token), want)
		}
	}
}

var (
	nameSyntax     = regexp.MustCompile(`\A[A-Za-z][A-Za-z0-9_]{0,11}\z`)
	operatorSyntax = regexp.MustCompile(`\A[-+*/|.$@=]\z`)
	noSingleQuote  = regexp.MustCompile(`\A[ -&(-~]{0,200}\z`)
	noDoubleQuote  = regexp.MustCompile(`\A[ !#-~]{0,200}\z`)
	plainSyntax    = regexp.MustCompile(`\A[ -~]*\z`)
)

// modelToken returns the text of a token as the table of chapter 2 has it, and the empty string for an invalid one.
func modelToken(token impl.Token) string {
	marks := map[int64]string{impl.TkOpen: "(", impl.TkClose: ")", impl.TkLeft: "<", impl.TkRight: ">", impl.TkComma: ",", impl.TkColon: ":"}
	fits := func(syntax *regexp.Regexp) bool { return syntax.MatchString(token.Text) }
	number := strconv.FormatInt(token.Num, 10)
	switch {
	case token.Kind == impl.TkInteger && token.Text == "" && token.Num >= 0 && token.Num <= 1000000000000:
		return number
	case token.Num != 0:
		return ""
	case token.Kind == impl.TkName && fits(nameSyntax), token.Kind == impl.TkOp && fits(operatorSyntax):
		return token.Text
	case token.Kind == impl.TkString && fits(noSingleQuote):
		return "'" + token.Text + "'"
	case token.Kind == impl.TkString && fits(noDoubleQuote):
		return "\"" + token.Text + "\""
	case token.Text == "":
		return marks[token.Kind]
	}
	return ""
}

// manyTokens returns tokens with all combinations of usual and unusual fields.
func manyTokens() []impl.Token {
	kinds := []int64{math.MinInt64, -1, 0, 1, 2, 3, 4, 5, 6, 7, 8, 9, 10, 11, 12, 255, 257, 258, math.MaxInt64}
	numbers := []int64{math.MinInt64, -1, 0, 1, 10, 999999999999, 1000000000000, 1000000000001, math.MaxInt64}
	texts := []string{"", "A", "a_1", "ABCDEFGHIJKL", "ABCDEFGHIJKLM", "1", "_", "+", "=", "@", "++", "(", ")", "<", ">", ",", ":", ";", " ", "A B", "it's", "\"", "'\"", "\n", "a\xff", "\u00e4", "0", strings.Repeat("x", 200), strings.Repeat("x", 201)}
	var list []impl.Token
	for _, kind := range kinds {
		for _, number := range numbers {
			for _, text := range texts {
				for _, blanks := range [][2]bool{{false, false}, {false, true}, {true, false}, {true, true}} {
					list = append(list, impl.Token{Kind: kind, Num: number, Text: text, Before: blanks[0], After: blanks[1]})
				}
			}
		}
	}
	return list
}

func TestTokensAgainstModel(t *testing.T) {
	valid := 0
	for _, token := range manyTokens() {
		want := modelToken(token)
		if want != "" {
			valid++
		}
		checkEqual(t, "TokenText", impl.TokenText(token), want)
		checkEqual(t, "ValidToken", impl.ValidToken(token), want != "")
		checkEqual(t, "IsInfix", impl.IsInfix(token), want != "" && token.Kind == impl.TkOp && token.Before && token.After)
		checkEqual(t, "PrintTokens", impl.PrintTokens([]impl.Token{token}), want)
	}
	if valid < 100 {
		t.Errorf("only %d tokens are valid", valid)
	}
}

func checkScan(t *testing.T, s string, list []impl.Token, number, code int64) {
	t.Helper()
	gotList, gotNumber, gotCode := impl.ScanTokens(s)
	checkList(t, s, gotList, list)
	checkEqual(t, s+": number", gotNumber, number)
	checkEqual(t, s+": code", gotCode, code)
}

func name(s string) impl.Token     { return impl.Token{Kind: impl.TkName, Text: s} }
func integer(n int64) impl.Token   { return impl.Token{Kind: impl.TkInteger, Num: n} }
func quoted(s string) impl.Token   { return impl.Token{Kind: impl.TkString, Text: s} }
func operator(s string) impl.Token { return impl.Token{Kind: impl.TkOp, Text: s} }
func mark(kind int64) impl.Token   { return impl.Token{Kind: kind} }

// before, after and apart return tokens with blanks where their names say so.
func before(token impl.Token) impl.Token {
	token.Before = true
	return token
}

func after(token impl.Token) impl.Token {
	token.After = true
	return token
}

func apart(token impl.Token) impl.Token {
	return before(after(token))
}

func TestScanTokens(t *testing.T) {
	for _, c := range []struct {
		s    string
		want []impl.Token
	}{
		{"A = B 'x'", []impl.Token{apart(name("A")), apart(operator("=")), apart(name("B")), apart(quoted("x"))}},
		{"", nil},
		{"   ", nil},
		{"A", []impl.Token{apart(name("A"))}},
		{"  A  ", []impl.Token{apart(name("A"))}},
		{"A -B", []impl.Token{apart(name("A")), before(operator("-")), after(name("B"))}},
		{"A - B", []impl.Token{apart(name("A")), apart(operator("-")), apart(name("B"))}},
		{"A- B", []impl.Token{before(name("A")), after(operator("-")), apart(name("B"))}},
		{"A-B", []impl.Token{before(name("A")), operator("-"), after(name("B"))}},
		{"-A", []impl.Token{before(operator("-")), after(name("A"))}},
		{"- ", []impl.Token{apart(operator("-"))}},
		{"007", []impl.Token{apart(integer(7))}},
		{"0", []impl.Token{apart(integer(0))}},
		{"0000000000000", []impl.Token{apart(integer(0))}},
		{"0000000000001", []impl.Token{apart(integer(1))}},
		{"1000000000000", []impl.Token{apart(integer(1000000000000))}},
		{"12A", []impl.Token{before(integer(12)), after(name("A"))}},
		{"A12", []impl.Token{apart(name("A12"))}},
		{"a_B9", []impl.Token{apart(name("a_B9"))}},
		{"ABCDEFGHIJKL", []impl.Token{apart(name("ABCDEFGHIJKL"))}},
		{"''", []impl.Token{apart(quoted(""))}},
		{"\"\"", []impl.Token{apart(quoted(""))}},
		{"\"it's\"", []impl.Token{apart(quoted("it's"))}},
		{"'a'\"b\"'c'", []impl.Token{before(quoted("a")), quoted("b"), after(quoted("c"))}},
		{"'a''b'", []impl.Token{before(quoted("a")), after(quoted("b"))}},
		{"'#;~' ", []impl.Token{apart(quoted("#;~"))}},
		{"' x '", []impl.Token{apart(quoted(" x "))}},
		{"'x 'A", []impl.Token{before(quoted("x ")), after(name("A"))}},
		{"'" + strings.Repeat("x", 200) + "'", []impl.Token{apart(quoted(strings.Repeat("x", 200)))}},
		{"F(A,B<1>) :S(L)", []impl.Token{before(name("F")), mark(impl.TkOpen), name("A"), mark(impl.TkComma), name("B"), mark(impl.TkLeft), integer(1), mark(impl.TkRight), after(mark(impl.TkClose)), before(mark(impl.TkColon)), name("S"), mark(impl.TkOpen), name("L"), after(mark(impl.TkClose))}},
		{"+-*/|.$@=", []impl.Token{before(operator("+")), operator("-"), operator("*"), operator("/"), operator("|"), operator("."), operator("$"), operator("@"), after(operator("="))}},
		{strings.Repeat(" ", 3999) + "A", []impl.Token{apart(name("A"))}},
		{strings.Repeat(" ", 4000), nil},
		{strings.Repeat("+ ", 120), slices.Repeat([]impl.Token{apart(operator("+"))}, 120)},
	} {
		checkScan(t, c.s, c.want, 0, impl.OK)
	}
}

func TestScanTokensErrors(t *testing.T) {
	for _, c := range []struct {
		what         string
		s            string
		number, code int64
	}{
		{"a long text", strings.Repeat(" ", 4001), 0, impl.ErrInvalid},
		{"a very long text", strings.Repeat("+", 1000000), 0, impl.ErrInvalid},
		{"a newline", "A\n", 0, impl.ErrInvalid},
		{"a tab", "A\tB", 0, impl.ErrInvalid},
		{"a newline in a string", "'\n'", 0, impl.ErrInvalid},
		{"a letter outside of ASCII", "A \u00e4", 0, impl.ErrInvalid},
		{"a bad byte after an error", "# \x00", 0, impl.ErrInvalid},
		{"a bad byte after too many tokens", strings.Repeat("+", 121) + "\x7f", 0, impl.ErrInvalid},
		{"the example", "A # B", 2, impl.ErrSyntax},
		{"no token", "#", 0, impl.ErrSyntax},
		{"no token after blanks", "   ;", 3, impl.ErrSyntax},
		{"an underscore", "A _B", 2, impl.ErrSyntax},
		{"a string without an end", "A 'x", 2, impl.ErrSyntax},
		{"a string with the wrong end", "A  'x\" B", 3, impl.ErrSyntax},
		{"a single quote", "\"", 0, impl.ErrSyntax},
		{"a second string without an end", "'a''", 3, impl.ErrSyntax},
		{"a long name", " ABCDEFGHIJKLM", 1, impl.ErrSyntax},
		{"a long name with digits", "A + a23456789_123 ", 4, impl.ErrSyntax},
		{"a large integer", "A 1000000000001", 2, impl.ErrSyntax},
		{"the largest integer of 13 digits", "9999999999999", 0, impl.ErrSyntax},
		{"14 digits", "A 00000000000001", 2, impl.ErrSyntax},
		{"many digits", strings.Repeat("9", 4000), 0, impl.ErrSyntax},
		{"a long string", "A '" + strings.Repeat("x", 201) + "' #", 2, impl.ErrSyntax},
		{"a long string in the other quotes", "\"" + strings.Repeat("x", 201) + "\"", 0, impl.ErrSyntax},
		{"the first of two errors", "A # ABCDEFGHIJKLM", 2, impl.ErrSyntax},
		{"one token too many", strings.Repeat("+", 121), 120, impl.ErrFull},
		{"one token too many, with blanks", strings.Repeat("A ", 121), 240, impl.ErrFull},
		{"many tokens too many", strings.Repeat("A ", 2000), 240, impl.ErrFull},
		{"too many tokens before an error", strings.Repeat("+", 121) + "#", 120, impl.ErrFull},
		{"an error after MaxTokens tokens", strings.Repeat("+", 120) + " #", 121, impl.ErrSyntax},
		{"a bad token after MaxTokens tokens", strings.Repeat("+", 120) + "ABCDEFGHIJKLM", 120, impl.ErrSyntax},
		{"an error before too many tokens", "#" + strings.Repeat("+", 121), 0, impl.ErrSyntax},
	} {
		t.Run(c.what, func(t *testing.T) { checkScan(t, c.s, nil, c.number, c.code) })
	}
}

func TestBytesOfTokens(t *testing.T) {
	begins := regexp.MustCompile(`^[A-Za-z0-9()<>,:+*/|.$@= -]$`)
	for i, s := range allBytes() {
		number, code := int64(2), int64(impl.ErrSyntax)
		if i < 32 || i > 126 {
			number, code = 0, impl.ErrInvalid
		} else if begins.MatchString(s) {
			number, code = 0, impl.OK
		}
		_, gotNumber, gotCode := impl.ScanTokens("A " + s)
		checkEqual(t, "number for "+s, gotNumber, number)
		checkEqual(t, "code for "+s, gotCode, code)
	}
}

var tokenSyntax = regexp.MustCompile(`^(?:([A-Za-z][A-Za-z0-9_]*)|([0-9]+)|'([^']*)'|"([^"]*)"|([-+*/|.$@=])|([()<>,:]))`)

// modelTokenAt returns the token at the beginning of s and its length, which is 0 if there is none.
func modelTokenAt(s string) (impl.Token, int) {
	m := tokenSyntax.FindStringSubmatch(s)
	if m == nil {
		return impl.Token{}, 0
	}
	token := impl.Token{Text: m[0]}
	switch {
	case m[1] != "":
		token.Kind = impl.TkName
	case m[2] != "":
		number, err := strconv.ParseInt(m[2], 10, 64)
		token = impl.Token{Kind: impl.TkInteger, Num: number}
		if err != nil || len(m[2]) > 13 {
			return impl.Token{}, 0
		}
	case m[5] != "":
		token.Kind = impl.TkOp
	case m[6] != "":
		token = impl.Token{Kind: int64(strings.Index("()<>,:", m[6])) + impl.TkOpen}
	default:
		token = impl.Token{Kind: impl.TkString, Text: m[3] + m[4]}
	}
	if modelToken(token) == "" {
		return impl.Token{}, 0
	}
	return token, len(m[0])
}

func modelScan(s string) ([]impl.Token, int64, int64) {
	if !plainSyntax.MatchString(s) || len(s) > 4000 {
		return nil, 0, impl.ErrInvalid
	}
	var list []impl.Token
	rest := strings.TrimLeft(s, " ")
	gap := true
	for rest != "" {
		token, length := modelTokenAt(rest)
		if length == 0 {
			return nil, int64(len(s) - len(rest)), impl.ErrSyntax
		}
		if len(list) == 120 {
			return nil, int64(len(s) - len(rest)), impl.ErrFull
		}
		token.Before = gap
		next := strings.TrimLeft(rest[length:], " ")
		gap = next == "" || len(next) < len(rest)-length
		token.After = gap
		list = append(list, token)
		rest = next
	}
	return list, 0, impl.OK
}

// tokenTexts are texts that contain what matters to tokens in many combinations.
func tokenTexts() []string {
	var list []string
	eachText("a1_ '\"+#", 5, func(s string) { list = append(list, s) })
	pieces := []string{" ", "  ", "A", "B9", "a_b", "ABCDEFGHIJ", "0", "42", "007", "100000", "'", "\"", "'x'", "\"it's\"", "' '", "(", ")", "<", ">", ",", ":", "=", "-", " | ", "$", "@", "*"}
	list = append(list, randomTexts(2, 20000, 30, pieces)...)
	return append(list, randomTexts(3, 2000, 300, pieces)...)
}

func TestScanTokensAgainstModel(t *testing.T) {
	for _, s := range tokenTexts() {
		list, number, code := modelScan(s)
		checkScan(t, s, list, number, code)
	}
}

func TestPrintTokens(t *testing.T) {
	list, _, _ := impl.ScanTokens("A = B 'x'")
	checkEqual(t, "example", impl.PrintTokens(list), "A = B 'x'")
	bad := name("")
	for _, c := range []struct {
		list []impl.Token
		want string
	}{
		{nil, ""},
		{[]impl.Token{}, ""},
		{[]impl.Token{apart(name("A"))}, "A"},
		{[]impl.Token{name("A"), name("B")}, "AB"},
		{[]impl.Token{after(name("A")), name("B")}, "A B"},
		{[]impl.Token{name("A"), before(name("B"))}, "A B"},
		{[]impl.Token{after(name("A")), before(name("B"))}, "A B"},
		{[]impl.Token{before(name("A")), after(name("B"))}, "AB"},
		{[]impl.Token{integer(7), apart(operator("*")), quoted("it's")}, "7 * \"it's\""},
		{[]impl.Token{bad}, ""},
		{[]impl.Token{bad, name("A")}, ""},
		{[]impl.Token{name("A"), bad}, ""},
		{[]impl.Token{name("A"), bad, name("B")}, ""},
		{slices.Repeat([]impl.Token{name("A")}, 100000), strings.Repeat("A", 100000)},
		{append(slices.Repeat([]impl.Token{name("A")}, 100000), impl.Token{}), ""},
	} {
		checkEqual(t, c.want, impl.PrintTokens(c.list), c.want)
	}
}

func TestIsInfix(t *testing.T) {
	binary, _, _ := impl.ScanTokens("A - B")
	unary, _, _ := impl.ScanTokens("A -B")
	checkEqual(t, "binary", impl.IsInfix(binary[1]), true)
	checkEqual(t, "unary", impl.IsInfix(unary[1]), false)
	for _, symbol := range []string{"+", "-", "*", "/", "|", ".", "$", "@", "="} {
		checkEqual(t, symbol, impl.IsInfix(apart(operator(symbol))), true)
		checkEqual(t, symbol, impl.IsInfix(before(operator(symbol))), false)
		checkEqual(t, symbol, impl.IsInfix(after(operator(symbol))), false)
		checkEqual(t, symbol, impl.IsInfix(operator(symbol)), false)
	}
	for _, token := range []impl.Token{name("A"), integer(1), quoted("+"), mark(impl.TkOpen), operator("++"), operator(""), {Kind: impl.TkOp, Text: "+", Num: 1}} {
		checkEqual(t, "no operator", impl.IsInfix(apart(token)), false)
	}
}

// TestTokensAreRecovered is the first part of promise 3.
func TestTokensAreRecovered(t *testing.T) {
	recovered := 0
	for _, s := range append(tokenTexts(), strings.Repeat("+ ", 120), "A = B 'x'") {
		list, _, code := impl.ScanTokens(s)
		if code != impl.OK {
			continue
		}
		checkScan(t, impl.PrintTokens(list), list, 0, impl.OK)
		recovered += len(list)
	}
	if recovered < 50000 {
		t.Errorf("only %d tokens were recovered", recovered)
	}
	for token, text := range validTexts {
		checkScan(t, text, []impl.Token{apart(token)}, 0, impl.OK)
		checkScan(t, impl.TokenText(token), []impl.Token{apart(token)}, 0, impl.OK)
	}
}

// TestStringsAreRecovered is the second part of promise 3.
func TestStringsAreRecovered(t *testing.T) {
	texts := append(allBytes(), strings.Repeat("x", 200), strings.Repeat("x", 201), strings.Repeat("'", 200), strings.Repeat("\"", 200))
	eachText("a ;'\"\n", 5, func(s string) { texts = append(texts, s) })
	for _, s := range texts {
		if !impl.CanQuote(s) {
			checkEqual(t, "literal of "+s, impl.QuoteString(s), "")
			continue
		}
		checkScan(t, impl.QuoteString(s), []impl.Token{apart(quoted(s))}, 0, impl.OK)
	}
}
