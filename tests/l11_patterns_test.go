package tests

import (
	"fmt"
	"math"
	"math/rand"
	"regexp"
	"slices"
	"strconv"
	"strings"
	"testing"

	"loop.example/g00873/impl"
)

// bare, texted, numbered, tree and capturing return patterns: without fields,
// with a Text, with a Num, with Kids, and with a Kid and a Text.
func bare(kind int64) impl.Pattern              { return impl.Pattern{Kind: kind} }
func texted(kind int64, s string) impl.Pattern  { return impl.Pattern{Kind: kind, Text: s} }
func numbered(kind int64, n int64) impl.Pattern { return impl.Pattern{Kind: kind, Num: n} }

func tree(kind int64, kids ...impl.Pattern) impl.Pattern {
	return impl.Pattern{Kind: kind, Kids: kids}
}

func capturing(kind int64, kid impl.Pattern, s string) impl.Pattern {
	return impl.Pattern{Kind: kind, Text: s, Kids: []impl.Pattern{kid}}
}

// readPattern returns the pattern with a text form, which must be one.
func readPattern(t *testing.T, s string) impl.Pattern {
	t.Helper()
	p, ok := impl.ReadPattern(s)
	if !ok {
		t.Fatalf("ReadPattern(%.200q) failed", s)
	}
	return p
}

// stacked returns a pattern with count nodes above another one.
func stacked(count int, p impl.Pattern) impl.Pattern {
	for range count {
		p = tree(impl.PtArbno, p)
	}
	return p
}

// leftChain returns the alternation of count equal patterns, associated to the left.
func leftChain(p impl.Pattern, count int) impl.Pattern {
	chain := p
	for range count - 1 {
		chain = tree(impl.PtAlt, chain, p)
	}
	return chain
}

// sharedPattern returns a pattern with 2^(depth + 1) - 1 nodes that needs little memory.
func sharedPattern(depth int) impl.Pattern {
	p := bare(impl.PtRem)
	for range depth {
		p = tree(impl.PtCat, p, p)
	}
	return p
}

// endlessPattern returns a pattern without end: a chain of length nodes, the last of which contains the first.
func endlessPattern(length int) impl.Pattern {
	first := []impl.Pattern{bare(impl.PtArbno)}
	last := first
	for range length - 1 {
		kids := []impl.Pattern{bare(impl.PtArbno)}
		last[0].Kids = kids
		last = kids
	}
	last[0].Kids = first
	return first[0]
}

// equalPatterns reports whether two patterns that are neither large nor deep are equal.
func equalPatterns(a, b impl.Pattern) bool {
	return a.Kind == b.Kind && a.Num == b.Num && a.Text == b.Text && slices.EqualFunc(a.Kids, b.Kids, equalPatterns)
}

func checkPattern(t *testing.T, what string, got, want impl.Pattern) {
	t.Helper()
	if !equalPatterns(got, want) {
		t.Errorf("%.200s: got %.300q, want %.300q", what, fmt.Sprint(got), fmt.Sprint(want))
	}
}

// copyPattern returns an equal pattern that shares no memory.
func copyPattern(p impl.Pattern) impl.Pattern {
	p.Text = strings.Clone(p.Text)
	p.Kids = slices.Clone(p.Kids)
	for i := range p.Kids {
		p.Kids[i] = copyPattern(p.Kids[i])
	}
	return p
}

// patternKinds has the kinds of patterns in the order of their numbers.
var patternKinds = []int64{
	impl.PtString, impl.PtAny, impl.PtNotAny, impl.PtSpan, impl.PtBreak, impl.PtLen, impl.PtPos, impl.PtRPos, impl.PtTab, impl.PtRTab,
	impl.PtRem, impl.PtArb, impl.PtBal, impl.PtFence, impl.PtAbort, impl.PtFail, impl.PtSucceed,
	impl.PtAlt, impl.PtCat, impl.PtArbno, impl.PtCond, impl.PtNow, impl.PtCursor, impl.PtDefer,
}

func TestPatternConstants(t *testing.T) {
	checkEqual(t, "number of kinds", len(patternKinds), 24)
	for i, kind := range patternKinds {
		checkEqual(t, "kind", kind, int64(i+1))
	}
	checkEqual(t, "MaxNamed", int64(impl.MaxNamed), 40)
}

func TestPatternExamples(t *testing.T) {
	checkEqual(t, "len(-1)", impl.ValidPattern(numbered(impl.PtLen, -1)), false)
	checkEqual(t, "the nodes of alt(rem,fail)", impl.CountNodes(readPattern(t, "alt(rem,fail)")), 3)
	checkEqual(t, "a concatenation", impl.PatternText(tree(impl.PtCat, texted(impl.PtString, `a"b`), numbered(impl.PtLen, 2))), `cat("a""b",len(2))`)
	for _, s := range []string{"len(02)", "rem()"} {
		p, ok := impl.ReadPattern(s)
		checkEqual(t, s, ok, false)
		checkPattern(t, s, p, impl.Pattern{})
	}
	chain, ok := impl.CatOf([]impl.Pattern{bare(impl.PtRem), bare(impl.PtArb), bare(impl.PtBal)})
	checkEqual(t, "CatOf: ok", ok, true)
	checkEqual(t, "CatOf", impl.PatternText(chain), "cat(rem,cat(arb,bal))")
	checkList(t, "DeferredNames", impl.DeferredNames(readPattern(t, "cat(defer(x),alt(defer(y),defer(x)))")), []string{"x", "y"})
	twice := []impl.Named{{Name: "x", Pattern: bare(impl.PtRem)}, {Name: "x", Pattern: bare(impl.PtArb)}}
	checkEqual(t, "two elements with the same name", impl.ValidEnv(twice), false)
}

// patternRow is a valid pattern with its text form and the number of its nodes.
type patternRow struct {
	p     impl.Pattern
	text  string
	nodes int64
}

func patternRows() []patternRow {
	rem, long := bare(impl.PtRem), strings.Repeat("x", 200)
	return []patternRow{
		{texted(impl.PtString, ""), `""`, 1},
		{texted(impl.PtString, "a"), `"a"`, 1},
		{texted(impl.PtString, `"`), `""""`, 1},
		{texted(impl.PtString, `""`), `""""""`, 1},
		{texted(impl.PtString, `a"b`), `"a""b"`, 1},
		{texted(impl.PtString, `"a`), `"""a"`, 1},
		{texted(impl.PtString, `a"`), `"a"""`, 1},
		{texted(impl.PtString, `a""b`), `"a""""b"`, 1},
		{texted(impl.PtString, "it's"), `"it's"`, 1},
		{texted(impl.PtString, " a b "), `" a b "`, 1},
		{texted(impl.PtString, "rem"), `"rem"`, 1},
		{texted(impl.PtString, ",)("), `",)("`, 1},
		{texted(impl.PtString, "\x00\n\xff"), "\"\x00\n\xff\"", 1},
		{texted(impl.PtString, "\u20ac"), "\"\u20ac\"", 1},
		{texted(impl.PtString, long), `"` + long + `"`, 1},
		{texted(impl.PtString, strings.Repeat(`"`, 200)), `"` + strings.Repeat(`"`, 400) + `"`, 1},
		{texted(impl.PtAny, "a"), `any("a")`, 1},
		{texted(impl.PtAny, `"`), `any("""")`, 1},
		{texted(impl.PtAny, "aa"), `any("aa")`, 1},
		{texted(impl.PtAny, long), `any("` + long + `")`, 1},
		{texted(impl.PtNotAny, "("), `notany("(")`, 1},
		{texted(impl.PtNotAny, long), `notany("` + long + `")`, 1},
		{texted(impl.PtSpan, "0123456789"), `span("0123456789")`, 1},
		{texted(impl.PtSpan, "\xff"), "span(\"\xff\")", 1},
		{texted(impl.PtSpan, long), `span("` + long + `")`, 1},
		{texted(impl.PtBreak, " "), `break(" ")`, 1},
		{texted(impl.PtBreak, long), `break("` + long + `")`, 1},
		{numbered(impl.PtLen, 0), "len(0)", 1},
		{numbered(impl.PtLen, 1), "len(1)", 1},
		{numbered(impl.PtLen, 10), "len(10)", 1},
		{numbered(impl.PtLen, 200), "len(200)", 1},
		{numbered(impl.PtPos, 0), "pos(0)", 1},
		{numbered(impl.PtPos, 200), "pos(200)", 1},
		{numbered(impl.PtRPos, 0), "rpos(0)", 1},
		{numbered(impl.PtRPos, 200), "rpos(200)", 1},
		{numbered(impl.PtTab, 0), "tab(0)", 1},
		{numbered(impl.PtTab, 200), "tab(200)", 1},
		{numbered(impl.PtRTab, 0), "rtab(0)", 1},
		{numbered(impl.PtRTab, 200), "rtab(200)", 1},
		{rem, "rem", 1},
		{bare(impl.PtArb), "arb", 1},
		{bare(impl.PtBal), "bal", 1},
		{bare(impl.PtFence), "fence", 1},
		{bare(impl.PtAbort), "abort", 1},
		{bare(impl.PtFail), "fail", 1},
		{bare(impl.PtSucceed), "succeed", 1},
		{tree(impl.PtAlt, rem, bare(impl.PtFail)), "alt(rem,fail)", 3},
		{tree(impl.PtAlt, bare(impl.PtFail), rem), "alt(fail,rem)", 3},
		{tree(impl.PtCat, texted(impl.PtString, ","), texted(impl.PtString, ")")), `cat(",",")")`, 3},
		{tree(impl.PtCat, tree(impl.PtCat, rem, rem), rem), "cat(cat(rem,rem),rem)", 5},
		{tree(impl.PtCat, rem, tree(impl.PtAlt, rem, rem)), "cat(rem,alt(rem,rem))", 5},
		{tree(impl.PtArbno, texted(impl.PtString, "ab")), `arbno("ab")`, 2},
		{tree(impl.PtArbno, tree(impl.PtArbno, rem)), "arbno(arbno(rem))", 3},
		{capturing(impl.PtCond, numbered(impl.PtLen, 1), "x"), "cond(len(1),x)", 2},
		{capturing(impl.PtCond, capturing(impl.PtNow, rem, "rem"), "cond"), "cond(now(rem,rem),cond)", 3},
		{capturing(impl.PtNow, bare(impl.PtArb), "a_1"), "now(arb,a_1)", 2},
		{capturing(impl.PtNow, tree(impl.PtAlt, rem, rem), "ABCDEFGHIJKL"), "now(alt(rem,rem),ABCDEFGHIJKL)", 4},
		{texted(impl.PtCursor, "Pat"), "cursor(Pat)", 1},
		{texted(impl.PtCursor, "z"), "cursor(z)", 1},
		{texted(impl.PtDefer, "x"), "defer(x)", 1},
		{texted(impl.PtDefer, "rem"), "defer(rem)", 1},
		{texted(impl.PtDefer, "abcdefghij_9"), "defer(abcdefghij_9)", 1},
		{stacked(59, rem), strings.Repeat("arbno(", 59) + "rem" + strings.Repeat(")", 59), 60},
		{leftChain(rem, 30), strings.Repeat("alt(", 29) + "rem" + strings.Repeat(",rem)", 29), 59},
		{stacked(1, leftChain(rem, 30)), "arbno(" + strings.Repeat("alt(", 29) + "rem" + strings.Repeat(",rem)", 29) + ")", 60},
		{leftChain(texted(impl.PtSpan, strings.Repeat(`"`, 200)), 30), strings.Repeat("alt(", 29) + `span("` + strings.Repeat(`"`, 400) + `")` + strings.Repeat(`,span("`+strings.Repeat(`"`, 400)+`"))`, 29), 59},
	}
}

func TestPatternTexts(t *testing.T) {
	for _, row := range patternRows() {
		checkEqual(t, row.text+": valid", impl.ValidPattern(row.p), true)
		checkEqual(t, row.text+": text", impl.PatternText(row.p), row.text)
		checkEqual(t, row.text+": nodes", impl.CountNodes(row.p), row.nodes)
		p, ok := impl.ReadPattern(row.text)
		checkEqual(t, row.text+": ok", ok, true)
		checkPattern(t, row.text, p, row.p)
		checkEqual(t, row.text+": same", impl.SamePattern(p, row.p), true)
	}
}

// TestTextsOfNoPattern has texts that are almost text forms.
func TestTextsOfNoPattern(t *testing.T) {
	long := strings.Repeat("x", 201)
	for _, s := range []string{
		"", " ", "\x00", "x", "L", "P", "N", "X", "string", "PtRem",
		`"`, `"a`, `a"`, `"""`, `"a""`, `"a"b"`, `"a" `, ` "a"`, `"a""b`, `'a'`, `"a","b"`, `"a"rem`, `("a")`, `"` + long + `"`, `"` + strings.Repeat(`"`, 402) + `"`, `"` + strings.Repeat(`"`, 399) + `"`,
		`any("")`, `notany("")`, `span("")`, `break("")`, `any("` + long + `")`, `span("` + long + `")`, `any`, `any()`, `any(`, `any("a"`, `any"a"`, `any("a"))`, `any("a","b")`, `any('a')`, `any(a)`, `any(1)`, `any (“a”)`, `any( "a")`, `any("a" )`, `any ("a")`, `any("a)`, `Any("a")`, `ANY("a")`, `not any("a")`, `notAny("a")`, `any("a"`, `any(rem)`,
		"len", "len()", "len(", "len(1", "len1", "len(1))", "len(1,2)", "len(-1)", "len(+1)", "len(-0)", "len(00)", "len(01)", "len(02)", "len(002)", "len(201)", "len(1000)", "len(2_0)", "len(0x1)", "len(1.0)", "len(1e1)", "len( 1)", "len(1 )", "len (1)", `len("1")`, "len(a)", "len(\uff11)", "len(18446744073709551617)", "len(9223372036854775807)", "len(-9223372036854775808)", "len(" + strings.Repeat("1", 100000) + ")", "len(" + strings.Repeat("0", 100000) + ")",
		"pos(201)", "rpos(201)", "tab(201)", "rtab(201)", "pos(007)", "rpos()", "tab(-1)", "rtab(1a)", "rrpos(1)", "posr(1)",
		"rem()", "rem ", " rem", "remm", "re", "rem,", "rem)", "(rem)", "rem(rem)", "Rem", "REM", "rem1", "rem_", "rem\n", "\trem", "rem\x00", "rem\xff", "remarb", "rem rem", "rem,rem", "arb()", "bal()", "fence()", "abort()", "fail()", "succeed()", "arb(1)", `bal("a")`, "fences", "succee", "aborts", "fai",
		"alt", "alt()", "alt(", "alt(rem", "alt(rem)", "alt(rem,", "alt(rem,)", "alt(,rem)", "alt(rem,fail", "alt(rem fail)", "alt(rem, fail)", "alt(rem ,fail)", "alt( rem,fail)", "alt(rem,fail )", "alt (rem,fail)", "alt(rem,,fail)", "alt(rem,arb,bal)", "alt(rem;fail)", "alt(rem.fail)", "alt((rem),fail)", "alt[rem,fail]", "cat(rem)", "cat(rem,arb,bal)", "cat(rem,arb))", "cat(rem,x)", `cat("a""b")`, "cat()", "cat(rem,cat(rem))", "alt(rem,arb)alt(rem,arb)",
		"arbno", "arbno()", "arbno(rem", "arbno(rem,rem)", "arbno(rem))", "arbno rem", "arbno(1)", "arbnoo(rem)", "arb no(rem)", "arb(rem)",
		"cond", "cond()", "cond(rem)", "cond(rem,)", "cond(,x)", "cond(x)", "cond(rem,1)", "cond(rem,_x)", "cond(rem,x y)", "cond(rem, x)", "cond(rem,x )", `cond(rem,"x")`, "cond(x,rem)", "cond(rem,x,y)", "cond(rem,ABCDEFGHIJKLM)", "cond(rem,x-y)", "cond(rem,\u00e9)", "cond(rem,x", "cond(rem,rem())", "now(rem)", "now(rem,)", "now(rem,1x)", "now(x,x)", "now(rem,x.)", "now(rem,ABCDEFGHIJKLM)",
		"cursor", "cursor()", "cursor(1)", "cursor( x)", "cursor(x )", "cursor(x,y)", `cursor("x")`, "cursor(ABCDEFGHIJKLM)", "cursor(x", "cursorx", "cursor x", "defer", "defer()", "defer(1)", "defer(toolonganame1)", "defer(x y)", "defer(_)", "defer(x))", "defer(*x)", "defer(" + strings.Repeat("x", 100000) + ")",
		"*x", "a | b", "rem | arb", "rem arb", "step", "choice 2", "mark", "<rem>",
		strings.Repeat("arbno(", 60) + "rem" + strings.Repeat(")", 60), strings.Repeat("alt(", 30) + "rem" + strings.Repeat(",rem)", 30), "arbno(arbno(" + strings.Repeat("alt(", 29) + "rem" + strings.Repeat(",rem)", 29) + "))",
		strings.Repeat("arbno(", 59) + "rem" + strings.Repeat(")", 58), strings.Repeat("arbno(", 59) + "rem" + strings.Repeat(")", 60), strings.Repeat("arbno(", 2000000), strings.Repeat("alt(rem,", 1000000), strings.Repeat("arbno(", 500000) + "rem" + strings.Repeat(")", 500000),
		strings.Repeat(`"`, 1000001), strings.Repeat("x", 1000000), strings.Repeat(",", 1000000), strings.Repeat("(", 1000000), "len(" + strings.Repeat(" ", 1000000),
	} {
		p, ok := impl.ReadPattern(s)
		checkEqual(t, fmt.Sprintf("ReadPattern(%.60q)", s), ok, false)
		checkPattern(t, s, p, impl.Pattern{})
	}
}

// patternFields describes, for each kind of patterns, its word and the fields of its valid nodes.
var patternFields = map[int64]struct {
	word   string
	number bool
	text   *regexp.Regexp
	kids   int
}{
	impl.PtString:  {text: regexp.MustCompile(`\A(?s:.){0,200}\z`)},
	impl.PtAny:     {word: "any", text: anySet},
	impl.PtNotAny:  {word: "notany", text: anySet},
	impl.PtSpan:    {word: "span", text: anySet},
	impl.PtBreak:   {word: "break", text: anySet},
	impl.PtLen:     {word: "len", number: true},
	impl.PtPos:     {word: "pos", number: true},
	impl.PtRPos:    {word: "rpos", number: true},
	impl.PtTab:     {word: "tab", number: true},
	impl.PtRTab:    {word: "rtab", number: true},
	impl.PtRem:     {word: "rem"},
	impl.PtArb:     {word: "arb"},
	impl.PtBal:     {word: "bal"},
	impl.PtFence:   {word: "fence"},
	impl.PtAbort:   {word: "abort"},
	impl.PtFail:    {word: "fail"},
	impl.PtSucceed: {word: "succeed"},
	impl.PtAlt:     {word: "alt", kids: 2},
	impl.PtCat:     {word: "cat", kids: 2},
	impl.PtArbno:   {word: "arbno", kids: 1},
	impl.PtCond:    {word: "cond", kids: 1, text: nameSyntax},
	impl.PtNow:     {word: "now", kids: 1, text: nameSyntax},
	impl.PtCursor:  {word: "cursor", text: nameSyntax},
	impl.PtDefer:   {word: "defer", text: nameSyntax},
}

// anySet is the syntax of sets. Bytes that are no characters count as one character each, as those of ASCII do.
var anySet = regexp.MustCompile(`\A(?s:.){1,200}\z`)

// modelPattern returns the number of nodes of a pattern that is neither large nor deep, and its text; it returns 0 if the pattern is invalid.
func modelPattern(p impl.Pattern) (int64, string) {
	fields, ok := patternFields[p.Kind]
	if !ok || len(p.Kids) != fields.kids || p.Num != 0 && !fields.number || p.Num < 0 || p.Num > 200 {
		return 0, ""
	}
	if fields.text == nil && p.Text != "" || fields.text != nil && !fields.text.MatchString(p.Text) {
		return 0, ""
	}
	count := int64(1)
	var parts []string
	for _, kid := range p.Kids {
		nodes, text := modelPattern(kid)
		if nodes == 0 {
			return 0, ""
		}
		count += nodes
		parts = append(parts, text)
	}
	if count > 60 {
		return 0, ""
	}
	literal := `"` + strings.Join(strings.Split(p.Text, `"`), `""`) + `"`
	switch {
	case p.Kind == impl.PtString:
		return count, literal
	case fields.number:
		parts = append(parts, fmt.Sprint(p.Num))
	case fields.text == anySet:
		parts = append(parts, literal)
	case fields.text == nameSyntax:
		parts = append(parts, p.Text)
	}
	if len(parts) == 0 {
		return count, fields.word
	}
	return count, fields.word + "(" + strings.Join(parts, ",") + ")"
}

// manyPatterns returns patterns with all combinations of usual and unusual fields.
func manyPatterns() []impl.Pattern {
	kinds := append([]int64{math.MinInt64, -1, 0, 25, 26, 31, 257, 1<<32 + 1, math.MaxInt64}, patternKinds...)
	numbers := []int64{math.MinInt64, -201, -1, 0, 1, 199, 200, 201, 1 << 32, math.MaxInt64}
	texts := []string{"", "A", "x_1", "ABCDEFGHIJKL", "ABCDEFGHIJKLM", "1", "A B", `"`, "\n", "\xff", strings.Repeat("x", 200), strings.Repeat("x", 201), strings.Repeat("\xff", 200), strings.Repeat("\xff", 201)}
	rem, bad := bare(impl.PtRem), numbered(impl.PtLen, 201)
	lists := [][]impl.Pattern{nil, {}, {rem}, {bad}, {rem, rem}, {texted(impl.PtString, ""), numbered(impl.PtTab, 3)}, {bad, rem}, {rem, bad}, {rem, rem, rem}, {{}}, {{}, {}}, {tree(impl.PtAlt, rem)}, {tree(impl.PtAlt, rem, rem)}, {rem, capturing(impl.PtNow, rem, "x")}, {rem, capturing(impl.PtNow, bad, "x")}}
	var list []impl.Pattern
	for _, kind := range kinds {
		for _, n := range numbers {
			for _, s := range texts {
				for _, kids := range lists {
					list = append(list, impl.Pattern{Kind: kind, Num: n, Text: s, Kids: kids})
				}
			}
		}
	}
	return list
}

func TestPatternsAgainstModel(t *testing.T) {
	valid := 0
	for _, p := range manyPatterns() {
		nodes, text := modelPattern(p)
		isValid := nodes > 0
		if impl.ValidPattern(p) != isValid || impl.PatternText(p) != text || isValid && impl.CountNodes(p) != nodes {
			t.Errorf("%.200q: valid %t, %d nodes, text %.100q", fmt.Sprint(p), impl.ValidPattern(p), impl.CountNodes(p), impl.PatternText(p))
		}
		chain, ok := impl.CatOf([]impl.Pattern{p})
		if ok != isValid || isValid && !equalPatterns(chain, p) || !isValid && !equalPatterns(chain, impl.Pattern{}) {
			t.Errorf("CatOf of %.200q: %.200q, %t", fmt.Sprint(p), fmt.Sprint(chain), ok)
		}
		checkEqual(t, "ValidEnv", impl.ValidEnv([]impl.Named{{Name: "x", Pattern: p}}), isValid)
		if isValid {
			valid++
			read, ok := impl.ReadPattern(text)
			checkEqual(t, text, ok, true)
			checkPattern(t, text, read, p)
		}
	}
	if valid < 150 {
		t.Errorf("only %d patterns are valid", valid)
	}
}

// partSyntax has the beginnings of text forms: a literal, a word, and the rest of a node without patterns below it.
var (
	literalSyntax = regexp.MustCompile(`\A"((?s:""|[^"])*)"`)
	wordSyntax    = regexp.MustCompile(`\A[a-z]+`)
	decimalSyntax = regexp.MustCompile(`\A(?:0|[1-9][0-9]*)`)
	idSyntax      = regexp.MustCompile(`\A[A-Za-z0-9_]*`)
)

// modelReader reads a text form from left to right; rest is what was not read, and it failed once ok is false.
type modelReader struct {
	rest string
	ok   bool
}

func (r *modelReader) take(syntax *regexp.Regexp) string {
	text := syntax.FindString(r.rest)
	r.ok = r.ok && text != ""
	r.rest = r.rest[len(text):]
	return text
}

func (r *modelReader) mark(s string) {
	r.ok = r.ok && strings.HasPrefix(r.rest, s)
	r.rest = strings.TrimPrefix(r.rest, s)
}

func (r *modelReader) literal() string {
	text := r.take(literalSyntax)
	if !r.ok {
		return ""
	}
	return strings.ReplaceAll(text[1:len(text)-1], `""`, `"`)
}

func (r *modelReader) node() impl.Pattern {
	if strings.HasPrefix(r.rest, `"`) {
		return texted(impl.PtString, r.literal())
	}
	word := r.take(wordSyntax)
	p := impl.Pattern{}
	for kind, fields := range patternFields {
		if fields.word == word && word != "" {
			p.Kind = kind
		}
	}
	fields := patternFields[p.Kind]
	separator := "("
	for range fields.kids {
		if !r.ok {
			return p
		}
		r.mark(separator)
		p.Kids = append(p.Kids, r.node())
		separator = ","
	}
	if fields.number || fields.text != nil {
		r.mark(separator)
		separator = ","
	}
	switch {
	case fields.number:
		p.Num, _ = strconv.ParseInt(r.take(decimalSyntax), 10, 64)
	case fields.text == anySet:
		p.Text = r.literal()
	case fields.text == nameSyntax:
		p.Text = r.take(idSyntax)
	}
	if separator == "," {
		r.mark(")")
	}
	return p
}

// modelReadPattern returns the valid pattern whose text form s is, and whether there is one.
func modelReadPattern(s string) (impl.Pattern, bool) {
	reader := modelReader{s, true}
	p := reader.node()
	if nodes, _ := modelPattern(p); !reader.ok || reader.rest != "" || nodes == 0 {
		return impl.Pattern{}, false
	}
	return p, true
}

// checkReadPattern compares ReadPattern with the model, and reports whether s is a text form.
func checkReadPattern(t *testing.T, s string) bool {
	t.Helper()
	want, isText := modelReadPattern(s)
	p, ok := impl.ReadPattern(s)
	if ok != isText || !equalPatterns(p, want) {
		t.Errorf("ReadPattern(%.200q): got %.200q and %t, want %.200q and %t", s, fmt.Sprint(p), ok, fmt.Sprint(want), isText)
	}
	if ok && (impl.PatternText(p) != s || !impl.ValidPattern(p)) {
		t.Errorf("the pattern of %.200q has the text %.200q", s, impl.PatternText(p))
	}
	return ok
}

// TestPatternTextsAgainstModel is promise 13 for texts of pieces of text forms, and for text forms with one byte changed, removed or added.
func TestPatternTextsAgainstModel(t *testing.T) {
	pieces := []string{"rem", "arb", "arbno", "alt", "cond", "len", "any", "defer", "(", "(", ")", ")", ",", ",", "1", "0", "x", "\"", "\"\"", "\"a\"", " "}
	read := 0
	for _, s := range randomTexts(61, 300000, 8, pieces) {
		if checkReadPattern(t, s) {
			read++
		}
	}
	forms := []string{"arbno(", "alt(", "cat(", "rem", "\"", "a", ",", ")", "len(2", "cond(rem", "x", "any("}
	eachText("abcdefghijkl", 5, func(s string) {
		var text strings.Builder
		for i := range len(s) {
			text.WriteString(forms[s[i]-'a'])
		}
		if checkReadPattern(t, text.String()) {
			read++
		}
	})
	for _, row := range patternRows() {
		if len(row.text) > 60 {
			continue
		}
		for i := range len(row.text) + 1 {
			for _, s := range append(allBytes(), "", "rem", ",rem", "()", "\"\"") {
				checkReadPattern(t, row.text[:i]+s+row.text[i:])
				if i < len(row.text) {
					checkReadPattern(t, row.text[:i]+s+row.text[i+1:])
				}
			}
		}
	}
	if read < 2000 {
		t.Errorf("only %d texts are text forms", read)
	}
}

// patternSource makes random patterns.
type patternSource struct {
	*rand.Rand
	// texts, names and numbers are what is in the fields.
	texts, names []string
	numbers      int
}

// pattern returns a random valid pattern of up to budget nodes.
func (s patternSource) pattern(budget int) impl.Pattern {
	kind := patternKinds[s.Intn(len(patternKinds))]
	if budget > 1 && s.Intn(5) > 0 {
		kind = []int64{impl.PtAlt, impl.PtCat, impl.PtCat, impl.PtArbno, impl.PtCond, impl.PtNow}[s.Intn(6)]
	}
	fields := patternFields[kind]
	if fields.kids >= budget {
		return s.pattern(budget)
	}
	p := impl.Pattern{Kind: kind}
	switch {
	case fields.number:
		p.Num = int64(s.Intn(s.numbers))
	case fields.text == nameSyntax:
		p.Text = s.names[s.Intn(len(s.names))]
	case fields.text != nil:
		p.Text = s.texts[s.Intn(len(s.texts))]
	}
	budget--
	for i := range fields.kids {
		share := budget
		if i+1 < fields.kids {
			share = 1 + s.Intn(budget-1)
		}
		kid := s.pattern(share)
		budget -= int(impl.CountNodes(kid))
		p.Kids = append(p.Kids, kid)
	}
	return p
}

// widePatterns returns a source of patterns with fields of any kind.
func widePatterns(seed int64) patternSource {
	texts := []string{"a", "ab", `"`, `""`, `a"`, "\x00", "\xff\xfe", "\u20ac", "(", ")", ",", " ", "rem", strings.Repeat("x", 200)}
	return patternSource{rand.New(rand.NewSource(seed)), texts, []string{"x", "y", "Z", "rem", "a_1", "ABCDEFGHIJKL"}, 201}
}

// TestPatternsAreRecovered is promise 13.
func TestPatternsAreRecovered(t *testing.T) {
	source := widePatterns(62)
	texts := map[string]impl.Pattern{}
	for i := range 20000 {
		p := source.pattern(1 + i%60)
		nodes, want := modelPattern(p)
		text := impl.PatternText(p)
		if nodes == 0 || text != want || impl.CountNodes(p) != nodes {
			t.Errorf("%.200q: %d nodes, text %.200q", fmt.Sprint(p), impl.CountNodes(p), text)
		}
		read, ok := impl.ReadPattern(text)
		checkEqual(t, "ok", ok, true)
		checkPattern(t, text, read, p)
		checkEqual(t, "same", impl.SamePattern(read, p), true)
		if other, found := texts[text]; found && !equalPatterns(other, p) {
			t.Errorf("two patterns have the text %.200q", text)
		}
		texts[text] = p
	}
	if len(texts) < 15000 {
		t.Errorf("only %d different patterns", len(texts))
	}
}

func TestValidPatternLimits(t *testing.T) {
	rem := bare(impl.PtRem)
	for _, c := range []struct {
		what  string
		p     impl.Pattern
		valid bool
	}{
		{"zero", impl.Pattern{}, false},
		{"empty Kids", impl.Pattern{Kind: impl.PtRem, Kids: []impl.Pattern{}}, true},
		{"MaxNodes nodes in a chain", stacked(59, rem), true},
		{"one more in a chain", stacked(60, rem), false},
		{"one less than MaxNodes nodes in alternations", leftChain(rem, 30), true},
		{"MaxNodes nodes in alternations", stacked(1, leftChain(rem, 30)), true},
		{"one more in alternations", leftChain(rem, 31), false},
		{"one more below the first kid", tree(impl.PtCat, stacked(58, rem), rem), false},
		{"MaxNodes nodes, one as the second kid", tree(impl.PtCat, stacked(57, rem), rem), true},
		{"one more below the second kid", tree(impl.PtCat, rem, stacked(58, rem)), false},
		{"MaxNodes nodes, one as the first kid", tree(impl.PtCat, rem, stacked(57, rem)), true},
		{"an invalid node at the end", stacked(10, numbered(impl.PtLen, -1)), false},
		{"an invalid node as the last kid", tree(impl.PtAlt, rem, tree(impl.PtAlt, rem, impl.Pattern{})), false},
		{"an invalid node as the first kid", tree(impl.PtAlt, impl.Pattern{}, rem), false},
		{"an invalid node beyond the limit", stacked(60, impl.Pattern{}), false},
		{"very deep", stacked(1000000, rem), false},
		{"very wide", tree(impl.PtAlt, make([]impl.Pattern, 1000000)...), false},
		{"very many shared nodes", sharedPattern(200), false},
		{"as many shared nodes as there may be", stacked(29, sharedPattern(4)), true},
		{"one shared node more", stacked(30, sharedPattern(4)), false},
		{"nodes without end", endlessPattern(1), false},
		{"a circle of nodes", endlessPattern(70), false},
		{"a string without end", texted(impl.PtString, strings.Repeat("x", 1000000)), false},
		{"a name without end", texted(impl.PtDefer, strings.Repeat("x", 1000000)), false},
		{"a set without end", texted(impl.PtAny, strings.Repeat("x", 1000000)), false},
	} {
		checkEqual(t, c.what, impl.ValidPattern(c.p), c.valid)
		checkEqual(t, c.what+": text", impl.PatternText(c.p) != "", c.valid)
		checkEqual(t, c.what+": environment", impl.ValidEnv([]impl.Named{{Name: "x", Pattern: c.p}}), c.valid)
		_, cat := impl.CatOf([]impl.Pattern{c.p})
		_, alt := impl.AltOf([]impl.Pattern{c.p})
		checkEqual(t, c.what+": CatOf", cat, c.valid)
		checkEqual(t, c.what+": AltOf", alt, c.valid)
		_, pair := impl.CatOf([]impl.Pattern{rem, c.p})
		checkEqual(t, c.what+": CatOf of two", pair, c.valid && impl.CountNodes(c.p) <= 58)
		checkList(t, c.what+": names", impl.DeferredNames(c.p), nil)
	}
}

func TestCountNodes(t *testing.T) {
	rem := bare(impl.PtRem)
	lower := sharedPattern(10)
	for _, c := range []struct {
		what string
		p    impl.Pattern
		want int64
	}{
		{"zero", impl.Pattern{}, 1},
		{"a leaf", rem, 1},
		{"empty Kids", impl.Pattern{Kids: []impl.Pattern{}}, 1},
		{"a zero kid", impl.Pattern{Kids: []impl.Pattern{{}}}, 2},
		{"kids of a kind that has none", impl.Pattern{Kind: impl.PtRem, Kids: []impl.Pattern{rem, rem, rem}}, 4},
		{"kids of no kind", impl.Pattern{Kind: -7, Num: math.MinInt64, Text: "x", Kids: []impl.Pattern{tree(99, rem), {}}}, 4},
		{"one more than MaxNodes nodes", stacked(60, rem), 61},
		{"an alternation", leftChain(rem, 100), 199},
		{"different kids", tree(impl.PtCat, stacked(3, rem), tree(impl.PtCat, stacked(5, rem), rem), stacked(7, rem)), 21},
		{"very deep", stacked(1000000, rem), 1000001},
		{"very wide", impl.Pattern{Kids: make([]impl.Pattern, 1000000)}, 1000001},
		{"shared nodes", sharedPattern(3), 15},
		{"shared lists of different lengths", tree(impl.PtCat, tree(impl.PtCat, lower.Kids...), tree(impl.PtArbno, lower.Kids[:1]...), lower), 1 + 2047 + 1 + 1023 + 2047},
		{"many shared nodes", sharedPattern(40), 1<<41 - 1},
		{"as many as an int64 has", sharedPattern(62), math.MaxInt64},
		{"one less than an int64 has", tree(impl.PtCat, sharedPattern(61), tree(impl.PtCat, sharedPattern(60), withoutOne(60))), math.MaxInt64 - 1},
		{"one more than an int64 has", tree(impl.PtArbno, sharedPattern(62)), math.MaxInt64},
		{"two more than an int64 has", tree(impl.PtCat, rem, sharedPattern(62)), math.MaxInt64},
		{"two more, exchanged", tree(impl.PtCat, sharedPattern(62), rem), math.MaxInt64},
		{"too many for an int64", sharedPattern(63), math.MaxInt64},
		{"far too many for an int64", sharedPattern(1000), math.MaxInt64},
		{"nodes without end", endlessPattern(1), math.MaxInt64},
		{"a circle", endlessPattern(1000), math.MaxInt64},
		{"a circle below others", tree(impl.PtCat, rem, tree(impl.PtAlt, endlessPattern(3), rem)), math.MaxInt64},
		{"a circle beside very many nodes", tree(impl.PtCat, sharedPattern(63), endlessPattern(3), sharedPattern(63)), math.MaxInt64},
	} {
		checkEqual(t, c.what, impl.CountNodes(c.p), c.want)
	}
}

// withoutOne returns a pattern with one node less than sharedPattern(depth) has.
func withoutOne(depth int) impl.Pattern {
	p := tree(impl.PtArbno, bare(impl.PtRem))
	for i := range depth - 1 {
		p = tree(impl.PtCat, p, sharedPattern(i+1))
	}
	return p
}

func TestSamePattern(t *testing.T) {
	rem, one := bare(impl.PtRem), numbered(impl.PtLen, 1)
	list := []impl.Pattern{
		{}, {Kind: 1}, {Kind: 2}, {Kind: -1}, {Num: 1}, {Num: -1}, {Text: "A"}, {Text: "a"}, {Kids: []impl.Pattern{{}}}, {Kids: []impl.Pattern{{}, {}}}, {Kids: []impl.Pattern{{Kids: []impl.Pattern{{}}}}},
		rem, one, numbered(impl.PtLen, 2), numbered(impl.PtTab, 1), texted(impl.PtString, "a"), texted(impl.PtString, "b"), texted(impl.PtAny, "a"), texted(impl.PtDefer, "a"), texted(impl.PtCursor, "a"),
		tree(impl.PtAlt, rem, one), tree(impl.PtCat, rem, one), tree(impl.PtAlt, one, rem), tree(impl.PtAlt, rem), tree(impl.PtAlt, rem, one, one), tree(impl.PtAlt, rem, rem), tree(impl.PtAlt, one, one),
		capturing(impl.PtCond, rem, "x"), capturing(impl.PtCond, rem, "y"), capturing(impl.PtNow, rem, "x"), capturing(impl.PtCond, one, "x"), {Kind: impl.PtCond, Num: 1, Text: "x", Kids: []impl.Pattern{rem}},
		tree(impl.PtCat, tree(impl.PtCat, rem, rem), rem), tree(impl.PtCat, rem, tree(impl.PtCat, rem, rem)), tree(impl.PtCat, tree(impl.PtCat, rem, one), rem),
		tree(impl.PtCat, tree(impl.PtCat, rem, rem), tree(impl.PtCat, rem, rem)), tree(impl.PtCat, tree(impl.PtCat, rem, one), tree(impl.PtCat, rem, rem)), tree(impl.PtCat, tree(impl.PtCat, rem, rem), tree(impl.PtCat, rem, one)),
		stacked(70, rem), stacked(71, rem), stacked(70, one),
	}
	for i, a := range list {
		for j, b := range list {
			checkEqual(t, fmt.Sprintf("%+v and %+v", a, b), impl.SamePattern(a, copyPattern(b)), i == j)
			checkEqual(t, fmt.Sprintf("%+v below and %+v below", a, b), impl.SamePattern(tree(7, rem, a, rem), tree(7, rem, copyPattern(b), rem)), i == j)
		}
	}
	empty := impl.Pattern{Kind: impl.PtRem, Kids: []impl.Pattern{}}
	checkEqual(t, "nil and empty Kids", impl.SamePattern(empty, rem), true)
	checkEqual(t, "empty and nil Kids", impl.SamePattern(rem, empty), true)
}

func TestSamePatternOfStrangePatterns(t *testing.T) {
	rem, arb := bare(impl.PtRem), bare(impl.PtArb)
	wide := impl.Pattern{Kids: slices.Repeat([]impl.Pattern{rem}, 100000)}
	other := copyPattern(wide)
	other.Kids[99999].Num = 1
	// Each of these has a list of Kids in common with the others, so that there are very many nodes in little memory.
	broad := impl.Pattern{Kids: slices.Repeat([]impl.Pattern{wide}, 10000)}
	broader := impl.Pattern{Kids: slices.Repeat([]impl.Pattern{other}, 10000)}
	for _, c := range []struct {
		what string
		a, b impl.Pattern
		want bool
	}{
		{"deep", stacked(300000, rem), stacked(300000, rem), true},
		{"deep with another end", stacked(300000, rem), stacked(300000, arb), false},
		{"deep and deeper", stacked(300000, rem), stacked(300001, rem), false},
		{"wide", wide, copyPattern(wide), true},
		{"wide with another end", wide, other, false},
		{"wide and less wide", wide, impl.Pattern{Kids: wide.Kids[:99999]}, false},
		{"wide with wide kids", broad, impl.Pattern{Kids: slices.Repeat([]impl.Pattern{copyPattern(wide)}, 10000)}, true},
		{"wide with wide kids and another end", broad, broader, false},
		{"shared", sharedPattern(100), sharedPattern(100), true},
		{"shared with another depth", sharedPattern(100), sharedPattern(101), false},
		{"shared and not", sharedPattern(10), copyPattern(sharedPattern(10)), true},
		{"parts of the same list", tree(impl.PtCat, tree(1, wide.Kids[:2]...), tree(1, wide.Kids[:2]...)), tree(impl.PtCat, tree(1, rem, rem), tree(1, rem, rem)), true},
		{"different parts of the same list", tree(impl.PtCat, tree(1, wide.Kids[:2]...), tree(1, wide.Kids[:3]...)), tree(impl.PtCat, tree(1, rem, rem), tree(1, rem, rem)), false},
		{"longer parts of the same list", tree(9, tree(1, other.Kids[99998:99999]...), tree(1, other.Kids[99998:]...)), tree(9, tree(1, wide.Kids[99998:99999]...), tree(1, wide.Kids[99998:]...)), false},
		{"endless", endlessPattern(2), endlessPattern(2), true},
		{"endless in the same way", endlessPattern(2), endlessPattern(3), true},
		{"endless and not", endlessPattern(2), stacked(100, rem), false},
	} {
		checkEqual(t, c.what, impl.SamePattern(c.a, c.b), c.want)
		checkEqual(t, c.what+", exchanged", impl.SamePattern(c.b, c.a), c.want)
		checkEqual(t, c.what+": the first one and itself", impl.SamePattern(c.a, c.a), true)
	}
}

// modelNames returns the names of the PtDefer nodes of a pattern in the order of its text form, each once.
func modelNames(p impl.Pattern) []string {
	_, text := modelPattern(p)
	var names []string
	// Literals can contain anything, so they are removed first.
	for _, part := range regexp.MustCompile(`defer\((\w+)\)`).FindAllStringSubmatch(regexp.MustCompile(`(?s)"[^"]*"`).ReplaceAllString(text, ""), -1) {
		if !slices.Contains(names, part[1]) {
			names = append(names, part[1])
		}
	}
	return names
}

func TestDeferredNames(t *testing.T) {
	for s, want := range map[string][]string{
		"rem":                      nil,
		`"defer(x)"`:               nil,
		"cursor(x)":                nil,
		"cond(rem,x)":              nil,
		"now(rem,x)":               nil,
		"defer(x)":                 {"x"},
		"defer(defer)":             {"defer"},
		"cond(defer(x),y)":         {"x"},
		"now(defer(y),x)":          {"y"},
		"arbno(arbno(defer(Z)))":   {"Z"},
		"alt(defer(b),defer(a))":   {"b", "a"},
		"cat(defer(x),defer(X))":   {"x", "X"},
		"cat(defer(x),defer(x))":   {"x"},
		"cat(cursor(y),defer(x))":  {"x"},
		`alt("defer(y)",defer(x))`: {"x"},
		"alt(alt(defer(c),defer(b)),alt(defer(a),alt(defer(b),defer(c))))":         {"c", "b", "a"},
		"cat(cond(defer(b),a),cat(arbno(defer(a)),now(cat(defer(c),defer(b)),d)))": {"b", "a", "c"},
	} {
		p := readPattern(t, s)
		checkList(t, s, impl.DeferredNames(p), want)
		checkList(t, s+": model", modelNames(p), want)
		checkList(t, s+": invalid", impl.DeferredNames(tree(impl.PtArbno, p, p)), nil)
		checkList(t, s+": an invalid name", impl.DeferredNames(tree(impl.PtCat, p, texted(impl.PtDefer, "1"))), nil)
		checkList(t, s+": an invalid node", impl.DeferredNames(tree(impl.PtCat, p, impl.Pattern{})), nil)
		checkList(t, s+": too many nodes", impl.DeferredNames(stacked(60, p)), nil)
	}
	distinct := make([]impl.Pattern, 30)
	var want []string
	for i := range distinct {
		want = append(want, fmt.Sprint("n", 40-i))
		distinct[i] = texted(impl.PtDefer, want[i])
	}
	chain, _ := impl.AltOf(distinct)
	checkList(t, "many names", impl.DeferredNames(chain), want)
}

// chainMaker is CatOf or AltOf, with the kind of the nodes that it adds and the text of its result for an empty list.
type chainMaker struct {
	name  string
	call  func(list []impl.Pattern) (impl.Pattern, bool)
	kind  int64
	empty string
}

func chainMakers() []chainMaker {
	return []chainMaker{{"CatOf", impl.CatOf, impl.PtCat, `""`}, {"AltOf", impl.AltOf, impl.PtAlt, "fail"}}
}

func TestChains(t *testing.T) {
	a, b, x := texted(impl.PtString, "a"), texted(impl.PtString, "b"), texted(impl.PtDefer, "x")
	for _, maker := range chainMakers() {
		word := patternFields[maker.kind].word
		for _, c := range []struct {
			list []impl.Pattern
			want string
		}{
			{nil, maker.empty},
			{[]impl.Pattern{}, maker.empty},
			{[]impl.Pattern{a}, `"a"`},
			{[]impl.Pattern{a, b}, word + `("a","b")`},
			{[]impl.Pattern{b, a}, word + `("b","a")`},
			{[]impl.Pattern{a, b, x}, word + `("a",` + word + `("b",defer(x)))`},
			{[]impl.Pattern{a, a, a, a}, word + `("a",` + word + `("a",` + word + `("a","a")))`},
			{[]impl.Pattern{tree(maker.kind, a, b), x}, word + "(" + word + `("a","b"),defer(x))`},
			{[]impl.Pattern{a, tree(maker.kind, b, x)}, word + `("a",` + word + `("b",defer(x)))`},
			{[]impl.Pattern{bare(impl.PtFail), texted(impl.PtString, "")}, word + `(fail,"")`},
			{slices.Repeat([]impl.Pattern{a}, 30), strings.Repeat(word+`("a",`, 29) + `"a"` + strings.Repeat(")", 29)},
			{append(slices.Repeat([]impl.Pattern{a}, 29), tree(impl.PtArbno, b)), strings.Repeat(word+`("a",`, 29) + `arbno("b")` + strings.Repeat(")", 29)},
			{[]impl.Pattern{stacked(58, x)}, strings.Repeat("arbno(", 58) + "defer(x)" + strings.Repeat(")", 58)},
			{[]impl.Pattern{stacked(59, x)}, strings.Repeat("arbno(", 59) + "defer(x)" + strings.Repeat(")", 59)},
			{[]impl.Pattern{stacked(28, x), stacked(29, b)}, word + "(" + strings.Repeat("arbno(", 28) + "defer(x)" + strings.Repeat(")", 28) + "," + strings.Repeat("arbno(", 29) + `"b"` + strings.Repeat(")", 29) + ")"},
		} {
			p, ok := maker.call(c.list)
			checkEqual(t, maker.name+": ok", ok, true)
			checkEqual(t, maker.name, impl.PatternText(p), c.want)
			checkPattern(t, maker.name+c.want, p, readPattern(t, c.want))
		}
	}
}

func TestChainsThatFail(t *testing.T) {
	a := texted(impl.PtString, "a")
	bad := []impl.Pattern{{}, numbered(impl.PtLen, -1), bare(99), tree(impl.PtArbno), stacked(60, a), stacked(2, impl.Pattern{}), endlessPattern(2), sharedPattern(100), stacked(1000000, a), tree(impl.PtAlt, make([]impl.Pattern, 100000)...)}
	for _, maker := range chainMakers() {
		fails := func(what string, list []impl.Pattern) {
			t.Helper()
			p, ok := maker.call(list)
			checkEqual(t, maker.name+": "+what, ok, false)
			checkPattern(t, maker.name+": "+what, p, impl.Pattern{})
		}
		for _, p := range bad {
			fails("alone", []impl.Pattern{p})
			fails("first", []impl.Pattern{p, a})
			fails("last", []impl.Pattern{a, p})
			fails("in the middle", []impl.Pattern{a, p, a})
			fails("the last one of many", append(slices.Repeat([]impl.Pattern{a}, 29), p))
		}
		fails("one element too many", slices.Repeat([]impl.Pattern{a}, 31))
		fails("one node too many in the last element", append(slices.Repeat([]impl.Pattern{a}, 29), stacked(2, a)))
		fails("one node too many in the first element", append([]impl.Pattern{stacked(2, a)}, slices.Repeat([]impl.Pattern{a}, 29)...))
		fails("one node too many in two elements", []impl.Pattern{stacked(29, a), stacked(29, a)})
		fails("a full pattern and another one", []impl.Pattern{stacked(59, a), a})
		fails("another pattern and a full one", []impl.Pattern{a, stacked(59, a)})
		fails("very many elements", slices.Repeat([]impl.Pattern{a}, 1000000))
		fails("very many invalid elements", make([]impl.Pattern, 1000000))
	}
}

// TestChainsHaveTheirElements is promise 13: a chain has the nodes and the names of its elements.
func TestChainsHaveTheirElements(t *testing.T) {
	source := widePatterns(63)
	made, failed := 0, 0
	for range 5000 {
		list := make([]impl.Pattern, 1+source.Intn(12))
		nodes := int64(len(list) - 1)
		var names []string
		for i := range list {
			list[i] = source.pattern(1 + source.Intn(15))
			nodes += impl.CountNodes(list[i])
			for _, name := range modelNames(list[i]) {
				if !slices.Contains(names, name) {
					names = append(names, name)
				}
			}
		}
		for _, maker := range chainMakers() {
			p, ok := maker.call(list)
			checkEqual(t, maker.name+": ok", ok, nodes <= 60)
			if !ok {
				failed++
				checkPattern(t, maker.name, p, impl.Pattern{})
				continue
			}
			made++
			checkEqual(t, maker.name+": nodes", impl.CountNodes(p), nodes)
			checkList(t, maker.name+": names", impl.DeferredNames(p), names)
			rest := p
			for _, element := range list[:len(list)-1] {
				checkEqual(t, maker.name+": kind", rest.Kind, maker.kind)
				checkPattern(t, maker.name+": element", rest.Kids[0], element)
				rest = rest.Kids[1]
			}
			checkPattern(t, maker.name+": last element", rest, list[len(list)-1])
		}
	}
	if made < 2000 || failed < 500 {
		t.Errorf("%d chains were made, %d were not", made, failed)
	}
}

// envOf returns a list of patterns with the given names.
func envOf(p impl.Pattern, names ...string) []impl.Named {
	var env []impl.Named
	for _, name := range names {
		env = append(env, impl.Named{Name: name, Pattern: p})
	}
	return env
}

// numberedNames returns count different names.
func numberedNames(count int) []string {
	var names []string
	for i := range count {
		names = append(names, fmt.Sprint("n", i))
	}
	return names
}

func TestValidEnv(t *testing.T) {
	rem := bare(impl.PtRem)
	names := numberedNames(40)
	repeated := slices.Clone(names)
	repeated[39] = "n0"
	neighbours := slices.Clone(names)
	neighbours[39] = "n38"
	for _, c := range []struct {
		what string
		env  []impl.Named
		want bool
	}{
		{"none", nil, true},
		{"an empty list", []impl.Named{}, true},
		{"one", envOf(rem, "x"), true},
		{"two", envOf(rem, "x", "y"), true},
		{"the same name in upper case", envOf(rem, "x", "X"), true},
		{"the same name twice", envOf(rem, "x", "x"), false},
		{"the same name first and last", envOf(rem, "x", "y", "x"), false},
		{"the same name twice at the end", envOf(rem, "y", "x", "x"), false},
		{"a name that begins with another one", envOf(rem, "x", "xx"), true},
		{"a name with MaxName bytes", envOf(rem, "ABCDEFGHIJKL"), true},
		{"one byte more", envOf(rem, "ABCDEFGHIJKLM"), false},
		{"no name", envOf(rem, ""), false},
		{"a number as a name", envOf(rem, "1"), false},
		{"an invalid name at the end", envOf(rem, "x", "y", "z-"), false},
		{"a name without end", envOf(rem, strings.Repeat("x", 1000000)), false},
		{"zero", []impl.Named{{}}, false},
		{"no pattern", []impl.Named{{Name: "x"}}, false},
		{"an invalid pattern", envOf(numbered(impl.PtPos, 201), "x"), false},
		{"an invalid pattern at the end", append(envOf(rem, "x", "y"), impl.Named{Name: "z", Pattern: stacked(60, rem)}), false},
		{"an invalid pattern at the beginning", append(envOf(bare(0), "x"), envOf(rem, "y", "z")...), false},
		{"a full pattern", envOf(stacked(59, rem), "x"), true},
		{"a reference to itself", envOf(texted(impl.PtDefer, "x"), "x"), true},
		{"a reference to no element", envOf(texted(impl.PtDefer, "y"), "x"), true},
		{"MaxNamed elements", envOf(stacked(59, rem), names...), true},
		{"one more", envOf(rem, append(slices.Clone(names), "more")...), false},
		{"MaxNamed elements, the first and the last with the same name", envOf(rem, repeated...), false},
		{"MaxNamed elements, the last ones with the same name", envOf(rem, neighbours...), false},
		{"very many zero elements", make([]impl.Named, 1000000), false},
		{"very many elements", slices.Repeat(envOf(rem, "x"), 1000000), false},
	} {
		checkEqual(t, c.what, impl.ValidEnv(c.env), c.want)
	}
}
