package tests

import (
	"fmt"
	"math"
	"math/rand"
	"slices"
	"strings"
	"testing"

	"loop.example/g00873/impl"
)

// valuesOf returns texts as strings and numbers as integers; values stay as they are.
func valuesOf(list ...any) []impl.Value {
	var values []impl.Value
	for _, x := range list {
		switch x := x.(type) {
		case string:
			values = append(values, stringOf(x))
		case int:
			values = append(values, integerOf(int64(x)))
		case impl.Value:
			values = append(values, x)
		}
	}
	return values
}

func TestBuiltinExamples(t *testing.T) {
	checkEqual(t, "the parameters of REPLACE", impl.BuiltinArity("REPLACE"), 3)
	p, code := impl.ToPattern(integerOf(5))
	checkPattern(t, "the integer 5 as a pattern", p, texted(impl.PtString, "5"))
	checkEqual(t, "the integer 5 as a pattern: code", code, impl.OK)
	want := callResult{v: patternOf("len(3)"), succeeds: true}
	checkCall(t, "LEN of 3", calledAny(impl.CallBuiltin(impl.Heap{}, impl.Console{}, "LEN", valuesOf(3))), want)
}

func TestBuiltinNames(t *testing.T) {
	names := impl.BuiltinNames()
	checkEqual(t, "number of names", len(names), 43)
	checkList(t, "names", names, sortedBuiltins())
	for _, name := range names {
		checkEqual(t, name+": parameters", impl.BuiltinArity(name), int64(len(builtinRows[name].params)))
	}
	for _, name := range noBuiltins() {
		checkEqual(t, fmt.Sprintf("%.20q: parameters", name), impl.BuiltinArity(name), int64(-1))
	}
	first := impl.BuiltinNames()
	overwrite(first[:cap(first)], "changed")
	checkList(t, "names after others were changed", impl.BuiltinNames(), sortedBuiltins())
}

func TestPatternConstant(t *testing.T) {
	constants := map[string]int64{"REM": impl.PtRem, "ARB": impl.PtArb, "BAL": impl.PtBal, "FENCE": impl.PtFence, "ABORT": impl.PtAbort, "FAIL": impl.PtFail, "SUCCEED": impl.PtSucceed}
	for name, kind := range constants {
		p, found := impl.PatternConstant(name)
		checkEqual(t, name+": found", found, true)
		checkPattern(t, name, p, bare(kind))
	}
	others := []string{"", "rem", "Rem", "REM ", " REM", "RE", "REMM", "ARBNO", "arb", "ALT", "CAT", "COND", "NOW", "CURSOR", "DEFER", "STRING", "ANY", "NOTANY", "SPAN", "BREAK", "LEN", "POS", "RPOS", "TAB", "RTAB", "fail", "SUCCEEDS", "FENCE\x00", "\xff", strings.Repeat("REM", 100000)}
	for _, name := range append(others, sortedBuiltins()...) {
		p, found := impl.PatternConstant(name)
		checkEqual(t, fmt.Sprintf("%.20q: found", name), found, false)
		checkPattern(t, name, p, impl.Pattern{})
	}
}

func checkToPattern(t *testing.T, v impl.Value, want impl.Pattern, code int64) {
	t.Helper()
	what := fmt.Sprintf("ToPattern(%.60q)", fmt.Sprint(v))
	p, got := impl.ToPattern(v)
	checkPattern(t, what, p, want)
	checkEqual(t, what+": code", got, code)
}

func TestToPattern(t *testing.T) {
	for _, s := range append(allBytes(), "", "a", "rem", `"a"`, "007", "-5", strings.Repeat("x", 200)) {
		checkToPattern(t, stringOf(s), texted(impl.PtString, s), impl.OK)
	}
	for n, s := range map[int64]string{0: "0", 5: "5", -5: "-5", 1000000000000: "1000000000000", -1000000000000: "-1000000000000"} {
		checkToPattern(t, integerOf(n), texted(impl.PtString, s), impl.OK)
	}
	for _, s := range []string{"x", "X", "rem", "a_1", "ABCDEFGHIJKL"} {
		checkToPattern(t, deferOf(s), texted(impl.PtDefer, s), impl.OK)
		checkToPattern(t, nameOf(s), impl.Pattern{}, impl.ErrType)
	}
	for _, row := range patternRows() {
		if len(row.text) <= 1200 {
			checkToPattern(t, patternOf(row.text), row.p, impl.OK)
		}
	}
	for _, s := range []string{"x", " rem", "rem ", "rem()", "len(201)", `any("")`, "alt(rem)", "<rem>", "\x00", strings.Repeat("arbno(", 60) + "rem" + strings.Repeat(")", 60), strings.Repeat("x", 1200)} {
		checkToPattern(t, patternOf(s), impl.Pattern{}, impl.ErrInvalid)
	}
	for _, v := range []impl.Value{arrayRef(1), tableRef(2), recordRef(1000000)} {
		checkToPattern(t, v, impl.Pattern{}, impl.ErrType)
	}
	for _, v := range append(invalidValues(), patternOf(strings.Repeat("arbno(", 500000)), impl.Value{Kind: impl.VkPattern, Text: "rem", Num: 1}, impl.Value{Kind: impl.VkPattern, Text: "rem", Ref: 1}, impl.Value{Kind: impl.VkDefer, Text: "x", Num: 1}) {
		checkToPattern(t, v, impl.Pattern{}, impl.ErrInvalid)
	}
}

// patternOfLength returns a pattern whose text form has a length from 42 to 1242.
func patternOfLength(length int) impl.Pattern {
	left := length - 42
	var parts []impl.Pattern
	for range 6 {
		part := min(left, 200)
		left -= part
		parts = append(parts, texted(impl.PtString, strings.Repeat("x", part)))
	}
	p, _ := impl.AltOf(parts)
	return p
}

func TestPatternValue(t *testing.T) {
	for _, row := range patternRows() {
		want := computed{patternOf(row.text), impl.OK}
		if len(row.text) > 1200 {
			want = computed{code: impl.ErrFull}
		}
		checkEqual(t, row.text, asComputed(impl.PatternValue(row.p)), want)
	}
	for length, code := range map[int]int64{42: impl.OK, 1199: impl.OK, 1200: impl.OK, 1201: impl.ErrFull, 1202: impl.ErrFull, 1242: impl.ErrFull} {
		p := patternOfLength(length)
		_, text := modelPattern(p)
		checkEqual(t, "length", len(text), length)
		want := computed{patternOf(text), code}
		if code != impl.OK {
			want = computed{code: code}
		}
		checkEqual(t, fmt.Sprint("a text form of the length ", length), asComputed(impl.PatternValue(p)), want)
	}
	quotes := texted(impl.PtString, strings.Repeat(`"`, 200))
	for _, p := range append(invalidPatterns(), impl.Pattern{}, numbered(impl.PtLen, 201), stacked(60, bare(impl.PtRem)), endlessPattern(1), sharedPattern(200), leftChain(quotes, 40)) {
		checkEqual(t, "an invalid pattern", asComputed(impl.PatternValue(p)), computed{code: impl.ErrInvalid})
	}
}

func TestPredicates(t *testing.T) {
	type row struct {
		args  []impl.Value
		holds string
	}
	names := []string{"EQ", "NE", "LT", "LE", "GT", "GE", "IDENT", "DIFFER", "LGT"}
	for _, c := range []row{
		{nil, "x  x xx  "},
		{valuesOf(""), "x  x xx  "},
		{valuesOf(0), "x  x x xx"},
		{valuesOf(1), " x  xx xx"},
		{valuesOf(-1), " xxx   xx"},
		{valuesOf("1"), " x  xx xx"},
		{valuesOf("", 1), " xxx   x "},
		{valuesOf(1, 2), " xxx   x "},
		{valuesOf(2, 1), " x  xx xx"},
		{valuesOf(2, 2), "x  x xx  "},
		{valuesOf(5, "5"), "x  x x x "},
		{valuesOf("5", "5"), "x  x xx  "},
		{valuesOf("007", 7), "x  x x x "},
		{valuesOf(7, "+007"), "x  x x xx"},
		{valuesOf(10, 9), " x  xx x "},
		{valuesOf("9", "10"), " xxx   xx"},
		{valuesOf(-1000000000000, 1000000000000), " xxx   x "},
	} {
		for i, name := range names {
			checkBuiltin(t, exampleHeap(), name, c.args, calledPredicate(c.holds[i] == 'x', impl.OK))
		}
	}
	for _, args := range [][]impl.Value{valuesOf("a", "b"), valuesOf("a", "a"), valuesOf("a", 1), valuesOf(1, "a"), valuesOf("a"), valuesOf("", "\xff"), valuesOf(" 1", 1), valuesOf(1, "1000000000001")} {
		for _, name := range names[:6] {
			checkBuiltin(t, exampleHeap(), name, args, faulted(impl.ErrType))
		}
	}
	for _, c := range []struct {
		a, b  impl.Value
		isLgt bool
	}{
		{stringOf("b"), stringOf("a"), true}, {stringOf("a"), stringOf("b"), false}, {stringOf("a"), stringOf("A"), true}, {stringOf("ab"), stringOf("a"), true}, {stringOf("\xff"), stringOf("a"), true}, {stringOf("a"), integerOf(9), true}, {integerOf(9), stringOf("a"), false}, {integerOf(9), integerOf(10), true},
	} {
		checkBuiltin(t, exampleHeap(), "LGT", []impl.Value{c.a, c.b}, calledPredicate(c.isLgt, impl.OK))
	}
	values := append(valuesOf("", "x", 1), patternOf("p"), arrayRef(1), arrayRef(8), tableRef(2), recordRef(4), nameOf("X"), deferOf("X"), stringOf("X"))
	for i, a := range values {
		for j, b := range values {
			args := []impl.Value{a, b}
			checkBuiltin(t, exampleHeap(), "IDENT", args, calledPredicate(i == j, impl.OK))
			checkBuiltin(t, exampleHeap(), "DIFFER", args, calledPredicate(i != j, impl.OK))
			if i > 2 && i < 10 || j > 2 && j < 10 {
				checkBuiltin(t, exampleHeap(), "EQ", args, faulted(impl.ErrType))
				checkBuiltin(t, exampleHeap(), "LGT", args, faulted(impl.ErrType))
			}
		}
	}
}

func TestInteger(t *testing.T) {
	for s := range numerals {
		checkBuiltin(t, exampleHeap(), "INTEGER", valuesOf(s), calledPredicate(true, impl.OK))
	}
	checkBuiltin(t, exampleHeap(), "INTEGER", nil, calledPredicate(true, impl.OK))
	checkBuiltin(t, exampleHeap(), "INTEGER", valuesOf(-7), calledPredicate(true, impl.OK))
	for _, s := range noNumerals() {
		checkBuiltin(t, exampleHeap(), "INTEGER", valuesOf(s), calledPredicate(false, impl.OK))
	}
	for _, v := range []impl.Value{patternOf("1"), arrayRef(1), tableRef(2), recordRef(4), nameOf("A"), deferOf("A")} {
		checkBuiltin(t, exampleHeap(), "INTEGER", []impl.Value{v}, calledPredicate(false, impl.OK))
	}
}

// fault is an error code as the result of a row.
type fault int64

// stringRow is a call of a function with its result: a text, a number, a fault,
// or nil for a function that fails.
type stringRow struct {
	name   string
	args   []impl.Value
	result any
}

func checkStringRows(t *testing.T, rows []stringRow) {
	t.Helper()
	for _, row := range rows {
		want := callResult{}
		switch x := row.result.(type) {
		case fault:
			want = faulted(int64(x))
		case string, int:
			want = gave(valuesOf(x)[0])
		}
		checkBuiltin(t, exampleHeap(), row.name, row.args, want)
	}
}

func TestStringFunctions(t *testing.T) {
	full := strings.Repeat("x", 200)
	checkStringRows(t, []stringRow{
		{"SIZE", nil, 0}, {"SIZE", valuesOf(""), 0}, {"SIZE", valuesOf("abc"), 3}, {"SIZE", valuesOf(-12), 3}, {"SIZE", valuesOf("\u20ac"), 3}, {"SIZE", valuesOf(full), 200}, {"SIZE", valuesOf("\x00"), 1},
		{"TRIM", nil, ""}, {"TRIM", valuesOf(" a b  "), " a b"}, {"TRIM", valuesOf("   "), ""}, {"TRIM", valuesOf("a\t "), "a\t"}, {"TRIM", valuesOf(12), "12"}, {"TRIM", valuesOf(full), full},
		{"REVERSE", nil, ""}, {"REVERSE", valuesOf("abc"), "cba"}, {"REVERSE", valuesOf(-12), "21-"}, {"REVERSE", valuesOf("\u20ac"), "\xac\x82\xe2"}, {"REVERSE", valuesOf(full[1:] + "y"), "y" + full[1:]},
		{"REPLACE", valuesOf("abca", "aba", "xyz"), "zycz"}, {"REPLACE", valuesOf("abc", "b", "-"), "a-c"}, {"REPLACE", valuesOf("", "a", "b"), ""}, {"REPLACE", valuesOf(121, 1, 7), "727"}, {"REPLACE", valuesOf(full, "x", "y"), strings.Repeat("y", 200)},
		{"REPLACE", nil, fault(impl.ErrRange)}, {"REPLACE", valuesOf("abc"), fault(impl.ErrRange)}, {"REPLACE", valuesOf("abc", "b"), fault(impl.ErrRange)}, {"REPLACE", valuesOf("abc", "", ""), fault(impl.ErrRange)}, {"REPLACE", valuesOf("abc", "b", "xy"), fault(impl.ErrRange)}, {"REPLACE", valuesOf("abc", "ab", "x"), fault(impl.ErrRange)}, {"REPLACE", valuesOf("abc", "", "x"), fault(impl.ErrRange)},
		{"CHAR", valuesOf(65), "A"}, {"CHAR", valuesOf(0), "\x00"}, {"CHAR", nil, "\x00"}, {"CHAR", valuesOf(255), "\xff"}, {"CHAR", valuesOf("+065"), "A"}, {"CHAR", valuesOf(128), "\x80"}, {"CHAR", valuesOf(256), fault(impl.ErrRange)}, {"CHAR", valuesOf(-1), fault(impl.ErrRange)}, {"CHAR", valuesOf(1000000000000), fault(impl.ErrRange)}, {"CHAR", valuesOf(-1000000000000), fault(impl.ErrRange)}, {"CHAR", valuesOf("A"), fault(impl.ErrType)},
		{"ORD", valuesOf("A"), 65}, {"ORD", valuesOf("AB"), 65}, {"ORD", valuesOf("\x00"), 0}, {"ORD", valuesOf("\xff\x00"), 255}, {"ORD", valuesOf("\u20ac"), 226}, {"ORD", valuesOf(7), 55}, {"ORD", valuesOf(-7), 45}, {"ORD", valuesOf(""), nil}, {"ORD", nil, nil},
		{"DATATYPE", nil, "string"}, {"DATATYPE", valuesOf("a"), "string"}, {"DATATYPE", valuesOf("7"), "string"}, {"DATATYPE", valuesOf(7), "integer"}, {"DATATYPE", valuesOf(patternOf("p")), "pattern"}, {"DATATYPE", valuesOf(arrayRef(1)), "array"}, {"DATATYPE", valuesOf(tableRef(2)), "table"}, {"DATATYPE", valuesOf(recordRef(4)), "record"}, {"DATATYPE", valuesOf(nameOf("X")), "name"}, {"DATATYPE", valuesOf(deferOf("X")), "expression"},
	})
	for i, s := range allBytes() {
		checkStringRows(t, []stringRow{{"CHAR", valuesOf(i), s}, {"ORD", valuesOf(s + "x"), i}, {"SIZE", valuesOf(s), 1}})
	}
}

func TestDuplAndPadding(t *testing.T) {
	full, tenth := strings.Repeat("x", 200), strings.Repeat("y", 20)
	checkStringRows(t, []stringRow{
		{"DUPL", valuesOf("ab", 0), ""}, {"DUPL", valuesOf("ab", 1), "ab"}, {"DUPL", valuesOf("ab", 3), "ababab"}, {"DUPL", valuesOf("ab", "2"), "abab"}, {"DUPL", valuesOf(12, 2), "1212"}, {"DUPL", valuesOf("ab"), ""}, {"DUPL", nil, ""}, {"DUPL", valuesOf("", 5), ""}, {"DUPL", valuesOf("", 200), ""},
		{"DUPL", valuesOf("x", 200), full}, {"DUPL", valuesOf(full, 1), full}, {"DUPL", valuesOf(full, 0), ""}, {"DUPL", valuesOf(tenth, 10), strings.Repeat("y", 200)}, {"DUPL", valuesOf("xxx", 66), full[:198]},
		{"DUPL", valuesOf(full, 2), fault(impl.ErrFull)}, {"DUPL", valuesOf(tenth, 11), fault(impl.ErrFull)}, {"DUPL", valuesOf("xxx", 67), fault(impl.ErrFull)}, {"DUPL", valuesOf(full, 200), fault(impl.ErrFull)}, {"DUPL", valuesOf("xx", 101), fault(impl.ErrFull)},
		{"DUPL", valuesOf("ab", -1), fault(impl.ErrRange)}, {"DUPL", valuesOf("", -1), fault(impl.ErrRange)}, {"DUPL", valuesOf("", 201), fault(impl.ErrRange)}, {"DUPL", valuesOf("x", 201), fault(impl.ErrRange)}, {"DUPL", valuesOf("ab", 1000000000000), fault(impl.ErrRange)}, {"DUPL", valuesOf("ab", -1000000000000), fault(impl.ErrRange)}, {"DUPL", valuesOf("", 1<<32), fault(impl.ErrRange)},
		{"LPAD", valuesOf(7, 3, "0"), "007"}, {"RPAD", valuesOf(7, 3, "0"), "700"}, {"LPAD", valuesOf("ab", 4), "  ab"}, {"RPAD", valuesOf("ab", 4), "ab  "}, {"LPAD", valuesOf("ab", 4, ""), "  ab"}, {"RPAD", valuesOf("ab", 4, ""), "ab  "}, {"LPAD", valuesOf("ab", "3", 0), "0ab"}, {"RPAD", valuesOf("ab", "3", "\xff"), "ab\xff"},
		{"LPAD", valuesOf("ab"), "ab"}, {"RPAD", valuesOf("ab"), "ab"}, {"LPAD", nil, ""}, {"RPAD", nil, ""}, {"LPAD", valuesOf("ab", 2, "x"), "ab"}, {"RPAD", valuesOf("ab", 1, "x"), "ab"}, {"LPAD", valuesOf("ab", 0, "x"), "ab"}, {"LPAD", valuesOf("", 2), "  "}, {"RPAD", valuesOf("", 2, "x"), "xx"},
		{"LPAD", valuesOf("", 200, "x"), full}, {"RPAD", valuesOf("y", 200, "x"), "y" + full[1:]}, {"LPAD", valuesOf("y", 200, "x"), full[1:] + "y"}, {"LPAD", valuesOf(full, 200, "y"), full}, {"RPAD", valuesOf(full, 5, "y"), full},
		{"LPAD", valuesOf("a", 201, "x"), fault(impl.ErrRange)}, {"RPAD", valuesOf("a", 201, "x"), fault(impl.ErrRange)}, {"LPAD", valuesOf("a", -1, "x"), fault(impl.ErrRange)}, {"RPAD", valuesOf("a", -1), fault(impl.ErrRange)}, {"RPAD", valuesOf(full, 201), fault(impl.ErrRange)}, {"LPAD", valuesOf("", 1000000000000), fault(impl.ErrRange)},
		{"LPAD", valuesOf("a", 3, "xy"), fault(impl.ErrRange)}, {"RPAD", valuesOf("a", 3, "xy"), fault(impl.ErrRange)}, {"LPAD", valuesOf("abc", 3, "xy"), fault(impl.ErrRange)}, {"LPAD", valuesOf("abc", 0, 10), fault(impl.ErrRange)}, {"RPAD", valuesOf("a", 3, "  "), fault(impl.ErrRange)}, {"RPAD", valuesOf("a", 3, "\u00e4"), fault(impl.ErrRange)}, {"LPAD", valuesOf("a", 3, full), fault(impl.ErrRange)},
		{"LPAD", valuesOf("a", "x"), fault(impl.ErrType)}, {"DUPL", valuesOf("a", "x"), fault(impl.ErrType)}, {"DUPL", valuesOf("a", "1000000000001"), fault(impl.ErrType)},
	})
}

func TestSubstr(t *testing.T) {
	full := strings.Repeat("x", 199) + "y"
	checkStringRows(t, []stringRow{
		{"SUBSTR", valuesOf("hello", 2, 3), "ell"}, {"SUBSTR", valuesOf("hello", 1, 5), "hello"}, {"SUBSTR", valuesOf("hello", 1, 1), "h"}, {"SUBSTR", valuesOf("hello", 5, 1), "o"}, {"SUBSTR", valuesOf("hello", "3", "+2"), "ll"}, {"SUBSTR", valuesOf(-1234, 1, 2), "-1"}, {"SUBSTR", valuesOf("\u20ac", 2, 1), "\x82"}, {"SUBSTR", valuesOf(full, 1, 200), full}, {"SUBSTR", valuesOf(full, 200, 1), "y"},
		{"SUBSTR", valuesOf("hello", 1, 0), ""}, {"SUBSTR", valuesOf("hello", 5, 0), ""}, {"SUBSTR", valuesOf("hello", 6, 0), ""}, {"SUBSTR", valuesOf("hello", 1), ""}, {"SUBSTR", valuesOf("", 1, 0), ""}, {"SUBSTR", valuesOf("", 1), ""},
		{"SUBSTR", valuesOf("hello", 0, 0), nil}, {"SUBSTR", valuesOf("hello", 0, 1), nil}, {"SUBSTR", valuesOf("hello", 0, 5), nil}, {"SUBSTR", valuesOf("hello", -1, 0), nil}, {"SUBSTR", valuesOf("hello", -1, 3), nil}, {"SUBSTR", valuesOf("hello", -5, 5), nil}, {"SUBSTR", valuesOf("hello", -1000000000000, 1000000000000), nil},
		{"SUBSTR", valuesOf("hello"), nil}, {"SUBSTR", nil, nil}, {"SUBSTR", valuesOf(""), nil}, {"SUBSTR", valuesOf("hello", ""), nil},
		{"SUBSTR", valuesOf("hello", 1, 6), nil}, {"SUBSTR", valuesOf("hello", 4, 3), nil}, {"SUBSTR", valuesOf("hello", 5, 2), nil}, {"SUBSTR", valuesOf("hello", 6, 1), nil}, {"SUBSTR", valuesOf("hello", 7, 0), nil}, {"SUBSTR", valuesOf("hello", 8, 0), nil}, {"SUBSTR", valuesOf("hello", 1000000000000, 0), nil}, {"SUBSTR", valuesOf("hello", 1, 1000000000000), nil}, {"SUBSTR", valuesOf("hello", 1000000000000, 1000000000000), nil}, {"SUBSTR", valuesOf("", 2, 0), nil}, {"SUBSTR", valuesOf("", 1, 1), nil}, {"SUBSTR", valuesOf(full, 200, 2), nil}, {"SUBSTR", valuesOf(full, 201, 0), ""}, {"SUBSTR", valuesOf(full, 202, 0), nil},
		{"SUBSTR", valuesOf("hello", 1, -1), nil}, {"SUBSTR", valuesOf("hello", 3, -1), nil}, {"SUBSTR", valuesOf("hello", 6, -1), nil}, {"SUBSTR", valuesOf("hello", 7, -1), nil}, {"SUBSTR", valuesOf("hello", 1, -1000000000000), nil}, {"SUBSTR", valuesOf("hello", 1000000000000, -1000000000000), nil},
		{"SUBSTR", valuesOf("hello", "x", 1), fault(impl.ErrType)}, {"SUBSTR", valuesOf("hello", 1, "x"), fault(impl.ErrType)}, {"SUBSTR", valuesOf("hello", 0, "x"), fault(impl.ErrType)}, {"SUBSTR", valuesOf("hello", " 1", 1), fault(impl.ErrType)},
	})
}

func TestPatternFunctions(t *testing.T) {
	full := strings.Repeat("x", 200)
	sets := map[string]int64{"ANY": impl.PtAny, "NOTANY": impl.PtNotAny, "SPAN": impl.PtSpan, "BREAK": impl.PtBreak}
	for name, kind := range sets {
		for _, s := range append(allBytes(), "ab", "aa", `"`, full, strings.Repeat(`"`, 200), strings.Repeat("\xff", 200)) {
			checkBuiltin(t, exampleHeap(), name, valuesOf(s), gavePattern(texted(kind, s)))
		}
		checkBuiltin(t, exampleHeap(), name, valuesOf(-10), gavePattern(texted(kind, "-10")))
		checkBuiltin(t, exampleHeap(), name, valuesOf(""), faulted(impl.ErrRange))
		checkBuiltin(t, exampleHeap(), name, nil, faulted(impl.ErrRange))
		for _, v := range []impl.Value{patternOf("rem"), arrayRef(1), tableRef(2), recordRef(4), nameOf("X"), deferOf("X")} {
			checkBuiltin(t, exampleHeap(), name, []impl.Value{v}, faulted(impl.ErrType))
		}
	}
	lengths := map[string]int64{"LEN": impl.PtLen, "POS": impl.PtPos, "RPOS": impl.PtRPos, "TAB": impl.PtTab, "RTAB": impl.PtRTab}
	for name, kind := range lengths {
		for _, n := range []int64{0, 1, 7, 199, 200} {
			checkBuiltin(t, exampleHeap(), name, []impl.Value{integerOf(n)}, gavePattern(numbered(kind, n)))
			checkBuiltin(t, exampleHeap(), name, valuesOf(fmt.Sprintf("%+05d", n)), gavePattern(numbered(kind, n)))
		}
		checkBuiltin(t, exampleHeap(), name, nil, gavePattern(bare(kind)))
		for _, n := range []int64{-1, 201, 256, 1 << 32, 1000000000000, -1000000000000} {
			checkBuiltin(t, exampleHeap(), name, []impl.Value{integerOf(n)}, faulted(impl.ErrRange))
		}
		for _, v := range []impl.Value{stringOf("x"), stringOf("1 "), patternOf("rem"), arrayRef(1), tableRef(2), recordRef(4), nameOf("X"), deferOf("X")} {
			checkBuiltin(t, exampleHeap(), name, []impl.Value{v}, faulted(impl.ErrType))
		}
	}
}

func TestArbno(t *testing.T) {
	for _, c := range []struct {
		v impl.Value
		p impl.Pattern
	}{
		{stringOf(""), texted(impl.PtString, "")}, {stringOf("ab"), texted(impl.PtString, "ab")}, {integerOf(-5), texted(impl.PtString, "-5")}, {deferOf("X"), texted(impl.PtDefer, "X")}, {patternOf("rem"), bare(impl.PtRem)}, {patternOf("alt(rem,len(2))"), tree(impl.PtAlt, bare(impl.PtRem), numbered(impl.PtLen, 2))},
	} {
		checkBuiltin(t, exampleHeap(), "ARBNO", []impl.Value{c.v}, gavePattern(tree(impl.PtArbno, c.p)))
	}
	checkBuiltin(t, exampleHeap(), "ARBNO", nil, gavePattern(tree(impl.PtArbno, texted(impl.PtString, ""))))
	for _, v := range []impl.Value{arrayRef(1), tableRef(2), recordRef(4), nameOf("X")} {
		checkBuiltin(t, exampleHeap(), "ARBNO", []impl.Value{v}, faulted(impl.ErrType))
	}
	for _, s := range []string{"x", "rem ", "len(201)", strings.Repeat("arbno(", 60) + "rem" + strings.Repeat(")", 60)} {
		checkBuiltin(t, exampleHeap(), "ARBNO", []impl.Value{patternOf(s)}, faulted(impl.ErrInvalid))
	}
	rem := bare(impl.PtRem)
	for _, p := range []impl.Pattern{stacked(58, rem), stacked(57, rem), leftChain(rem, 30)} {
		checkBuiltin(t, exampleHeap(), "ARBNO", []impl.Value{patternOf(impl.PatternText(p))}, gavePattern(tree(impl.PtArbno, p)))
	}
	for _, p := range []impl.Pattern{stacked(59, rem), stacked(1, leftChain(rem, 30)), stacked(59, texted(impl.PtDefer, "x"))} {
		checkBuiltin(t, exampleHeap(), "ARBNO", []impl.Value{patternOf(impl.PatternText(p))}, faulted(impl.ErrFull))
	}
}

// TestLongPatterns has patterns whose text forms are longer than the text of a
// value: CallPattern returns them, and CallBuiltin cannot.
func TestLongPatterns(t *testing.T) {
	for length, code := range map[int]int64{1192: impl.OK, 1193: impl.OK, 1194: impl.ErrFull, 1200: impl.ErrFull} {
		p := patternOfLength(length)
		_, text := modelPattern(p)
		args := valuesOf(patternOf(text))
		checkCall(t, "CallPattern", calledPattern(impl.CallPattern("ARBNO", args)), gavePattern(tree(impl.PtArbno, p)))
		want := callResult{v: patternOf("arbno(" + text + ")"), succeeds: true}
		if code != impl.OK {
			want = faulted(code)
		}
		checkCall(t, fmt.Sprint("CallBuiltin with a text form of the length ", length), calledAny(impl.CallBuiltin(impl.Heap{}, impl.Console{}, "ARBNO", args)), want)
	}
}

// TestHeapFunctions has the functions that leave the heap as it is, for each kind of object.
func TestHeapFunctions(t *testing.T) {
	h := heapWith(5,
		impl.Object{Id: 1, Kind: impl.ObArray, Low: -3, Vals: valuesOf("x", 7, arrayRef(1))},
		tableWith(2, integerOf(9), valuesOf("k", recordRef(3), 5, "five")...),
		recordWith(3, "NODE", valuesOf(tableRef(2), "b")...),
		arrayWith(4), tableWith(5, stringOf("")),
	)
	unchanged := func(v impl.Value, succeeds bool) callResult {
		return callResult{heap: h, v: v, succeeds: succeeds}
	}
	for _, c := range []struct {
		object       impl.Value
		keys, values []impl.Value
	}{
		{arrayRef(1), valuesOf(-3, -2, -1), valuesOf("x", 7, arrayRef(1))},
		{tableRef(2), valuesOf("k", 5), valuesOf(recordRef(3), "five")},
		{recordRef(3), valuesOf("A", "B"), valuesOf(tableRef(2), "b")},
		{arrayRef(4), nil, nil},
		{tableRef(5), nil, nil},
	} {
		count := len(c.keys)
		checkBuiltin(t, h, "LENGTH", valuesOf(c.object), unchanged(integerOf(int64(count)), true))
		for i := range c.keys {
			for _, number := range valuesOf(i+1, fmt.Sprint(i+1), fmt.Sprintf("%+04d", i+1)) {
				checkBuiltin(t, h, "KEY", valuesOf(c.object, number), unchanged(c.keys[i], true))
				checkBuiltin(t, h, "ITEM", valuesOf(c.object, number), unchanged(c.values[i], true))
			}
		}
		for _, args := range [][]impl.Value{valuesOf(c.object), valuesOf(c.object, ""), valuesOf(c.object, 0), valuesOf(c.object, -1), valuesOf(c.object, -count), valuesOf(c.object, count+1), valuesOf(c.object, count+2), valuesOf(c.object, 2*count+2), valuesOf(c.object, 1000000000000), valuesOf(c.object, -1000000000000), valuesOf(c.object, "0")} {
			checkBuiltin(t, h, "KEY", args, unchanged(impl.Value{}, false))
			checkBuiltin(t, h, "ITEM", args, unchanged(impl.Value{}, false))
		}
		for _, name := range []string{"KEY", "ITEM"} {
			for _, v := range valuesOf("x", "1 ", patternOf("rem"), nameOf("X"), deferOf("X"), arrayRef(1), tableRef(2), recordRef(3)) {
				checkBuiltin(t, h, name, valuesOf(c.object, v), faulted(impl.ErrType))
			}
		}
	}
	for _, v := range valuesOf("", "array#1", 1, patternOf("rem"), nameOf("X"), deferOf("X")) {
		for _, name := range []string{"LENGTH", "COPY", "KEY", "ITEM"} {
			checkBuiltin(t, h, name, valuesOf(v), faulted(impl.ErrType))
		}
		for _, number := range valuesOf(0, 1, 2, "x") {
			checkBuiltin(t, h, "KEY", valuesOf(v, number), faulted(impl.ErrType))
			checkBuiltin(t, h, "ITEM", valuesOf(v, number), faulted(impl.ErrType))
		}
	}
	for _, name := range []string{"LENGTH", "COPY", "KEY", "ITEM"} {
		checkBuiltin(t, h, name, nil, faulted(impl.ErrType))
	}
}

// TestPairsOfFullObjects has the pairs of objects that are as large as possible.
func TestPairsOfFullObjects(t *testing.T) {
	h := fullHeap()
	for _, o := range h.Objects[:3] {
		v, count := referenceTo(o), len(o.Vals)
		for i, number := range integersTo(count + 1) {
			key, item := callResult{heap: h}, callResult{heap: h}
			if i < count {
				key = callResult{heap: h, v: append(slices.Clone(o.Keys), integersTo(1030)[999:]...)[i], succeeds: true}
				item = callResult{heap: h, v: o.Vals[i], succeeds: true}
			}
			checkBuiltin(t, h, "KEY", valuesOf(v, number), key)
			checkBuiltin(t, h, "ITEM", valuesOf(v, number), item)
		}
		checkBuiltin(t, h, "LENGTH", valuesOf(v), callResult{heap: h, v: integerOf(int64(count)), succeeds: true})
		checkBuiltin(t, h, "COPY", valuesOf(v), faulted(impl.ErrFull))
	}
	checkBuiltin(t, h, "ARRAY", valuesOf(30, "x"), faulted(impl.ErrFull))
	checkBuiltin(t, h, "TABLE", nil, faulted(impl.ErrFull))
}

func TestCreatingFunctions(t *testing.T) {
	h := exampleHeap()
	made := func(o impl.Object) callResult {
		o.Id = 10
		return callResult{heap: extended(h, o), v: referenceTo(o), succeeds: true}
	}
	for _, init := range valuesOf("", "x", -7, patternOf("rem"), nameOf("X"), deferOf("X"), arrayRef(1), tableRef(2), recordRef(4)) {
		for _, n := range []int{0, 1, 2, 29, 30} {
			want := made(arrayWith(0, slices.Repeat([]impl.Value{init}, n)...))
			checkBuiltin(t, h, "ARRAY", valuesOf(n, init), want)
			checkBuiltin(t, h, "ARRAY", valuesOf(fmt.Sprint(n), init), want)
		}
		for _, n := range []int{-1, 31, 32, 1000, 1 << 32, 1000000000000, -1000000000000} {
			checkBuiltin(t, h, "ARRAY", valuesOf(n, init), faulted(impl.ErrRange))
		}
		for _, v := range valuesOf("x", "1 ", patternOf("rem"), nameOf("X"), deferOf("X"), arrayRef(1), tableRef(2), recordRef(4)) {
			checkBuiltin(t, h, "ARRAY", valuesOf(v, init), faulted(impl.ErrType))
		}
		checkBuiltin(t, h, "TABLE", valuesOf(init), made(tableWith(0, init)))
	}
	checkBuiltin(t, h, "ARRAY", nil, made(arrayWith(0)))
	checkBuiltin(t, h, "ARRAY", valuesOf(2), made(arrayWith(0, valuesOf("", "")...)))
	checkBuiltin(t, h, "TABLE", nil, made(tableWith(0, stringOf(""))))
	for _, o := range h.Objects {
		checkBuiltin(t, h, "COPY", valuesOf(referenceTo(o)), made(o))
	}
	many := heapWith(40, arraysTo(40)...)
	for _, full := range []impl.Heap{many, heapWith(1000000, arraysTo(40)[:1]...)} {
		checkBuiltin(t, full, "ARRAY", valuesOf(30, "x"), faulted(impl.ErrFull))
		checkBuiltin(t, full, "ARRAY", valuesOf(31, "x"), faulted(impl.ErrRange))
		checkBuiltin(t, full, "ARRAY", valuesOf("x", "x"), faulted(impl.ErrType))
		checkBuiltin(t, full, "TABLE", valuesOf(1), faulted(impl.ErrFull))
		checkBuiltin(t, full, "COPY", valuesOf(arrayRef(1)), faulted(impl.ErrFull))
		checkBuiltin(t, full, "COPY", valuesOf(1), faulted(impl.ErrType))
		checkBuiltin(t, full, "LENGTH", valuesOf(arrayRef(1)), callResult{heap: full, v: integerOf(0), succeeds: true})
	}
	for _, free := range []impl.Heap{heapWith(39, arraysTo(39)...), heapWith(999999, arraysTo(1)...)} {
		last := arrayWith(free.Next + 1)
		want := callResult{heap: extended(free, last), v: referenceTo(last), succeeds: true}
		checkBuiltin(t, free, "ARRAY", nil, want)
		checkBuiltin(t, free, "COPY", valuesOf(arrayRef(1)), want)
	}
}

// allTables are the functions that call those of a table, for the example heap.
func allTables() map[string]func(name string, args []impl.Value) callResult {
	tables := map[string]func(name string, args []impl.Value) callResult{
		"any": func(name string, args []impl.Value) callResult {
			return calledAny(impl.CallBuiltin(exampleHeap(), exampleConsole(), name, args))
		},
	}
	for _, table := range []string{ofPredicates, ofStrings, ofPatterns, ofHeap, ofFiles} {
		tables[table] = func(name string, args []impl.Value) callResult {
			return callTable(table, exampleHeap(), exampleConsole(), name, args)
		}
	}
	return tables
}

// goodArguments returns arguments with which a function returns no error for the example heap and the example console.
func goodArguments(name string) []impl.Value {
	switch name {
	case "REPLACE":
		return valuesOf("ab", "a", "b")
	case "LENGTH", "COPY":
		return valuesOf(arrayRef(1))
	case "KEY", "ITEM":
		return valuesOf(arrayRef(1), 1)
	case "OPEN":
		return valuesOf("NEW", "W")
	case "PUT":
		return valuesOf("a", "new")
	case "GET", "CLOSE", "REWIND":
		return valuesOf("A")
	case "ERASE":
		return valuesOf("B")
	}
	return valuesOf(2, 2, 2)[:len(builtinRows[name].params)]
}

// TestInvalidArguments checks that ErrInvalid comes before all other errors, whatever the number of arguments is.
func TestInvalidArguments(t *testing.T) {
	for table, call := range allTables() {
		for _, name := range append(sortedBuiltins(), noBuiltins()...) {
			good := append(goodArguments(name), valuesOf(1, "x", recordRef(4))...)
			bad := invalidValues()
			if table == "any" || table == ofHeap {
				bad = append(bad, strayReferences()...)
			}
			for k, v := range bad {
				for at := range good {
					args := slices.Clone(good[:at+k%2*(len(good)-at)])
					args = append(args, v)
					if k%3 == 0 {
						args = append(args, good...)
					}
					checkCallWith(t, name, args, call(name, args), faulted(impl.ErrInvalid))
				}
			}
			many := append(slices.Repeat(valuesOf(1), 10000), impl.Value{})
			checkCall(t, fmt.Sprintf("%.20s in %s with very many arguments", name, table), call(name, many), faulted(impl.ErrInvalid))
		}
	}
}

// TestStrayReferencesWithoutHeap checks that functions without a heap only look at whether a value is valid.
func TestStrayReferencesWithoutHeap(t *testing.T) {
	for _, v := range strayReferences() {
		args := valuesOf(v)
		checkCall(t, "DATATYPE", calledString(impl.CallString("DATATYPE", args)), gave(stringOf(impl.DataType(v))))
		checkCall(t, "IDENT", calledPredicate(impl.CallPredicate("IDENT", valuesOf(v, v))), callResult{succeeds: true})
		checkCall(t, "INTEGER", calledPredicate(impl.CallPredicate("INTEGER", args)), callResult{})
		checkCall(t, "SIZE", calledString(impl.CallString("SIZE", args)), faulted(impl.ErrType))
		checkCall(t, "ANY", calledPattern(impl.CallPattern("ANY", args)), faulted(impl.ErrType))
	}
}

// TestUndefinedFunctions has the names of no function, and those of other tables. This error comes before that of too many arguments.
func TestUndefinedFunctions(t *testing.T) {
	arguments := [][]impl.Value{nil, valuesOf(""), valuesOf(1), valuesOf(arrayRef(1), 1), valuesOf("a", "b", "c"), slices.Repeat(valuesOf("x"), 7), slices.Repeat(valuesOf(1), 10000)}
	for table, call := range allTables() {
		names := noBuiltins()
		for name, row := range builtinRows {
			if table != "any" && row.table != table {
				names = append(names, name)
			}
		}
		for _, name := range names {
			for _, args := range arguments {
				checkCall(t, fmt.Sprintf("%.20s in %s", name, table), call(name, args), faulted(impl.ErrUndefined))
			}
		}
	}
}

// TestTooManyArguments checks that ErrRange comes before the errors of conversions.
func TestTooManyArguments(t *testing.T) {
	for table, call := range allTables() {
		for name, row := range builtinRows {
			if table != "any" && row.table != table {
				continue
			}
			count := len(row.params)
			for _, list := range [][]impl.Value{append(goodArguments(name), stringOf("")), slices.Repeat(valuesOf("x"), count+1), slices.Repeat(valuesOf(nameOf("X")), count+2), slices.Repeat(valuesOf(patternOf("x")), count+1), slices.Repeat(valuesOf(""), count+1), slices.Repeat(valuesOf(1), 10000)} {
				checkCall(t, fmt.Sprintf("%s in %s with %d arguments", name, table, len(list)), call(name, list), faulted(impl.ErrRange))
			}
		}
	}
}

// TestMissingArguments is the second part of promise 23: what is missing is a null value.
func TestMissingArguments(t *testing.T) {
	h, c := exampleHeap(), exampleConsole()
	lists := 0
	for name, row := range builtinRows {
		for _, first := range valuesOf("", "ab", "2", 2, 1, 0, "A", "B", "a", patternOf("rem"), arrayRef(1), tableRef(2), recordRef(4), nameOf("X"), deferOf("X")) {
			for _, second := range valuesOf("", "a", 1) {
				args := []impl.Value{first, second, stringOf("")}[:len(row.params)]
				for given := range args {
					padded := append(slices.Clone(args[:given]), slices.Repeat(valuesOf(""), len(args)-given)...)
					checkCallWith(t, name, args[:given], callTable(row.table, h, c, name, args[:given]), callTable(row.table, h, c, name, padded))
					checkCallWith(t, "CallBuiltin: "+name, args[:given], calledAny(impl.CallBuiltin(h, c, name, args[:given])), calledAny(impl.CallBuiltin(h, c, name, padded)))
					lists++
				}
			}
		}
	}
	if lists < 1000 {
		t.Errorf("only %d lists of arguments", lists)
	}
}

func TestInvalidHeapsAndConsoles(t *testing.T) {
	names := append(sortedBuiltins(), "NONE", "")
	for i, heap := range invalidHeaps() {
		for k, name := range names {
			args := [][]impl.Value{nil, goodArguments(name), valuesOf(1, 2, 3, 4), {{}}}[(i+k)%4]
			checkCall(t, "CallHeap: "+heap.what, calledHeap(impl.CallHeap(heap.h, name, args)), faulted(impl.ErrInvalid))
			checkCall(t, "CallBuiltin: "+heap.what, calledAny(impl.CallBuiltin(heap.h, exampleConsole(), name, args)), faulted(impl.ErrInvalid))
		}
	}
	for i, console := range invalidConsoles() {
		for k, name := range names {
			args := [][]impl.Value{nil, goodArguments(name), valuesOf(1, 2, 3, 4), {{}}}[(i+k)%4]
			checkCall(t, "CallBuiltin: "+console.what, calledAny(impl.CallBuiltin(exampleHeap(), console.c, name, args)), faulted(impl.ErrInvalid))
			checkCall(t, "CallFile: "+console.what, calledFile(impl.CallFile(console.c, name, args)), faulted(impl.ErrInvalid))
		}
		checkCall(t, "CallBuiltin: "+console.what, calledAny(impl.CallBuiltin(impl.Heap{}, console.c, "EQ", nil)), faulted(impl.ErrInvalid))
	}
}

// TestValidConsoles checks that a console is returned as it was, unless a function on files changes it.
func TestValidConsoles(t *testing.T) {
	for _, console := range validConsoles() {
		for _, name := range sortedBuiltins() {
			args := goodArguments(name)
			want := modelBuiltin(exampleHeap(), console.c, name, args)
			if builtinRows[name].table != ofFiles || equalConsoles(console.c, exampleConsole()) {
				checkEqual(t, name+": code", want.code, impl.OK)
			}
			checkCall(t, name+" with "+console.what, calledAny(impl.CallBuiltin(exampleHeap(), console.c, name, args)), want)
		}
		fails := callResult{heap: exampleHeap(), console: console.c}
		for name, args := range map[string][]impl.Value{"EQ": valuesOf(1, 2), "INTEGER": valuesOf("x"), "SUBSTR": nil, "ORD": nil, "KEY": valuesOf(arrayRef(1), 9), "ITEM": valuesOf(arrayRef(8))} {
			checkCall(t, name+" that fails, with "+console.what, calledAny(impl.CallBuiltin(exampleHeap(), console.c, name, args)), fails)
		}
		for _, f := range console.c.Files {
			if f.Mode == impl.FmRead && f.At == int64(len(f.Lines)) {
				checkCall(t, "GET that fails, with "+console.what, calledAny(impl.CallBuiltin(exampleHeap(), console.c, "GET", valuesOf(f.Name))), fails)
			}
		}
	}
}

// argumentValues are values of all kinds, with those at and beyond limits, valid and invalid ones.
func argumentValues() []impl.Value {
	full, rem := strings.Repeat("x", 200), bare(impl.PtRem)
	return valuesOf(
		"", "a", "ab", " b ", "abcba", "2", "-1", "+03", "200", "201", "256", "1000000000001", full, "\xff\x00",
		0, 1, 2, 3, 5, 31, 200, 201, 255, 256, -1, 1000000000000, -1000000000000,
		patternOf("rem"), patternOf("x"), patternOf(impl.PatternText(stacked(58, rem))), patternOf(impl.PatternText(stacked(59, rem))), patternOf(impl.PatternText(patternOfLength(1200))),
		arrayRef(1), tableRef(2), recordRef(4), arrayRef(8), arrayRef(4), nameOf("X"), deferOf("X"), impl.Value{}, stringOf(full+"x"),
	)
}

// TestBuiltinsAgainstModel calls each function with all lists of up to two
// values, all such lists behind some texts, and some that are longer.
func TestBuiltinsAgainstModel(t *testing.T) {
	t.Parallel()
	values := argumentValues()
	lists := [][]impl.Value{nil}
	for i, v := range values {
		lists = append(lists, valuesOf(v))
		for k, w := range values {
			s := []string{"abcba", "", strings.Repeat("x", 200)}[(i+k)%5%3]
			lists = append(lists, valuesOf(v, w), valuesOf(s, v, w))
		}
		lists = append(lists, valuesOf(v, 1, 2, 3), valuesOf(1, "a", v, "b", 2, 3, 4))
	}
	h, c := exampleHeap(), exampleConsole()
	outcomes := map[string]int{}
	for _, name := range append(sortedBuiltins(), "NONE") {
		for i, args := range lists {
			// Of the lists that are too long, some are enough.
			if len(args) > len(builtinRows[name].params)+1 && i%29 > 0 {
				continue
			}
			for _, table := range []string{ofPredicates, ofStrings, ofPatterns, ofHeap, ofFiles} {
				if builtinRows[name].table != table && len(args) > 1 {
					continue
				}
				want := modelCall(table, h, c, name, args)
				checkCallWith(t, name, args, callTable(table, h, c, name, args), want)
				if builtinRows[name].table == table {
					outcomes[fmt.Sprint(name, want.code, want.succeeds)]++
				}
			}
			checkCallWith(t, "CallBuiltin: "+name, args, calledAny(impl.CallBuiltin(h, c, name, args)), modelBuiltin(h, c, name, args))
		}
	}
	if len(outcomes) < 150 {
		t.Errorf("only %d different outcomes", len(outcomes))
	}
}

// TestBuiltinsWithRandomArguments compares all functions with the model for texts of any bytes, and heaps of all sorts.
func TestBuiltinsWithRandomArguments(t *testing.T) {
	t.Parallel()
	m := heapMaker{rand.New(rand.NewSource(171))}
	texts := randomTexts(172, 5000, 40, append(allBytes(), slices.Repeat([]string{" ", "a", "b", "0", "1"}, 60)...))
	names := sortedBuiltins()
	outcomes := map[string]int{}
	for i := range 40000 {
		h := m.heap(4)
		name := names[i%len(names)]
		var args []impl.Value
		for range m.Intn(len(builtinRows[name].params) + 1) {
			args = append(args, []impl.Value{stringOf(texts[m.Intn(len(texts))]), stringOf(allBytes()[m.Intn(256)]), integerOf(m.Int63n(12) - 2), integerOf(m.Int63n(400) - 100), m.value(h.Objects), m.value(h.Objects), arrayRef(int64(m.Intn(6)))}[m.Intn(7)])
		}
		if name == "REPLACE" && len(args) == 3 && m.Intn(3) > 0 {
			args[2] = stringOf(impl.ReverseText(args[1].Text))
		}
		want := modelBuiltin(h, impl.Console{}, name, args)
		checkCallWith(t, "CallBuiltin: "+name, args, calledAny(impl.CallBuiltin(h, impl.Console{}, name, args)), want)
		outcomes[fmt.Sprint(want.code, want.succeeds)]++
	}
	for what, least := range map[string]int{"0 true": 5000, "0 false": 1000, "1 false": 100, "3 false": 500, "4 false": 1000} {
		if outcomes[what] < least {
			t.Errorf("only %d calls with the outcome %s", outcomes[what], what)
		}
	}
}

// TestBuiltinsWithStrangeArguments has texts that are no values, values with any fields, and the least and the greatest numbers.
func TestBuiltinsWithStrangeArguments(t *testing.T) {
	var values []impl.Value
	for i, v := range manyValues() {
		if i%41 == 0 {
			values = append(values, v)
		}
	}
	for _, n := range []int64{math.MinInt64, math.MinInt64 + 1, -1000000000001, 1000000000001, math.MaxInt64 - 1, math.MaxInt64} {
		values = append(values, integerOf(n), arrayRef(n), impl.Value{Kind: n})
	}
	h := exampleHeap()
	for _, name := range sortedBuiltins() {
		for _, v := range values {
			for _, args := range [][]impl.Value{{v}, {arrayRef(1), v}, {v, v, v}} {
				checkCallWith(t, name, args, calledAny(impl.CallBuiltin(h, impl.Console{}, name, args)), modelBuiltin(h, impl.Console{}, name, args))
			}
		}
	}
}
