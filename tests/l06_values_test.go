package tests

import (
	"fmt"
	"math"
	"regexp"
	"slices"
	"strconv"
	"strings"
	"testing"

	"loop.example/g00873/impl"
)

// stringOf, integerOf, patternOf, nameOf and deferOf return values of the kinds with a content of their own.
func stringOf(s string) impl.Value { return impl.Value{Kind: impl.VkString, Text: s} }
func integerOf(n int64) impl.Value { return impl.Value{Kind: impl.VkInteger, Num: n} }
func patternOf(s string) impl.Value {
	return impl.Value{Kind: impl.VkPattern, Text: s}
}
func nameOf(s string) impl.Value  { return impl.Value{Kind: impl.VkName, Text: s} }
func deferOf(s string) impl.Value { return impl.Value{Kind: impl.VkDefer, Text: s} }

// objectOf returns a value that refers to an object.
func objectOf(kind, id int64) impl.Value { return impl.Value{Kind: kind, Ref: id} }

func TestValueConstants(t *testing.T) {
	kinds := []int64{impl.VkString, impl.VkInteger, impl.VkPattern, impl.VkArray, impl.VkTable, impl.VkRecord, impl.VkName, impl.VkDefer}
	for i, kind := range kinds {
		checkEqual(t, "kind", kind, int64(i+1))
	}
	checkEqual(t, "MaxVars", int64(impl.MaxVars), 40)
	checkEqual(t, "MaxPatternText", int64(impl.MaxPatternText), 1200)
}

func TestValueExamples(t *testing.T) {
	checkEqual(t, "a large integer", impl.ValidValue(integerOf(1000000000001)), false)
	checkEqual(t, "DataType", impl.DataType(deferOf("X")), "expression")
	checkEqual(t, "QuoteText", impl.QuoteText("a\"b"), "\"a\"\"b\"")
	v, ok := impl.ReadValue("array#7")
	checkEqual(t, "ReadValue", v, objectOf(impl.VkArray, 7))
	checkEqual(t, "ReadValue: ok", ok, true)
	for _, s := range []string{"007", "-0"} {
		v, ok = impl.ReadValue(s)
		checkEqual(t, s, v, impl.Value{})
		checkEqual(t, s+": ok", ok, false)
	}
	checkEqual(t, "a string and an integer", impl.PrecedesValue(stringOf("z"), integerOf(-1000000000000)), true)
}

// valueTexts has valid values with the name of their data type and their text form.
var valueTexts = []struct {
	v              impl.Value
	dataType, text string
}{
	{stringOf(""), "string", `""`},
	{stringOf("a"), "string", `"a"`},
	{stringOf("it's"), "string", `"it's"`},
	{stringOf(`"`), "string", `""""`},
	{stringOf(`""`), "string", `""""""`},
	{stringOf(`a"b"`), "string", `"a""b"""`},
	{stringOf("\x00\n\xff"), "string", "\"\x00\n\xff\""},
	{stringOf("\u20ac"), "string", "\"\u20ac\""},
	{stringOf("<a>"), "string", `"<a>"`},
	{stringOf("7"), "string", `"7"`},
	{stringOf(strings.Repeat("x", 200)), "string", `"` + strings.Repeat("x", 200) + `"`},
	{stringOf(strings.Repeat(`"`, 200)), "string", `"` + strings.Repeat(`"`, 400) + `"`},
	{integerOf(0), "integer", "0"},
	{integerOf(7), "integer", "7"},
	{integerOf(-7), "integer", "-7"},
	{integerOf(10), "integer", "10"},
	{integerOf(1000000000000), "integer", "1000000000000"},
	{integerOf(-1000000000000), "integer", "-1000000000000"},
	{patternOf("a"), "pattern", "<a>"},
	{patternOf(">"), "pattern", "<>>"},
	{patternOf("<"), "pattern", "<<>"},
	{patternOf(`"a"`), "pattern", `<"a">`},
	{patternOf("\x00\xff\n"), "pattern", "<\x00\xff\n>"},
	{patternOf(strings.Repeat("p", 1200)), "pattern", "<" + strings.Repeat("p", 1200) + ">"},
	{objectOf(impl.VkArray, 1), "array", "array#1"},
	{objectOf(impl.VkArray, 1000000), "array", "array#1000000"},
	{objectOf(impl.VkTable, 20), "table", "table#20"},
	{objectOf(impl.VkTable, 1000000), "table", "table#1000000"},
	{objectOf(impl.VkRecord, 3), "record", "record#3"},
	{objectOf(impl.VkRecord, 999999), "record", "record#999999"},
	{nameOf("X"), "name", ".X"},
	{nameOf("ABCDEFGHIJKL"), "name", ".ABCDEFGHIJKL"},
	{nameOf("array"), "name", ".array"},
	{deferOf("X"), "expression", "*X"},
	{deferOf("a_1"), "expression", "*a_1"},
}

func TestValueTexts(t *testing.T) {
	for _, c := range valueTexts {
		checkEqual(t, c.text+": valid", impl.ValidValue(c.v), true)
		checkEqual(t, c.text+": data type", impl.DataType(c.v), c.dataType)
		checkEqual(t, c.text+": text", impl.ValueText(c.v), c.text)
		checkRead(t, c.text, c.v, true)
	}
}

func checkRead(t *testing.T, s string, want impl.Value, ok bool) {
	t.Helper()
	v, got := impl.ReadValue(s)
	if v != want || got != ok {
		t.Errorf("ReadValue(%.100q): got %.200q and %t, want %.200q and %t", s, fmt.Sprint(v), got, fmt.Sprint(want), ok)
	}
}

// TestTextsOfNoValue has texts that are almost text forms.
func TestTextsOfNoValue(t *testing.T) {
	for _, s := range []string{
		"", " ", "\x00", "a", "X", "#", "OK",
		`"`, `"""`, `"a`, `a"`, `"a"b"`, `""a"`, `"a"""b"`, `'a'`, ` "a"`, `"a" `, `"a""`, `"a">`, `<"a"`,
		`"` + strings.Repeat("x", 201) + `"`, `"` + strings.Repeat(`"`, 402) + `"`, `"` + strings.Repeat(`"`, 399) + `"`, `"` + strings.Repeat("x", 100000) + `"`,
		"00", "01", "007", "-0", "-01", "-007", "+1", "+0", "--1", "-", "+", "- 1", "1 ", " 1", "1_000", "0x1", "1.0", "1e3", "1a", "\uff11",
		"1000000000001", "-1000000000001", "9223372036854775807", "-9223372036854775808", "9223372036854775808", "-9223372036854775809", "18446744073709551617", strings.Repeat("1", 100000), "1" + strings.Repeat("0", 100000),
		"<>", "<", ">", "<a", "a>", "a<b>", "<a> ", " <a>", "<" + strings.Repeat("p", 1201) + ">", "<" + strings.Repeat("p", 1000000) + ">",
		"array#0", "array#-1", "array#+1", "array#01", "array#07", "array#1000001", "array#", "array", "array#a", "array#1 ", "array# 1", "array#1#1", "array#1>", " array#1", "Array#1", "ARRAY#1", "arrays#1", "xarray#1", "array##1", "array.1",
		"table#0", "table#007", "table#1000001", "table#9223372036854775808", "table#18446744073709551617", "table#-0", "record#0", "record#1000001", "record#", "record#1.", "string#1", "integer#1", "object#1", "name#1", "expression#X", "pattern#1",
		".", "*", ".1", "*1", "._", ". X", ".X ", "*X*", ".X.", "..X", "**X", "*.X", ".ABCDEFGHIJKLM", "*ABCDEFGHIJKLM", ".X>", `*X"`, ".\u00e4", "*a\xff", ".a-b", "@X", "$X", "." + strings.Repeat("X", 1000000),
	} {
		checkRead(t, s, impl.Value{}, false)
	}
}

// manyValues returns values with all combinations of usual and unusual fields.
func manyValues() []impl.Value {
	kinds := []int64{math.MinInt64, -1, 0, 1, 2, 3, 4, 5, 6, 7, 8, 9, 10, 257, 260, 1 << 32, math.MaxInt64}
	numbers := []int64{math.MinInt64, -1000000000001, -1000000000000, -1, 0, 1, 7, 1000000, 1000000000000, 1000000000001, math.MaxInt64}
	texts := []string{"", "A", "a_1", "ABCDEFGHIJKL", "ABCDEFGHIJKLM", "1", "_", " ", "A B", "\"", "<a>", "\x00", "a\xff", "\u20ac", strings.Repeat("x", 200), strings.Repeat("x", 201), strings.Repeat("x", 1200), strings.Repeat("x", 1201)}
	refs := []int64{math.MinInt64, -1, 0, 1, 7, 999999, 1000000, 1000001, math.MaxInt64}
	var list []impl.Value
	for _, kind := range kinds {
		for _, number := range numbers {
			for _, text := range texts {
				for _, ref := range refs {
					list = append(list, impl.Value{Kind: kind, Num: number, Text: text, Ref: ref})
				}
			}
		}
	}
	return list
}

// modelValue returns the data type and the text form of a value as the table
// of chapter 6 has them, and empty strings for an invalid value.
func modelValue(v impl.Value) (dataType, text string) {
	isReference := v.Num == 0 && v.Text == "" && v.Ref >= 1 && v.Ref <= 1000000
	isText := v.Num == 0 && v.Ref == 0
	switch {
	case v.Kind == impl.VkString && isText && len(v.Text) <= 200:
		return "string", `"` + strings.Join(strings.Split(v.Text, `"`), `""`) + `"`
	case v.Kind == impl.VkInteger && v.Text == "" && v.Ref == 0 && v.Num >= -1000000000000 && v.Num <= 1000000000000:
		return "integer", strconv.FormatInt(v.Num, 10)
	case v.Kind == impl.VkPattern && isText && v.Text != "" && len(v.Text) <= 1200:
		return "pattern", "<" + v.Text + ">"
	case v.Kind == impl.VkArray && isReference:
		return "array", "array#" + strconv.FormatInt(v.Ref, 10)
	case v.Kind == impl.VkTable && isReference:
		return "table", "table#" + strconv.FormatInt(v.Ref, 10)
	case v.Kind == impl.VkRecord && isReference:
		return "record", "record#" + strconv.FormatInt(v.Ref, 10)
	case v.Kind == impl.VkName && isText && nameSyntax.MatchString(v.Text):
		return "name", "." + v.Text
	case v.Kind == impl.VkDefer && isText && nameSyntax.MatchString(v.Text):
		return "expression", "*" + v.Text
	}
	return "", ""
}

// TestValuesAgainstModel has the first part of promise 7: a valid value is recovered from its text form.
func TestValuesAgainstModel(t *testing.T) {
	valid := map[string]int{}
	for _, v := range manyValues() {
		dataType, text := modelValue(v)
		isObject := dataType == "array" || dataType == "table" || dataType == "record"
		if impl.ValidValue(v) != (text != "") || impl.DataType(v) != dataType || impl.ValueText(v) != text || impl.IsReference(v) != isObject || impl.IsNull(v) != (text == `""`) {
			t.Errorf("%.60q: valid %t, type %q, text %.60q, reference %t, null %t", fmt.Sprint(v), impl.ValidValue(v), impl.DataType(v), impl.ValueText(v), impl.IsReference(v), impl.IsNull(v))
		}
		if text != "" {
			checkRead(t, text, v, true)
			valid[dataType]++
		}
	}
	for dataType, count := range map[string]int{"string": 15, "integer": 7, "pattern": 16, "array": 4, "table": 4, "record": 4, "name": 3, "expression": 3} {
		checkEqual(t, "valid values of the type "+dataType, valid[dataType], count)
	}
}

// valueSyntax has, for each kind of values, the texts that can be text forms.
var valueSyntax = map[int64]*regexp.Regexp{
	impl.VkString:  regexp.MustCompile(`(?s)\A"((?:[^"]|"")*)"\z`),
	impl.VkInteger: regexp.MustCompile(`\A(0|-?[1-9][0-9]{0,12})\z`),
	impl.VkPattern: regexp.MustCompile(`(?s)\A<(.+)>\z`),
	impl.VkArray:   regexp.MustCompile(`\Aarray#([1-9][0-9]{0,5}|1000000)\z`),
	impl.VkTable:   regexp.MustCompile(`\Atable#([1-9][0-9]{0,5}|1000000)\z`),
	impl.VkRecord:  regexp.MustCompile(`\Arecord#([1-9][0-9]{0,5}|1000000)\z`),
	impl.VkName:    regexp.MustCompile(`\A\.([A-Za-z][A-Za-z0-9_]{0,11})\z`),
	impl.VkDefer:   regexp.MustCompile(`\A\*([A-Za-z][A-Za-z0-9_]{0,11})\z`),
}

// modelRead returns the value with a text form, and whether there is one.
func modelRead(s string) (impl.Value, bool) {
	for kind, syntax := range valueSyntax {
		m := syntax.FindStringSubmatch(s)
		if m == nil {
			continue
		}
		number, _ := strconv.ParseInt(m[1], 10, 64)
		text := strings.Join(strings.Split(m[1], `""`), `"`)
		switch kind {
		case impl.VkString:
			return stringOf(text), len(text) <= 200
		case impl.VkInteger:
			return integerOf(number), number >= -1000000000000 && number <= 1000000000000
		case impl.VkPattern:
			return patternOf(m[1]), len(m[1]) <= 1200
		case impl.VkName, impl.VkDefer:
			return impl.Value{Kind: kind, Text: m[1]}, true
		}
		return objectOf(kind, number), true
	}
	return impl.Value{}, false
}

// formTexts are texts of which many are text forms, or almost.
func formTexts() []string {
	var list []string
	eachText("\"<>-01.*aX#", 5, func(s string) { list = append(list, s) })
	eachText("\"a\xff", 9, func(s string) { list = append(list, s) })
	eachText("-+01", 7, func(s string) { list = append(list, s, "array#"+s, "record#"+s) })
	pieces := append(allBytes(), slices.Repeat([]string{"\"", "\"\"", "<", ">", "array#", "table#", "record#", "1", "0", "-", ".", "*", "A", "a_1"}, 20)...)
	for i, s := range randomTexts(16, 60000, 6, pieces) {
		frame := [][2]string{{"", ""}, {`"`, `"`}, {"<", ">"}, {"table#", ""}, {".", ""}, {"*", ""}, {"-", ""}}[i%7]
		list = append(list, frame[0]+s+frame[1])
	}
	for _, length := range []int{0, 1, 11, 12, 13, 14, 99, 100, 101, 199, 200, 201, 1199, 1200, 1201} {
		for _, piece := range []string{"a", "\"", "\"\"", "1", "9", "0", "\xff", "\u20ac"} {
			s := strings.Repeat(piece, length)
			list = append(list, s, "-"+s, "1"+s, `"`+s+`"`, "<"+s+">", "array#1"+s, "table#"+s, "record#-"+s, "."+s, "*A"+s)
		}
	}
	for n := range int64(40) {
		for _, limit := range []int64{0, 1000000, 1000000000000, -1000000000000} {
			number := strconv.FormatInt(limit+n-20, 10)
			list = append(list, number, "array#"+number, "table#"+number, "record#"+number)
		}
	}
	return list
}

// TestReadValueAgainstModel also checks that nothing but the text form of a value is read as this value.
func TestReadValueAgainstModel(t *testing.T) {
	read := map[int64]int{}
	for _, s := range formTexts() {
		want, ok := modelRead(s)
		if !ok {
			want = impl.Value{}
		}
		checkRead(t, s, want, ok)
		if ok {
			checkEqual(t, s+": valid", impl.ValidValue(want), true)
			checkEqual(t, s+": text", impl.ValueText(want), s)
		}
		read[want.Kind]++
	}
	for kind := range int64(9) {
		if read[kind] < 30 {
			t.Errorf("only %d values of the kind %d were read", read[kind], kind)
		}
	}
}

func TestStringValue(t *testing.T) {
	texts := append(allBytes(), "", "A", "it's \"", "\x00\xff", strings.Repeat("x", 199), strings.Repeat("\xff", 200), strings.Repeat("\"", 200), strings.Repeat("x", 201), strings.Repeat("\u20ac", 66), strings.Repeat("\u20ac", 67), strings.Repeat("x", 1000000))
	for _, s := range texts {
		v, ok := impl.StringValue(s)
		checkEqual(t, "ok", ok, len(s) <= 200)
		if ok {
			checkEqual(t, s, v, stringOf(s))
			checkEqual(t, s+": valid", impl.ValidValue(v), true)
			checkRead(t, impl.ValueText(v), v, true)
		} else {
			checkEqual(t, "a long text", v, impl.Value{})
		}
		checkEqual(t, "null", impl.IsNull(v), s == "")
	}
}

func TestIntegerValue(t *testing.T) {
	for _, n := range []int64{math.MinInt64, math.MinInt64 + 1, -1000000000002, -1000000000001, -1000000000000, -999999999999, -1, 0, 1, 999999999999, 1000000000000, 1000000000001, 1000000000002, math.MaxInt64} {
		v, ok := impl.IntegerValue(n)
		checkEqual(t, "ok", ok, n >= -1000000000000 && n <= 1000000000000)
		if ok {
			checkEqual(t, "value", v, integerOf(n))
			checkEqual(t, "valid", impl.ValidValue(v), true)
			checkRead(t, impl.ValueText(v), v, true)
		} else {
			checkEqual(t, "no value", v, impl.Value{})
		}
	}
}

func TestIsNull(t *testing.T) {
	checkEqual(t, "the null value", impl.IsNull(stringOf("")), true)
	for _, v := range []impl.Value{{}, stringOf(" "), stringOf("\x00"), integerOf(0), {Kind: impl.VkString, Num: 1}, {Kind: impl.VkString, Ref: 1}, patternOf(""), nameOf("")} {
		checkEqual(t, fmt.Sprint(v), impl.IsNull(v), false)
	}
}

func TestIsReference(t *testing.T) {
	for _, kind := range []int64{impl.VkArray, impl.VkTable, impl.VkRecord} {
		for id, want := range map[int64]bool{math.MinInt64: false, -1: false, 0: false, 1: true, 1000000: true, 1000001: false, math.MaxInt64: false} {
			checkEqual(t, fmt.Sprint(kind, " ", id), impl.IsReference(objectOf(kind, id)), want)
		}
		checkEqual(t, "with a Text", impl.IsReference(impl.Value{Kind: kind, Ref: 1, Text: "A"}), false)
		checkEqual(t, "with a Num", impl.IsReference(impl.Value{Kind: kind, Ref: 1, Num: 1}), false)
	}
	for _, v := range []impl.Value{{}, {Ref: 1}, {Kind: impl.VkPattern, Ref: 1}, {Kind: impl.VkName, Ref: 1}, stringOf("array#1"), integerOf(1), nameOf("A")} {
		checkEqual(t, fmt.Sprint(v), impl.IsReference(v), false)
	}
}

// modelLiteral returns the literal of a text, byte by byte.
func modelLiteral(s string) string {
	quoted := []byte{34}
	for _, b := range []byte(s) {
		if b == 34 {
			quoted = append(quoted, 34)
		}
		quoted = append(quoted, b)
	}
	return string(append(quoted, 34))
}

func TestQuoteText(t *testing.T) {
	for _, c := range []struct{ s, want string }{
		{"", `""`},
		{"a", `"a"`},
		{"'", `"'"`},
		{`"`, `""""`},
		{`a"b`, `"a""b"`},
		{`""`, `""""""`},
		{"\n\x00\xff", "\"\n\x00\xff\""},
		{strings.Repeat("x", 201), `"` + strings.Repeat("x", 201) + `"`},
		{strings.Repeat(`"`, 1000000), strings.Repeat(`"`, 2000002)},
	} {
		checkEqual(t, fmt.Sprintf("%.40q", c.s), impl.QuoteText(c.s), c.want)
	}
	texts := append(allBytes(), randomTexts(17, 2000, 300, append(allBytes(), slices.Repeat([]string{`"`}, 100)...))...)
	eachText("a\"\xe2", 7, func(s string) { texts = append(texts, s) })
	for _, s := range texts {
		checkEqual(t, fmt.Sprintf("%.40q", s), impl.QuoteText(s), modelLiteral(s))
	}
}

// orderedValues has values in ascending order, valid ones and invalid ones.
func orderedValues() []impl.Value {
	return []impl.Value{
		{Kind: math.MinInt64, Num: 9, Text: "z", Ref: 9},
		{Kind: -1, Num: math.MaxInt64},
		{},
		{Ref: 1},
		{Text: "a"},
		{Num: 1},
		{Kind: impl.VkString, Num: -1, Text: "z"},
		{Kind: impl.VkString, Ref: -1},
		stringOf(""),
		{Kind: impl.VkString, Ref: 1},
		stringOf("\x00"),
		stringOf("\n"),
		stringOf("A"),
		stringOf("A\x00"),
		stringOf("AB"),
		stringOf("B"),
		stringOf("a"),
		stringOf("aa"),
		stringOf("b"),
		stringOf("\x7f"),
		stringOf("\xc3\xa4"),
		stringOf("\xff"),
		{Kind: impl.VkString, Num: 1},
		integerOf(math.MinInt64),
		integerOf(-1000000000000),
		integerOf(-10),
		integerOf(-9),
		{Kind: impl.VkInteger, Num: -9, Text: "A"},
		integerOf(0),
		integerOf(9),
		integerOf(10),
		integerOf(math.MaxInt64),
		patternOf("A"),
		patternOf("B"),
		objectOf(impl.VkArray, math.MinInt64),
		objectOf(impl.VkArray, 1),
		objectOf(impl.VkArray, 2),
		objectOf(impl.VkArray, 10),
		{Kind: impl.VkArray, Text: "A", Ref: 1},
		{Kind: impl.VkArray, Num: 1},
		objectOf(impl.VkTable, 1),
		objectOf(impl.VkRecord, 1),
		nameOf("X"),
		nameOf("Y"),
		deferOf("A"),
		{Kind: math.MaxInt64, Num: math.MinInt64},
	}
}

func TestPrecedesValue(t *testing.T) {
	list := orderedValues()
	for i, a := range list {
		for j, b := range list {
			checkEqual(t, fmt.Sprintf("%+v before %+v", a, b), impl.PrecedesValue(a, b), i < j)
			checkEqual(t, fmt.Sprintf("%+v same as %+v", a, b), impl.SameValue(a, b), i == j)
		}
	}
}

// smallValues returns all values that have fields of a few sizes.
func smallValues() []impl.Value {
	var list []impl.Value
	for _, kind := range []int64{-1, 1, 2, 4} {
		for _, number := range []int64{math.MinInt64, 0, 1, math.MaxInt64} {
			for _, text := range []string{"", "A", "\xff"} {
				for _, ref := range []int64{math.MinInt64, 0, 2} {
					list = append(list, impl.Value{Kind: kind, Num: number, Text: text, Ref: ref})
				}
			}
		}
	}
	return list
}

// TestValuesAreTotallyOrdered is the second part of promise 7.
func TestValuesAreTotallyOrdered(t *testing.T) {
	list := smallValues()
	for _, a := range list {
		for _, b := range list {
			relations := 0
			for _, holds := range []bool{impl.PrecedesValue(a, b), impl.SameValue(a, b), impl.PrecedesValue(b, a)} {
				if holds {
					relations++
				}
			}
			checkEqual(t, fmt.Sprintf("relations of %+v and %+v", a, b), relations, 1)
			if !impl.PrecedesValue(a, b) {
				continue
			}
			for _, c := range list {
				if impl.PrecedesValue(b, c) && !impl.PrecedesValue(a, c) {
					t.Errorf("%+v, %+v and %+v are not in order", a, b, c)
				}
			}
		}
	}
}

// TestOrderOfFields sorts all values by their fields, the last field first, and compares the order.
func TestOrderOfFields(t *testing.T) {
	list := manyValues()
	source := slices.Clone(list)
	slices.SortStableFunc(list, func(a, b impl.Value) int { return compareIntegers(a.Ref, b.Ref) })
	slices.SortStableFunc(list, func(a, b impl.Value) int { return strings.Compare(a.Text, b.Text) })
	slices.SortStableFunc(list, func(a, b impl.Value) int { return compareIntegers(a.Num, b.Num) })
	slices.SortStableFunc(list, func(a, b impl.Value) int { return compareIntegers(a.Kind, b.Kind) })
	slices.SortFunc(source, func(a, b impl.Value) int {
		switch {
		case impl.PrecedesValue(a, b):
			return -1
		case impl.SameValue(a, b):
			return 0
		}
		return 1
	})
	checkList(t, "sorted values", source, list)
}

func compareIntegers(a, b int64) int {
	switch {
	case a < b:
		return -1
	case a > b:
		return 1
	}
	return 0
}

func TestSameValue(t *testing.T) {
	base := impl.Value{Kind: 1, Num: 2, Text: "A", Ref: 3}
	equal := impl.Value{Kind: 1, Num: 2, Text: strings.Clone("A"), Ref: 3}
	checkEqual(t, "equal", impl.SameValue(base, equal), true)
	for _, other := range []impl.Value{{}, {Kind: 2, Num: 2, Text: "A", Ref: 3}, {Kind: 1, Num: 3, Text: "A", Ref: 3}, {Kind: 1, Num: 2, Text: "a", Ref: 3}, {Kind: 1, Num: 2, Text: "A", Ref: 4}} {
		checkEqual(t, fmt.Sprint(other), impl.SameValue(base, other), false)
		checkEqual(t, fmt.Sprint(other, ", exchanged"), impl.SameValue(other, base), false)
	}
	long := strings.Repeat("x", 1000000)
	checkEqual(t, "long texts", impl.SameValue(stringOf(long), stringOf(strings.Clone(long))), true)
	checkEqual(t, "long texts with another end", impl.SameValue(stringOf(long+"x"), stringOf(long+"y")), false)
}
