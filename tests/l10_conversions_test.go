package tests

import (
	"bytes"
	"fmt"
	"maps"
	"math"
	"math/big"
	"math/rand"
	"regexp"
	"slices"
	"strings"
	"testing"

	"loop.example/g00873/impl"
)

// Operators in the order of their numbers.
var (
	arithmeticOps = []int64{impl.ExAdd, impl.ExSub, impl.ExMul, impl.ExDiv}
	comparisonOps = []int64{impl.CmEq, impl.CmNe, impl.CmLt, impl.CmLe, impl.CmGt, impl.CmGe, impl.CmIdent, impl.CmDiffer, impl.CmLgt}
	integerOps    = comparisonOps[:6]
)

// computed is a value and a code.
type computed struct {
	v    impl.Value
	code int64
}

func asComputed(v impl.Value, code int64) computed {
	return computed{v, code}
}

// judged is a truth value and a code.
type judged struct {
	holds bool
	code  int64
}

func asJudged(holds bool, code int64) judged {
	return judged{holds, code}
}

// number64 is the result of a conversion to an integer.
type number64 struct {
	n  int64
	ok bool
}

func asNumber(n int64, ok bool) number64 {
	return number64{n, ok}
}

// textual is a text, and whether there is one.
type textual struct {
	s  string
	ok bool
}

func asTextual(s string, ok bool) textual {
	return textual{s, ok}
}

func TestComparisonConstants(t *testing.T) {
	checkList(t, "operators", comparisonOps, []int64{1, 2, 3, 4, 5, 6, 7, 8, 9})
}

func TestConversionExamples(t *testing.T) {
	checkEqual(t, "the string +007", asNumber(impl.ToInteger(stringOf("+007"))), number64{7, true})
	checkEqual(t, "the integer -5", asTextual(impl.ToText(integerOf(-5))), textual{"-5", true})
	checkEqual(t, "the quotient of -7 and the string 2", asComputed(impl.Arithmetic(impl.ExDiv, integerOf(-7), stringOf("2"))), computed{integerOf(-3), impl.OK})
	for _, op := range []int64{impl.CmEq, impl.CmDiffer} {
		checkEqual(t, "the integer 5 and the string 5", asJudged(impl.Compared(op, integerOf(5), stringOf("5"))), judged{true, impl.OK})
	}
	checkEqual(t, "translated", asTextual(impl.TranslateText("abca", "aba", "xyz")), textual{"zycz", true})
	checkEqual(t, "padded", asTextual(impl.PadText("7", 3, "0", true)), textual{"007", true})
}

// numerals are strings that can be converted to integers.
var numerals = map[string]int64{
	"": 0, "0": 0, "+0": 0, "-0": 0, "00": 0, "-00": 0, "0000000000000": 0, "+0000000000000": 0, "-0000000000000": 0,
	"1": 1, "+1": 1, "-1": -1, "7": 7, "+7": 7, "-7": -7, "007": 7, "+007": 7, "-007": -7, "10": 10, "-10": -10, "0123456789": 123456789,
	"0000000000001": 1, "-0000000000001": -1, "0999999999999": 999999999999, "999999999999": 999999999999, "-999999999999": -999999999999,
	"1000000000000": 1000000000000, "+1000000000000": 1000000000000, "-1000000000000": -1000000000000,
}

// noNumerals are strings that cannot be converted to integers.
func noNumerals() []string {
	return []string{
		"+", "-", "++1", "--1", "+-1", "-+1", "1+", "1-", "+ 1", "- 1", " ", "  ", " 1", "1 ", " 1 ", "1 1", "\t1", "1\n", "1\x00", "\x001",
		"a", "A", "x1", "1x", "0x1", "1e3", "1E3", "1.0", "1.", ".1", "1_0", "_1", "1,0", "'1'", "\"1\"", "0b1", "0o7", "Inf", "NaN", "/", ":", "1/", "1:", "-a", "+a1",
		"1000000000001", "+1000000000001", "-1000000000001", "9999999999999", "-9999999999999",
		"00000000000000", "00000000000001", "+00000000000001", "-00000000000001", "01000000000000", "+01000000000000", "10000000000000",
		"9223372036854775807", "9223372036854775808", "-9223372036854775808", "-9223372036854775809", "18446744073709551616", "18446744073709551617", "36893488147419103239",
		"\uff11", "\u0661", "1\u0661", "\u22121", "\xff", "1\xff", "\xb1", strings.Repeat("1", 200), strings.Repeat("0", 200), strings.Repeat("0", 199) + "7", strings.Repeat(" ", 200), "-" + strings.Repeat("9", 199),
	}
}

// inconvertible are valid values that are neither strings nor integers.
func inconvertible() []impl.Value {
	return []impl.Value{patternOf("1"), patternOf("p"), arrayRef(1), tableRef(2), recordRef(1000000), nameOf("A"), nameOf("B"), deferOf("A")}
}

func TestToInteger(t *testing.T) {
	for s, n := range numerals {
		checkEqual(t, fmt.Sprintf("ToInteger(%q)", s), asNumber(impl.ToInteger(stringOf(s))), number64{n, true})
	}
	for _, s := range noNumerals() {
		checkEqual(t, fmt.Sprintf("ToInteger(%.60q)", s), asNumber(impl.ToInteger(stringOf(s))), number64{})
	}
	for _, n := range []int64{0, 1, -1, 7, -7, 999999999999, -999999999999, 1000000000000, -1000000000000} {
		checkEqual(t, fmt.Sprint("ToInteger of ", n), asNumber(impl.ToInteger(integerOf(n))), number64{n, true})
	}
	for _, v := range slices.Concat(inconvertible(), invalidValues()) {
		checkEqual(t, fmt.Sprintf("ToInteger(%.60q)", fmt.Sprint(v)), asNumber(impl.ToInteger(v)), number64{})
	}
	for _, v := range []impl.Value{{Kind: impl.VkString, Text: "7", Num: 7}, {Kind: impl.VkString, Text: "7", Ref: 1}, {Kind: impl.VkString, Num: 7}, {Kind: impl.VkInteger, Num: 7, Text: "7"}, {Kind: impl.VkInteger, Num: 7, Ref: 7}, integerOf(math.MinInt64), integerOf(math.MaxInt64), {Text: "7"}, {Num: 7}} {
		checkEqual(t, fmt.Sprint("ToInteger of the invalid ", v), asNumber(impl.ToInteger(v)), number64{})
		checkEqual(t, fmt.Sprint("ToText of the invalid ", v), asTextual(impl.ToText(v)), textual{})
	}
}

func TestToText(t *testing.T) {
	for s := range numerals {
		checkEqual(t, "ToText", asTextual(impl.ToText(stringOf(s))), textual{s, true})
	}
	for _, s := range append(append(noNumerals(), allBytes()...), strings.Repeat("\xff", 200), "it's a \"text\"") {
		checkEqual(t, "ToText", asTextual(impl.ToText(stringOf(s))), textual{s, true})
	}
	for n, s := range map[int64]string{0: "0", 1: "1", -1: "-1", 10: "10", -10: "-10", 7: "7", 999999999999: "999999999999", -999999999999: "-999999999999", 1000000000000: "1000000000000", -1000000000000: "-1000000000000"} {
		checkEqual(t, "ToText", asTextual(impl.ToText(integerOf(n))), textual{s, true})
	}
	for _, v := range slices.Concat(inconvertible(), invalidValues()) {
		checkEqual(t, fmt.Sprintf("ToText(%.60q)", fmt.Sprint(v)), asTextual(impl.ToText(v)), textual{})
	}
}

var numeralSyntax = regexp.MustCompile(`\A[+-]?[0-9]{1,13}\z`)

// modelToInteger returns the integer to which a value is converted, and nil if there is none.
func modelToInteger(v impl.Value) *big.Int {
	dataType, _ := modelValue(v)
	switch {
	case dataType == "integer":
		return big.NewInt(v.Num)
	case v == stringOf(""):
		return new(big.Int)
	case dataType == "string" && numeralSyntax.MatchString(v.Text):
		n, _ := new(big.Int).SetString(v.Text, 10)
		if inLimits(n) {
			return n
		}
	}
	return nil
}

func inLimits(n *big.Int) bool {
	return n.CmpAbs(big.NewInt(1000000000000)) <= 0
}

// modelToText returns the string to which a value is converted, and nil if there is none.
func modelToText(v impl.Value) []byte {
	switch dataType, text := modelValue(v); dataType {
	case "integer":
		return []byte(text)
	case "string":
		return []byte(v.Text)
	}
	return nil
}

// TestConversionsOfManyValues compares the conversions of values with any fields and of all short texts with the model.
func TestConversionsOfManyValues(t *testing.T) {
	list := manyValues()
	eachText("+-019 ", 6, func(s string) { list = append(list, stringOf(s)) })
	for _, s := range randomTexts(41, 20000, 16, []string{"+", "-", "0", "0", "1", "2", "3", "4", "5", "6", "7", "8", "9", "9", "1000000", "000000"}) {
		list = append(list, stringOf(s))
	}
	for _, s := range allBytes() {
		list = append(list, stringOf(s), stringOf(s+"1"), stringOf("1"+s), stringOf("-"+s+"0"))
	}
	converted := 0
	for _, v := range list {
		want := number64{}
		if n := modelToInteger(v); n != nil {
			want = number64{n.Int64(), true}
			converted++
		}
		checkEqual(t, fmt.Sprintf("ToInteger(%.60q)", fmt.Sprint(v)), asNumber(impl.ToInteger(v)), want)
		s := modelToText(v)
		checkEqual(t, fmt.Sprintf("ToText(%.60q)", fmt.Sprint(v)), asTextual(impl.ToText(v)), textual{string(s), s != nil})
	}
	if converted < 5000 || converted > len(list)/2 {
		t.Errorf("%d of %d values were converted", converted, len(list))
	}
}

func TestArithmetic(t *testing.T) {
	for _, c := range []struct {
		op         int64
		a, b, want int64
	}{
		{impl.ExAdd, 2, 3, 5}, {impl.ExAdd, -2, 3, 1}, {impl.ExAdd, 0, 0, 0}, {impl.ExAdd, 999999999999, 1, 1000000000000}, {impl.ExAdd, -999999999999, -1, -1000000000000}, {impl.ExAdd, 1000000000000, -1000000000000, 0},
		{impl.ExSub, 2, 3, -1}, {impl.ExSub, 3, 2, 1}, {impl.ExSub, 0, 7, -7}, {impl.ExSub, -999999999999, 1, -1000000000000}, {impl.ExSub, 999999999999, -1, 1000000000000}, {impl.ExSub, 1000000000000, 1000000000000, 0},
		{impl.ExMul, 2, 3, 6}, {impl.ExMul, -2, 3, -6}, {impl.ExMul, 2, -3, -6}, {impl.ExMul, -2, -3, 6}, {impl.ExMul, 0, -1000000000000, 0}, {impl.ExMul, 1000000000000, 0, 0}, {impl.ExMul, 0, 0, 0},
		{impl.ExMul, 1000000, 1000000, 1000000000000}, {impl.ExMul, -1000000, 1000000, -1000000000000}, {impl.ExMul, 1000000, -1000000, -1000000000000}, {impl.ExMul, -1000000, -1000000, 1000000000000},
		{impl.ExMul, 1000000000000, 1, 1000000000000}, {impl.ExMul, -1, 1000000000000, -1000000000000}, {impl.ExMul, 3, 333333333333, 999999999999}, {impl.ExMul, 500000000000, 2, 1000000000000}, {impl.ExMul, -1, -1000000000000, 1000000000000},
		{impl.ExDiv, 6, 3, 2}, {impl.ExDiv, 7, 2, 3}, {impl.ExDiv, -7, 2, -3}, {impl.ExDiv, 7, -2, -3}, {impl.ExDiv, -7, -2, 3}, {impl.ExDiv, -8, 2, -4}, {impl.ExDiv, 1, 2, 0}, {impl.ExDiv, -1, 2, 0}, {impl.ExDiv, 1, -2, 0}, {impl.ExDiv, 0, -5, 0},
		{impl.ExDiv, 1000000000000, 1, 1000000000000}, {impl.ExDiv, 1000000000000, -1, -1000000000000}, {impl.ExDiv, -1000000000000, -1, 1000000000000}, {impl.ExDiv, 999999999999, 1000000000000, 0}, {impl.ExDiv, -999999999999, 1000000000000, 0}, {impl.ExDiv, 1000000000000, 3, 333333333333},
	} {
		want := computed{integerOf(c.want), impl.OK}
		what := fmt.Sprintf("operator %d of %d and %d", c.op, c.a, c.b)
		a, b := integerOf(c.a), integerOf(c.b)
		checkEqual(t, what, asComputed(impl.Arithmetic(c.op, a, b)), want)
		checkEqual(t, what+", as strings", asComputed(impl.Arithmetic(c.op, stringOf(fmt.Sprint(c.a)), stringOf(fmt.Sprint(c.b)))), want)
		checkEqual(t, what+", one with a sign and zeros", asComputed(impl.Arithmetic(c.op, a, stringOf(fmt.Sprintf("%+04d", c.b)))), want)
	}
	checkEqual(t, "the null value as an operand", asComputed(impl.Arithmetic(impl.ExSub, stringOf(""), integerOf(7))), computed{integerOf(-7), impl.OK})
	checkEqual(t, "two null values", asComputed(impl.Arithmetic(impl.ExMul, stringOf(""), stringOf(""))), computed{integerOf(0), impl.OK})
}

func TestArithmeticErrors(t *testing.T) {
	one, zero, null, stray := integerOf(1), integerOf(0), stringOf(""), integerOf(1000000000001)
	noInteger := append(inconvertible(), stringOf("x"), stringOf(" 1"), stringOf("1000000000001"), stringOf("00000000000001"))
	for _, op := range arithmeticOps {
		for _, v := range invalidValues() {
			for _, w := range append(noInteger, one, zero, null, stray) {
				checkEqual(t, "invalid first value", asComputed(impl.Arithmetic(op, v, w)), computed{impl.Value{}, impl.ErrInvalid})
				checkEqual(t, "invalid second value", asComputed(impl.Arithmetic(op, w, v)), computed{impl.Value{}, impl.ErrInvalid})
			}
		}
		for _, v := range noInteger {
			for _, w := range append(noInteger, one, zero, null) {
				checkEqual(t, "first value of another type", asComputed(impl.Arithmetic(op, v, w)), computed{impl.Value{}, impl.ErrType})
				checkEqual(t, "second value of another type", asComputed(impl.Arithmetic(op, w, v)), computed{impl.Value{}, impl.ErrType})
			}
		}
	}
	for _, op := range []int64{0, 1, 2, 6, 7, 12, 13, 14, -1, -8, 8 + 256, 11 + 1<<32, math.MinInt64, math.MaxInt64} {
		for _, v := range append(noInteger, one, zero, null, stray) {
			checkEqual(t, fmt.Sprint("no operator ", op), asComputed(impl.Arithmetic(op, v, zero)), computed{impl.Value{}, impl.ErrInvalid})
		}
	}
	for _, v := range []impl.Value{zero, null, stringOf("0"), stringOf("-0"), stringOf("+000")} {
		for _, w := range []impl.Value{zero, null, one, integerOf(-1000000000000), stringOf("7")} {
			checkEqual(t, "division by zero", asComputed(impl.Arithmetic(impl.ExDiv, w, v)), computed{impl.Value{}, impl.ErrDivision})
		}
	}
	for _, c := range [][3]int64{
		{impl.ExAdd, 1000000000000, 1}, {impl.ExAdd, -1000000000000, -1}, {impl.ExAdd, 500000000000, 500000000001}, {impl.ExAdd, 1000000000000, 1000000000000},
		{impl.ExSub, 1000000000000, -1}, {impl.ExSub, -1000000000000, 1}, {impl.ExSub, -1, 1000000000000}, {impl.ExSub, -1000000000000, 1000000000000},
		{impl.ExMul, 1000001, 1000000}, {impl.ExMul, 1000000, -1000001}, {impl.ExMul, -1000001, -1000000}, {impl.ExMul, 1000000000000, 2}, {impl.ExMul, -2, 500000000001}, {impl.ExMul, 3, 333333333334},
		{impl.ExMul, 1000000000000, 1000000000000}, {impl.ExMul, -1000000000000, 1000000000000}, {impl.ExMul, -1000000000000, -1000000000000},
		// The products of these exceed an int64; without their upper bits, they would be in range.
		{impl.ExMul, 1 << 32, 1 << 32}, {impl.ExMul, -(1 << 33), 1 << 31}, {impl.ExMul, 1 << 39, 1 << 25}, {impl.ExMul, 1 << 32, 1<<32 + 1<<7}, {impl.ExMul, 1 << 38, -(1 << 38)},
	} {
		checkEqual(t, fmt.Sprint("out of range: ", c), asComputed(impl.Arithmetic(c[0], integerOf(c[1]), integerOf(c[2]))), computed{impl.Value{}, impl.ErrRange})
	}
}

// modelArithmetic computes with integers of any size.
func modelArithmetic(op int64, a, b impl.Value) computed {
	if !slices.Contains(arithmeticOps, op) || !modelValid(a) || !modelValid(b) {
		return computed{code: impl.ErrInvalid}
	}
	x, y := modelToInteger(a), modelToInteger(b)
	if x == nil || y == nil {
		return computed{code: impl.ErrType}
	}
	z := new(big.Int)
	switch op {
	case impl.ExAdd:
		z.Add(x, y)
	case impl.ExSub:
		z.Sub(x, y)
	case impl.ExMul:
		z.Mul(x, y)
	case impl.ExDiv:
		if y.Sign() == 0 {
			return computed{code: impl.ErrDivision}
		}
		z.Quo(x, y)
	}
	if !inLimits(z) {
		return computed{code: impl.ErrRange}
	}
	return computed{integerOf(z.Int64()), impl.OK}
}

// modelCompared compares integers of any size, and lists of bytes.
func modelCompared(op int64, a, b impl.Value) judged {
	if !slices.Contains(comparisonOps, op) || !modelValid(a) || !modelValid(b) {
		return judged{code: impl.ErrInvalid}
	}
	switch op {
	case impl.CmIdent:
		return judged{a == b, impl.OK}
	case impl.CmDiffer:
		return judged{a != b, impl.OK}
	case impl.CmLgt:
		x, y := modelToText(a), modelToText(b)
		if x == nil || y == nil {
			return judged{code: impl.ErrType}
		}
		return judged{bytes.Compare(x, y) > 0, impl.OK}
	}
	x, y := modelToInteger(a), modelToInteger(b)
	if x == nil || y == nil {
		return judged{code: impl.ErrType}
	}
	// By operator, for which results of Cmp, from -1 to 1, it holds.
	holds := map[int64]string{impl.CmEq: "-x-", impl.CmNe: "x-x", impl.CmLt: "x--", impl.CmLe: "xx-", impl.CmGt: "--x", impl.CmGe: "-xx"}[op]
	return judged{holds[x.Cmp(y)+1] == 'x', impl.OK}
}

// modelConcatenated concatenates lists of bytes.
func modelConcatenated(a, b impl.Value) computed {
	if !modelValid(a) || !modelValid(b) {
		return computed{code: impl.ErrInvalid}
	}
	if a == stringOf("") {
		return computed{b, impl.OK}
	}
	if b == stringOf("") {
		return computed{a, impl.OK}
	}
	x, y := modelToText(a), modelToText(b)
	if x == nil || y == nil {
		return computed{code: impl.ErrType}
	}
	if len(x)+len(y) > 200 {
		return computed{code: impl.ErrFull}
	}
	return computed{stringOf(string(append(x, y...))), impl.OK}
}

// operands returns values of all kinds: strings that can be converted and that cannot, integers at limits, and invalid values.
func operands() []impl.Value {
	list := slices.Concat(inconvertible(), invalidValues())
	for _, s := range slices.Sorted(maps.Keys(numerals)) {
		list = append(list, stringOf(s))
	}
	for _, s := range append(noNumerals(), "abc", "abd", "ab", "b", "B", strings.Repeat("x", 99), strings.Repeat("x", 100), strings.Repeat("x", 101), strings.Repeat("x", 199), strings.Repeat("x", 187)) {
		list = append(list, stringOf(s))
	}
	for _, n := range []int64{0, 1, 2, 3, 7, 10, 999999, 1000000, 1000001, 1 << 32, 500000000000, 500000000001, 999999999999, 1000000000000, 1000000000001} {
		list = append(list, integerOf(n), integerOf(-n))
	}
	return list
}

func TestOperatorsAgainstModel(t *testing.T) {
	list := operands()
	codes := map[string]int{}
	for _, a := range list {
		for _, b := range list {
			for op := int64(-1); op <= 13; op++ {
				want := modelArithmetic(op, a, b)
				if got := asComputed(impl.Arithmetic(op, a, b)); got != want {
					t.Errorf("Arithmetic(%d, %.60q, %.60q): got %+v, want %+v", op, fmt.Sprint(a), fmt.Sprint(b), got, want)
				}
				codes[fmt.Sprint("arithmetic ", want.code)]++
				judgement := modelCompared(op, a, b)
				if got := asJudged(impl.Compared(op, a, b)); got != judgement {
					t.Errorf("Compared(%d, %.60q, %.60q): got %+v, want %+v", op, fmt.Sprint(a), fmt.Sprint(b), got, judgement)
				}
				codes[fmt.Sprint("compared ", judgement.code, judgement.holds)]++
			}
			want := modelConcatenated(a, b)
			if got := asComputed(impl.Concatenated(a, b)); got != want {
				t.Errorf("Concatenated(%.60q, %.60q): got %+v, want %+v", fmt.Sprint(a), fmt.Sprint(b), got, want)
			}
			codes[fmt.Sprint("concatenated ", want.code)]++
		}
		want := modelArithmetic(impl.ExSub, integerOf(0), a)
		checkEqual(t, fmt.Sprintf("Negated(%.60q)", fmt.Sprint(a)), asComputed(impl.Negated(a)), want)
	}
	for _, what := range []string{"arithmetic 0", "arithmetic 1", "arithmetic 3", "arithmetic 4", "arithmetic 8", "compared 0 true", "compared 0 false", "compared 1 false", "compared 4 false", "concatenated 0", "concatenated 1", "concatenated 4", "concatenated 6"} {
		if codes[what] < 100 {
			t.Errorf("%s: only %d times", what, codes[what])
		}
	}
}

func TestNegated(t *testing.T) {
	for s, n := range numerals {
		checkEqual(t, fmt.Sprintf("Negated(%q)", s), asComputed(impl.Negated(stringOf(s))), computed{integerOf(-n), impl.OK})
		checkEqual(t, fmt.Sprint("Negated of ", n), asComputed(impl.Negated(integerOf(n))), computed{integerOf(-n), impl.OK})
	}
	for _, v := range invalidValues() {
		checkEqual(t, fmt.Sprintf("Negated(%.60q)", fmt.Sprint(v)), asComputed(impl.Negated(v)), computed{impl.Value{}, impl.ErrInvalid})
	}
	for _, v := range append(inconvertible(), stringOf("x"), stringOf("-"), stringOf("1000000000001"), stringOf(" 1")) {
		checkEqual(t, fmt.Sprintf("Negated(%.60q)", fmt.Sprint(v)), asComputed(impl.Negated(v)), computed{impl.Value{}, impl.ErrType})
	}
}

func TestCompared(t *testing.T) {
	// By operator from CmEq on, what holds for the values of a row.
	for _, c := range []struct {
		a, b impl.Value
		want string
	}{
		{integerOf(1), integerOf(1), "x--x-xx--"},
		{integerOf(1), integerOf(2), "-xxx---x-"},
		{integerOf(2), integerOf(1), "-x--xx-xx"},
		{integerOf(-1), integerOf(1), "-xxx---x-"},
		{integerOf(10), integerOf(9), "-x--xx-x-"},
		{integerOf(9), integerOf(10), "-xxx---xx"},
		{integerOf(5), stringOf("5"), "x--x-x-x-"},
		{stringOf("05"), stringOf("+5"), "x--x-x-xx"},
		{stringOf("-0"), stringOf(""), "x--x-x-xx"},
		{stringOf(""), integerOf(0), "x--x-x-x-"},
		{stringOf(""), stringOf(""), "x--x-xx--"},
		{stringOf("-2"), integerOf(-1), "-xxx---xx"},
		{integerOf(1000000000000), integerOf(-1000000000000), "-x--xx-xx"},
		{stringOf("a"), stringOf("a"), "??????x--"},
		{stringOf("b"), stringOf("a"), "??????-xx"},
		{stringOf("a"), stringOf("b"), "??????-x-"},
		{stringOf("ab"), stringOf("a"), "??????-xx"},
		{stringOf("a"), stringOf("ab"), "??????-x-"},
		{stringOf("a"), stringOf("B"), "??????-xx"},
		{stringOf("\xff"), stringOf("\x7f"), "??????-xx"},
		{stringOf("\xff"), stringOf("\u20ac"), "??????-xx"},
		{stringOf("a"), stringOf(""), "??????-xx"},
		{stringOf(""), stringOf("\x00"), "??????-x-"},
		{stringOf("x"), integerOf(1), "??????-xx"},
		{integerOf(1), stringOf("x"), "??????-x-"},
		{patternOf("p"), patternOf("p"), "??????x-?"},
		{patternOf("p"), stringOf("p"), "??????-x?"},
		{arrayRef(1), arrayRef(1), "??????x-?"},
		{arrayRef(1), tableRef(1), "??????-x?"},
		{recordRef(1), recordRef(2), "??????-x?"},
		{nameOf("A"), deferOf("A"), "??????-x?"},
		{nameOf("A"), nameOf("a"), "??????-x?"},
		{stringOf("1"), nameOf("A"), "??????-x?"},
		{deferOf("A"), integerOf(1), "??????-x?"},
	} {
		for i, op := range comparisonOps {
			want := map[byte]judged{'x': {true, impl.OK}, '-': {false, impl.OK}, '?': {false, impl.ErrType}}[c.want[i]]
			checkEqual(t, fmt.Sprintf("operator %d of %+v and %+v", op, c.a, c.b), asJudged(impl.Compared(op, c.a, c.b)), want)
		}
	}
}

func TestComparedErrors(t *testing.T) {
	others := append(inconvertible(), integerOf(1), stringOf("x"), stringOf(""), impl.Value{}, integerOf(1000000000001))
	for _, v := range invalidValues() {
		for _, w := range append(others, v) {
			for _, op := range comparisonOps {
				checkEqual(t, "invalid first value", asJudged(impl.Compared(op, v, w)), judged{false, impl.ErrInvalid})
				checkEqual(t, "invalid second value", asJudged(impl.Compared(op, w, v)), judged{false, impl.ErrInvalid})
			}
		}
	}
	for _, op := range []int64{0, -1, 10, 11, 256 + 1, 1<<32 + 7, math.MinInt64, math.MaxInt64} {
		for _, v := range others {
			checkEqual(t, fmt.Sprint("no operator ", op), asJudged(impl.Compared(op, v, v)), judged{false, impl.ErrInvalid})
		}
	}
	for _, v := range append(inconvertible(), stringOf("x"), stringOf("1 ")) {
		for _, w := range append(inconvertible(), integerOf(1), stringOf(""), stringOf("1")) {
			for _, op := range integerOps {
				checkEqual(t, "first value of another type", asJudged(impl.Compared(op, v, w)), judged{false, impl.ErrType})
				checkEqual(t, "second value of another type", asJudged(impl.Compared(op, w, v)), judged{false, impl.ErrType})
			}
		}
	}
}

func TestConcatenated(t *testing.T) {
	null, long := stringOf(""), strings.Repeat("x", 199)
	for _, c := range []struct{ a, b, want impl.Value }{
		{stringOf("ab"), stringOf("c"), stringOf("abc")},
		{stringOf("c"), stringOf("ab"), stringOf("cab")},
		{stringOf("a"), integerOf(-1), stringOf("a-1")},
		{integerOf(1), stringOf("a"), stringOf("1a")},
		{integerOf(1), integerOf(2), stringOf("12")},
		{integerOf(0), integerOf(-0), stringOf("00")},
		{stringOf(" "), stringOf(" "), stringOf("  ")},
		{stringOf("\xe2"), stringOf("\x82\xac"), stringOf("\u20ac")},
		{stringOf(long), stringOf("y"), stringOf(long + "y")},
		{stringOf("y"), stringOf(long), stringOf("y" + long)},
		{stringOf(long[:187]), integerOf(1000000000000), stringOf(long[:187] + "1000000000000")},
		{stringOf(long[:100]), stringOf(long[:100]), stringOf(strings.Repeat("x", 200))},
	} {
		checkEqual(t, fmt.Sprintf("%.60q and %.60q", fmt.Sprint(c.a), fmt.Sprint(c.b)), asComputed(impl.Concatenated(c.a, c.b)), computed{c.want, impl.OK})
	}
	for _, v := range append(inconvertible(), null, integerOf(0), integerOf(-7), stringOf("x"), stringOf(long+"y")) {
		checkEqual(t, "after the null value", asComputed(impl.Concatenated(null, v)), computed{v, impl.OK})
		checkEqual(t, "before the null value", asComputed(impl.Concatenated(v, null)), computed{v, impl.OK})
	}
}

func TestConcatenatedErrors(t *testing.T) {
	null, full := stringOf(""), stringOf(strings.Repeat("x", 200))
	for _, v := range invalidValues() {
		for _, w := range append(inconvertible(), null, full, integerOf(1), v) {
			checkEqual(t, "invalid first value", asComputed(impl.Concatenated(v, w)), computed{impl.Value{}, impl.ErrInvalid})
			checkEqual(t, "invalid second value", asComputed(impl.Concatenated(w, v)), computed{impl.Value{}, impl.ErrInvalid})
		}
	}
	for _, v := range inconvertible() {
		for _, w := range append(inconvertible(), full, integerOf(0), stringOf("x")) {
			checkEqual(t, "first value of another type", asComputed(impl.Concatenated(v, w)), computed{impl.Value{}, impl.ErrType})
			checkEqual(t, "second value of another type", asComputed(impl.Concatenated(w, v)), computed{impl.Value{}, impl.ErrType})
		}
	}
	for _, c := range [][2]impl.Value{{full, stringOf("y")}, {stringOf("y"), full}, {full, integerOf(0)}, {full, full}, {integerOf(-1), stringOf(full.Text[:199])}, {stringOf(full.Text[:100]), stringOf(full.Text[:101])}, {stringOf(full.Text[:188]), integerOf(1000000000000)}} {
		checkEqual(t, "too long", asComputed(impl.Concatenated(c[0], c[1])), computed{impl.Value{}, impl.ErrFull})
	}
}

func TestTrimText(t *testing.T) {
	for s, want := range map[string]string{
		"": "", " ": "", "     ": "", "a": "a", "a ": "a", "a   ": "a", " a": " a", "  a  ": "  a", "a b ": "a b", "a  b": "a  b",
		"a\t": "a\t", "a\t ": "a\t", "a\n ": "a\n", " \n": " \n", "a\x00 ": "a\x00", "\xff ": "\xff", "\u20ac ": "\u20ac", "\u00a0 ": "\u00a0", "a\u00a0": "a\u00a0", "a\u2003": "a\u2003",
		strings.Repeat(" ", 100000): "", strings.Repeat(" ", 100000) + "x" + strings.Repeat(" ", 100000): strings.Repeat(" ", 100000) + "x",
	} {
		checkEqual(t, fmt.Sprintf("TrimText(%.60q)", s), impl.TrimText(s), want)
	}
}

func TestReverseText(t *testing.T) {
	for s, want := range map[string]string{
		"": "", "a": "a", "ab": "ba", "abc": "cba", "abcd": "dcba", "  x": "x  ", "\x00\xff": "\xff\x00", "\u20ac": "\xac\x82\xe2", "a\u00e4": "\xa4\xc3a",
		strings.Repeat("ab", 100000): strings.Repeat("ba", 100000),
	} {
		checkEqual(t, fmt.Sprintf("ReverseText(%.60q)", s), impl.ReverseText(s), want)
	}
}

func TestTranslateText(t *testing.T) {
	every := strings.Join(allBytes(), "")
	for _, c := range []struct {
		s, from, to, want string
		ok                bool
	}{
		{"abc", "b", "x", "axc", true},
		{"abc", "x", "b", "abc", true},
		{"", "a", "b", "", true},
		{"aaa", "a", "a", "aaa", true},
		{"abab", "ab", "ba", "baba", true},
		{"abc", "abc", "bcd", "bcd", true},
		{"a", "aa", "xy", "y", true},
		{"a", "aaa", "xya", "a", true},
		{"abca", "aba", "xyz", "zycz", true},
		{"\u20ac", "\xe2\x82\xac", "abc", "abc", true},
		{"\x00\xff", "\x00\xff", "\xff\x00", "\xff\x00", true},
		{"a b", " ", "_", "a_b", true},
		{every, every, strings.Repeat("x", 256), strings.Repeat("x", 256), true},
		{every, every, impl.ReverseText(every), impl.ReverseText(every), true},
		{strings.Repeat("ab", 1000000), strings.Repeat("ba", 1000000), strings.Repeat("xy", 1000000), strings.Repeat("yx", 1000000), true},
		{"abc", "", "", "", false},
		{"", "", "", "", false},
		{"abc", "", "x", "", false},
		{"abc", "a", "", "", false},
		{"abc", "a", "xy", "", false},
		{"abc", "ab", "x", "", false},
		{"abc", "x", "yz", "", false},
		{"", "ab", "x", "", false},
		{"abc", "\u20ac", "x", "", false},
	} {
		checkEqual(t, fmt.Sprintf("TranslateText(%.40q, %.40q, %.40q)", c.s, c.from, c.to), asTextual(impl.TranslateText(c.s, c.from, c.to)), textual{c.want, c.ok})
	}
}

func TestPadText(t *testing.T) {
	full, long := strings.Repeat("x", 200), strings.Repeat("x", 201)
	for _, c := range []struct {
		s                  string
		n                  int64
		fill, right, atEnd string
	}{
		{"", 0, "0", "", ""},
		{"", 1, "0", "0", "0"},
		{"", 3, "0", "000", "000"},
		{"7", 3, "0", "007", "700"},
		{"7", 1, "0", "7", "7"},
		{"7", 0, "0", "7", "7"},
		{"ab", 1, "0", "ab", "ab"},
		{"ab", 2, "0", "ab", "ab"},
		{"ab", 3, "0", "0ab", "ab0"},
		{"a ", 4, " ", "  a ", "a   "},
		{"a", 3, "a", "aaa", "aaa"},
		{"\u20ac", 4, "x", "x\u20ac", "\u20acx"},
		{"a", 2, "\xff", "\xffa", "a\xff"},
		{"a", 2, "\x00", "\x00a", "a\x00"},
		{"", 200, "x", full, full},
		{full[:199], 200, "y", "y" + full[:199], full[:199] + "y"},
		{full, 200, "y", full, full},
		{long, 200, "y", long, long},
		{long, 0, "y", long, long},
	} {
		what := fmt.Sprintf("PadText(%.40q, %d, %q)", c.s, c.n, c.fill)
		checkEqual(t, what, asTextual(impl.PadText(c.s, c.n, c.fill, true)), textual{c.right, true})
		checkEqual(t, what, asTextual(impl.PadText(c.s, c.n, c.fill, false)), textual{c.atEnd, true})
	}
	for _, s := range []string{"", "a", full, long} {
		for _, left := range []bool{true, false} {
			for _, n := range []int64{-1, 201, 1 << 32, 1<<32 + 5, math.MinInt64, math.MaxInt64} {
				checkEqual(t, fmt.Sprint("no length ", n), asTextual(impl.PadText(s, n, "0", left)), textual{})
			}
			for _, fill := range []string{"", "00", "ab", "\u00e4", full, strings.Repeat("0", 1000000)} {
				for _, n := range []int64{0, 1, 5, 200} {
					checkEqual(t, fmt.Sprintf("no byte: %.40q", fill), asTextual(impl.PadText(s, n, fill, left)), textual{})
				}
			}
		}
	}
}

// sampleIntegers returns integers near zero and near the limits, and others in between.
func sampleIntegers(count int) []int64 {
	var list []int64
	for n := int64(0); n <= 12; n++ {
		list = append(list, n, -n, 1000000000000-n, n-1000000000000, 1000000-n, 1000000+n, n-1000000, -n-1000000)
	}
	source := rand.New(rand.NewSource(42))
	for range count {
		n := source.Int63n(2000000000001) - 1000000000000
		list = append(list, n, n/1000, n/1000000, n/10000000000)
	}
	return list
}

// TestIntegersAreRecovered is the first part of promise 11.
func TestIntegersAreRecovered(t *testing.T) {
	list := sampleIntegers(5000)
	for n := int64(-3000); n <= 3000; n++ {
		list = append(list, n)
	}
	for _, n := range list {
		s, ok := impl.ToText(integerOf(n))
		checkEqual(t, "has a string", ok, true)
		checkEqual(t, "recovered from "+s, asNumber(impl.ToInteger(stringOf(s))), number64{n, true})
		again, ok := impl.ToText(stringOf(s))
		checkEqual(t, "the string of a string", again, s)
		checkEqual(t, "has a string", ok, true)
		text, _ := impl.Concatenated(integerOf(n), stringOf(""))
		checkEqual(t, "an integer beside the null value", text, integerOf(n))
	}
}

// TestSubtractionUndoesAddition is the second part of promise 11.
func TestSubtractionUndoesAddition(t *testing.T) {
	list := sampleIntegers(40)
	sums := 0
	for _, a := range list {
		for _, b := range list {
			x, y := integerOf(a), stringOf(fmt.Sprint(b))
			sum, code := impl.Arithmetic(impl.ExAdd, x, y)
			turned, other := impl.Arithmetic(impl.ExAdd, y, x)
			checkEqual(t, "the other order", computed{turned, other}, computed{sum, code})
			negative, _ := impl.Negated(y)
			checkEqual(t, "the difference of the negative", asComputed(impl.Arithmetic(impl.ExSub, x, negative)), computed{sum, code})
			if code != impl.OK {
				continue
			}
			sums++
			checkEqual(t, fmt.Sprint("undone ", a, " + ", b), asComputed(impl.Arithmetic(impl.ExSub, sum, y)), computed{x, impl.OK})
			checkEqual(t, fmt.Sprint("undone ", a, " + ", b), asComputed(impl.Arithmetic(impl.ExSub, sum, x)), computed{integerOf(b), impl.OK})
		}
	}
	if sums < 10000 || sums == len(list)*len(list) {
		t.Errorf("%d of %d sums are in range", sums, len(list)*len(list))
	}
}

// TestQuotientAndRemainder is the third part of promise 11.
func TestQuotientAndRemainder(t *testing.T) {
	list := sampleIntegers(40)
	for _, a := range list {
		for _, b := range list {
			q, code := impl.Arithmetic(impl.ExDiv, integerOf(a), integerOf(b))
			if b == 0 {
				checkEqual(t, "division by zero", computed{q, code}, computed{impl.Value{}, impl.ErrDivision})
				continue
			}
			checkEqual(t, "quotient", code, impl.OK)
			p, code := impl.Arithmetic(impl.ExMul, q, integerOf(b))
			checkEqual(t, "product", code, impl.OK)
			r, code := impl.Arithmetic(impl.ExSub, integerOf(a), p)
			checkEqual(t, "remainder", code, impl.OK)
			checkEqual(t, "dividend", asComputed(impl.Arithmetic(impl.ExAdd, p, r)), computed{integerOf(a), impl.OK})
			isSmall := max(r.Num, -r.Num) < max(b, -b)
			hasSign := r.Num == 0 || r.Num < 0 == (a < 0)
			if !isSmall || !hasSign {
				t.Errorf("%d / %d: quotient %d, remainder %d", a, b, q.Num, r.Num)
			}
		}
	}
}

// TestOrderOfIntegers is the last part of promise 11.
func TestOrderOfIntegers(t *testing.T) {
	list := []impl.Value{stringOf(""), stringOf("-0"), stringOf("+007"), stringOf("7"), stringOf("-0000000000012"), stringOf("1000000000000"), stringOf("-1000000000000")}
	for _, n := range sampleIntegers(15) {
		list = append(list, integerOf(n), stringOf(fmt.Sprint(n)))
	}
	for _, a := range list {
		for _, b := range list {
			holds := map[int64]bool{}
			for _, op := range integerOps {
				is, code := impl.Compared(op, a, b)
				checkEqual(t, "code", code, impl.OK)
				holds[op] = is
			}
			count := 0
			for _, op := range []int64{impl.CmLt, impl.CmEq, impl.CmGt} {
				if holds[op] {
					count++
				}
			}
			isWhole := holds[impl.CmNe] == !holds[impl.CmEq] && holds[impl.CmLe] == !holds[impl.CmGt] && holds[impl.CmGe] == !holds[impl.CmLt]
			turned, _ := impl.Compared(impl.CmGt, b, a)
			if count != 1 || !isWhole || turned != holds[impl.CmLt] {
				t.Errorf("%+v and %+v: %v", a, b, holds)
			}
		}
	}
}

// sampleTexts returns all short texts of a few bytes, and longer ones of any bytes.
func sampleTexts(visit func(s string)) {
	eachText("ab \x00\xff", 5, visit)
	for _, s := range randomTexts(43, 3000, 250, append(allBytes(), slices.Repeat([]string{" ", "  ", "a"}, 60)...)) {
		visit(s)
	}
}

// TestReversingAndTrimming has the first parts of promise 12.
func TestReversingAndTrimming(t *testing.T) {
	sampleTexts(func(s string) {
		reversed := impl.ReverseText(s)
		checkEqual(t, "length", len(reversed), len(s))
		checkEqual(t, "reversed twice", impl.ReverseText(reversed), s)
		for i := range len(s) {
			checkEqual(t, "byte", reversed[len(s)-1-i], s[i])
		}
		trimmed := impl.TrimText(s)
		checkEqual(t, "trimmed twice", impl.TrimText(trimmed), trimmed)
		checkEqual(t, "with the blanks", trimmed+strings.Repeat(" ", len(s)-len(trimmed)), s)
		checkEqual(t, "a blank at the end", strings.HasSuffix(trimmed, " "), false)
	})
}

// TestPaddedTexts is the third part of promise 12.
func TestPaddedTexts(t *testing.T) {
	lengths := []int64{0, 1, 2, 3, 4, 5, 6, 7, 100, 199, 200}
	sampleTexts(func(s string) {
		for i, n := range lengths {
			fill := []string{"a", " ", "\xff"}[i%3]
			right, isRight := impl.PadText(s, n, fill, true)
			left, isLeft := impl.PadText(s, n, fill, false)
			count := max(int(n)-len(s), 0)
			before, containsRight := strings.CutSuffix(right, s)
			behind, containsLeft := strings.CutPrefix(left, s)
			if !isRight || !isLeft || !containsRight || !containsLeft || before != strings.Repeat(fill, count) || behind != before {
				t.Errorf("PadText(%.60q, %d, %q): %q and %q", s, n, fill, right, left)
			}
		}
	})
}

// checkTranslated compares each byte of a translated text with the lists of bytes.
func checkTranslated(t *testing.T, s, from, to string) {
	t.Helper()
	got, ok := impl.TranslateText(s, from, to)
	if from == "" || len(from) != len(to) {
		checkEqual(t, "not translated", textual{got, ok}, textual{})
		return
	}
	if !ok || len(got) != len(s) {
		t.Fatalf("TranslateText(%q, %q, %q): %q, %t", s, from, to, got, ok)
	}
	for i := range len(s) {
		want := s[i]
		for j := range len(from) {
			if from[j] == s[i] {
				want = to[j]
			}
		}
		if got[i] != want {
			t.Errorf("TranslateText(%q, %q, %q): %q", s, from, to, got)
		}
	}
}

// TestTranslatedTexts is the last part of promise 12.
func TestTranslatedTexts(t *testing.T) {
	eachText("ab\xff", 4, func(s string) {
		eachText("ab\xff", 3, func(from string) {
			eachText("bx", 3, func(to string) { checkTranslated(t, s, from, to) })
		})
	})
	lists := randomTexts(44, 3001, 300, allBytes())
	for i, s := range lists[:3000] {
		to := lists[i+1]
		for len(to) > 0 && len(to) < len(s) {
			to += to
		}
		checkTranslated(t, lists[len(lists)-1-i], s, to[:min(len(s), len(to))])
		checkTranslated(t, s, lists[i+1], lists[i+1])
		checkTranslated(t, s, lists[i+1], s)
	}
}
