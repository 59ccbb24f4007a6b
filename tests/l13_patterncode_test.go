package tests

import (
	"fmt"
	"math"
	"math/rand"
	"slices"
	"strings"
	"testing"

	"loop.example/g00873/impl"
)

func TestPatternCodeConstants(t *testing.T) {
	checkEqual(t, "MaxPatternCode", int64(impl.MaxPatternCode), 13000)
	checkList(t, "Ops", []int64{impl.CoStep, impl.CoChoice, impl.CoJump, impl.CoMark, impl.CoCond, impl.CoNow, impl.CoLoop, impl.CoReturn, impl.CoEnd}, []int64{31, 32, 33, 34, 35, 36, 37, 38, 39})
}

func TestPatternCodeExamples(t *testing.T) {
	checkEqual(t, "mark, end", impl.ValidPatternCode(impl.PatternCode{Code: []impl.PatternIns{op(impl.CoMark), op(impl.CoEnd)}}), false)

	code, fault := impl.CompilePattern(readPattern(t, `cat("a",arbno(len(1)))`))
	checkEqual(t, "CompilePattern: code", fault, impl.OK)
	checkList(t, "CompilePattern", code, []impl.PatternIns{op(31), opFor(1, "a"), op(31), opTo(32, 5), opTo(33, 8), op(34), opTo(6, 1), opTo(37, 2)})

	marks, fault := impl.MarksOf(compiled(t, nil, "cond(rem,x)"))
	checkEqual(t, "MarksOf: code", fault, impl.OK)
	checkList(t, "MarksOf", marks, []int64{0, 0, 1, 1, 0})

	p, ok := impl.DecompilePattern([]impl.PatternIns{op(impl.CoStep), op(impl.PtRem)})
	checkEqual(t, "DecompilePattern: ok", ok, false)
	checkPattern(t, "DecompilePattern", p, impl.Pattern{})

	c := compiled(t, envOf(bare(impl.PtRem), "x"), "defer(x)")
	checkEqual(t, "CodeListing", impl.CodeListing(c), "0 defer(x)\n1 end\nx:\n2 rem\n3 return\n")
	at, found := impl.EntryOf(c, "x")
	checkEqual(t, "EntryOf", at, 2)
	checkEqual(t, "EntryOf: found", found, true)
}

// TestValidIns has each Op with and without each field, with values at and beyond the bounds.
func TestValidIns(t *testing.T) {
	codes := []int64{math.MinInt64, -31, -1, 0, 25, 30, 40, 41, 1<<32 + 34, math.MaxInt64}
	for code := range int64(41) {
		codes = append(codes, code)
	}
	numbers := []int64{math.MinInt64, -1 << 32, -201, -1, 0, 1, 199, 200, 201, 12999, 13000, 13001, 1 << 32, math.MaxInt64}
	texts := []string{"", "A", "x_1", "ABCDEFGHIJKL", "ABCDEFGHIJKLM", "1", "_", "A B", `"`, "\n", "\xff", "x:", strings.Repeat("x", 200), strings.Repeat("x", 201), strings.Repeat("x", 1000000)}
	valid := map[int64]int{}
	for _, code := range codes {
		for _, n := range numbers {
			for _, s := range texts {
				i := impl.PatternIns{Op: code, Num: n, Text: s}
				_, want := modelIns(i)
				if want {
					valid[code]++
				}
				if got := impl.ValidIns(i); got != want {
					t.Errorf("ValidIns(%d, %d, %.40q): got %t, want %t", code, n, s, got, want)
				}
			}
		}
	}
	// The number of valid instructions follows from the table of the document.
	for code := range int64(41) {
		want := 1
		switch {
		case code == 0, code >= 18 && code <= 22, code >= 25 && code <= 30, code == 40:
			want = 0
		case code == 1:
			want = 13
		case code <= 5:
			want = 12
		case code <= 10:
			want = 4
		case code == 23, code == 24, code == 35, code == 36:
			want = 3
		case code == 32, code == 33, code == 37:
			want = 6
		}
		checkEqual(t, fmt.Sprint("number of valid instructions with the Op ", code), valid[code], want)
	}
}

// TestInstructionTexts has the text form of each instruction.
func TestInstructionTexts(t *testing.T) {
	for _, c := range []struct{ code, want string }{
		{`""`, `""`}, {`"a""b"`, `"a""b"`}, {`any("ab")`, `any("ab")`}, {`notany("""")`, `notany("""")`}, {`span("a")`, `span("a")`}, {`break("a")`, `break("a")`},
		{"len(0)", "len(0)"}, {"len(200)", "len(200)"}, {"pos(1)", "pos(1)"}, {"rpos(2)", "rpos(2)"}, {"tab(3)", "tab(3)"}, {"rtab(4)", "rtab(4)"},
		{"rem", "rem"}, {"arb", "arb"}, {"bal", "bal"}, {"fence", "fence"}, {"abort", "abort"}, {"fail", "fail"}, {"succeed", "succeed"}, {"cursor(x)", "cursor(x)"}, {"defer(ABCDEFGHIJKL)", "defer(ABCDEFGHIJKL)"},
		{"step", "step"}, {"choice 1", "choice 1"}, {"jump 1", "jump 1"},
	} {
		checkEqual(t, c.code, impl.CodeListing(readCode(t, c.code+";end")), "0 "+c.want+"\n1 end\n")
	}
	c := readCode(t, "step; choice 11; mark; cond ABCDEFGHIJKL; mark; now x; mark; loop 0; jump 11; rem; arb; end; a: step; mark; loop 12; return; B_2: return")
	checkEqual(t, "all instructions", impl.CodeListing(c), "0 step\n1 choice 11\n2 mark\n3 cond ABCDEFGHIJKL\n4 mark\n5 now x\n6 mark\n7 loop 0\n8 jump 11\n9 rem\n10 arb\n11 end\na:\n12 step\n13 mark\n14 loop 12\n15 return\nB_2:\n16 return\n")
	checkCode(t, c)
}

// TestCompiledCode has the code of each kind of pattern.
func TestCompiledCode(t *testing.T) {
	for _, c := range []struct{ pattern, want string }{
		{"rem", "rem"},
		{`""`, `""`},
		{"len(200)", "len(200)"},
		{"cursor(x)", "cursor(x)"},
		{"defer(x)", "defer(x)"},
		{"alt(rem,arb)", "step; choice 4; rem; jump 5; arb"},
		{"alt(alt(rem,arb),bal)", "step; choice 8; step; choice 6; rem; jump 7; arb; jump 9; bal"},
		{"alt(rem,alt(arb,bal))", "step; choice 4; rem; jump 9; step; choice 8; arb; jump 9; bal"},
		{"cat(rem,arb)", "step; rem; arb"},
		{"cat(cat(rem,arb),bal)", "step; step; rem; arb; bal"},
		{"cat(rem,cat(arb,bal))", "step; rem; step; arb; bal"},
		{"arbno(rem)", "step; choice 3; jump 6; mark; rem; loop 0"},
		{"arbno(arbno(rem))", "step; choice 3; jump 11; mark; step; choice 7; jump 10; mark; rem; loop 4; loop 0"},
		{"cond(rem,x)", "step; mark; rem; cond x"},
		{"now(rem,y)", "step; mark; rem; now y"},
		{"cond(now(rem,x),y)", "step; mark; step; mark; rem; now x; cond y"},
		{"cat(arbno(alt(rem,arb)),cond(bal,x))", "step; step; choice 4; jump 11; mark; step; choice 9; rem; jump 10; arb; loop 1; step; mark; bal; cond x"},
		{"alt(cat(rem,arb),arbno(bal))", "step; choice 6; step; rem; arb; jump 12; step; choice 9; jump 12; mark; bal; loop 6"},
	} {
		want := readCode(t, c.want)
		code, fault := impl.CompilePattern(readPattern(t, c.pattern))
		checkEqual(t, c.pattern+": code", fault, impl.OK)
		checkList(t, c.pattern, code, want.Code)
		p, ok := impl.DecompilePattern(want.Code)
		checkEqual(t, c.pattern+": decompiled", ok, true)
		checkPattern(t, c.pattern, p, readPattern(t, c.pattern))
	}
	env := []impl.Named{{Name: "b", Pattern: readPattern(t, "alt(rem,arb)")}, {Name: "a", Pattern: readPattern(t, "arbno(defer(a))")}, {Name: "c", Pattern: readPattern(t, "fail")}}
	for _, c := range []struct {
		env           []impl.Named
		pattern, want string
	}{
		{nil, "rem", "rem; end"},
		{env[2:], "rem", "rem; end; c: fail; return"},
		{env, "cat(defer(a),defer(b))", "step; defer(a); defer(b); end; b: step; choice 8; rem; jump 9; arb; return; a: step; choice 13; jump 16; mark; defer(a); loop 10; return; c: fail; return"},
	} {
		got, fault := impl.CompileAll(c.env, readPattern(t, c.pattern))
		checkEqual(t, c.pattern+": code", fault, impl.OK)
		if want := readCode(t, c.want); !equalCode(got, want) {
			t.Errorf("CompileAll: got %v, want %v", got, want)
		}
	}
}

// codeRow is pattern code with the number of marks at each address if it is valid.
type codeRow struct {
	what, code string
	marks      []int64
}

// checkCodeRows checks whether pattern code is valid. An empty list of marks stands for code that is not.
func checkCodeRows(t *testing.T, rows []codeRow) {
	t.Helper()
	for _, row := range rows {
		c := readCode(t, row.code)
		code := int64(impl.OK)
		if row.marks == nil {
			code = impl.ErrInvalid
		}
		marks, got := impl.MarksOf(c)
		checkEqual(t, row.what+": code", got, code)
		checkList(t, row.what+": marks", marks, row.marks)
		checkEqual(t, row.what+": valid", impl.ValidPatternCode(c), code == impl.OK)
		checkCode(t, c)
	}
}

func TestRegions(t *testing.T) {
	checkCodeRows(t, []codeRow{
		{"nothing", "", nil},
		{"the end", "end", []int64{0}},
		{"a return as the end", "return", nil},
		{"no end", "rem", nil},
		{"an end in between", "end; end", nil},
		{"an end that is jumped over", "jump 2; end; end", nil},
		{"an end before another instruction", "end; rem; end", nil},
		{"a return in the main region", "rem; return; end", nil},
		{"a return that is jumped over", "jump 2; return; end", nil},
		{"a region", "end; x: return", []int64{0, 0}},
		{"two regions", "end; x: return; y: rem; return", []int64{0, 0, 0, 0}},
		{"a region with an end", "end; x: end", nil},
		{"the second region with an end", "end; x: return; y: end", nil},
		{"a region without its return", "end; x: rem", nil},
		{"the first region without its return", "end; x: rem; y: return", nil},
		{"a main region without its end", "rem; x: return", nil},
		{"a main region with a return", "return; x: return", nil},
		{"a return in between", "end; x: return; return", nil},
		{"an end in a region", "end; x: end; return", nil},
		{"a return in between that is jumped over", "end; x: jump 3; return; return", nil},
	})
}

// TestTargets has addresses at, below and above each bound of their region.
func TestTargets(t *testing.T) {
	frame := func(s string) string { return "step; rem; end; x: " + s + "; return; y: step; return" }
	checkCodeRows(t, []codeRow{
		{"a jump to the next address", "jump 1; end", []int64{0, 0}},
		{"a jump to itself", "jump 0; end", nil},
		{"a jump to the last address", "jump 2; rem; end", []int64{0, -1, 0}},
		{"a jump behind the last address", "jump 3; rem; end", nil},
		{"a jump far behind", "jump 12999; rem; end", nil},
		{"a jump back", "step; rem; jump 0; end", nil},
		{"a jump back to the address before", "step; jump 0; end", nil},
		{"a choice of the next address", "choice 1; end", []int64{0, 0}},
		{"a choice of itself", "choice 0; end", nil},
		{"a choice of the last address", "choice 2; rem; end", []int64{0, 0, 0}},
		{"a choice behind the last address", "choice 3; rem; end", nil},
		{"a choice back", "step; rem; choice 0; end", nil},
		{"a loop to the first address", "step; mark; loop 0; end", []int64{0, 0, 1, -1}},
		{"a loop to the address before", "mark; mark; cond x; step; loop 3; end", nil},
		{"a loop to itself", "step; mark; loop 2; end", nil},
		{"a loop to the next address", "step; mark; loop 3; step; end", nil},
		{"a loop to no step", "rem; mark; loop 0; end", nil},
		{"a loop to a mark", "step; mark; loop 1; end", nil},
		{"a loop to a choice", "choice 1; mark; loop 0; end", nil},
		{"a loop in between", "rem; step; mark; rem; loop 1; end", []int64{0, 0, 0, 1, 1, -1}},
		{"an inner loop", "step; mark; step; mark; loop 2; cond x; end", []int64{0, 0, 1, 1, 2, -1, -1}},

		{"a jump in a region to the next address", frame("jump 4"), []int64{0, 0, 0, 0, 0, 0, 0}},
		{"a jump in a region to itself", frame("jump 3"), nil},
		{"a jump to the first address of the region", frame("rem; jump 3"), nil},
		{"a jump to the region before", frame("jump 2"), nil},
		{"a jump to the first address of all", frame("jump 0"), nil},
		{"a jump to the last address of the region", frame("jump 5; rem"), []int64{0, 0, 0, 0, -1, 0, 0, 0}},
		{"a jump to the next region", frame("jump 6; rem"), nil},
		{"a jump to the end of the next region", frame("jump 7; rem"), nil},
		{"a choice in a region of the next address", frame("choice 4"), []int64{0, 0, 0, 0, 0, 0, 0}},
		{"a choice in a region of itself", frame("choice 3"), nil},
		{"a choice of the region before", frame("choice 2"), nil},
		{"a choice of the first address of all", frame("choice 0"), nil},
		{"a choice of the last address of the region", frame("choice 5; rem"), []int64{0, 0, 0, 0, 0, 0, 0, 0}},
		{"a choice of the next region", frame("choice 6; rem"), nil},
		{"a loop in a region to its first address", frame("step; mark; loop 3"), []int64{0, 0, 0, 0, 0, 1, -1, 0, 0}},
		{"a loop to the end of the region before", frame("mark; loop 2"), nil},
		{"a loop to the region before", frame("mark; loop 0"), nil},
		{"a loop to the region before, beside another one", frame("step; mark; loop 0"), nil},
		{"a loop to the next region", frame("mark; loop 6"), nil},
		{"a loop of the last region to its first address", "end; x: step; return; y: step; mark; loop 3; return", []int64{0, 0, 0, 0, 0, 1, -1}},
		{"a loop of the last region to the one before", "end; x: step; return; y: step; mark; loop 1; return", nil},
		{"a jump of the main region to its last address", "jump 2; rem; end; x: return", []int64{0, -1, 0, 0}},
		{"a jump of the main region to the first address behind it", "jump 3; rem; end; x: return", nil},
		{"a choice of the main region behind it", "choice 3; rem; end; x: return", nil},
		{"a loop of the main region to the next one", "mark; loop 3; end; x: step; return", nil},
	})
	for _, code := range []int64{impl.CoChoice, impl.CoJump, impl.CoLoop} {
		for _, n := range []int64{math.MinInt64, -1 << 32, -1, 4, 13000, 1 << 32, 1<<32 + 1, 1<<32 + 3, math.MaxInt64} {
			c := impl.PatternCode{Code: []impl.PatternIns{op(impl.CoStep), op(impl.CoMark), opTo(code, n), op(impl.CoEnd)}}
			checkEqual(t, fmt.Sprint(code, " to ", n), checkCode(t, c), false)
		}
	}
}

func TestMarks(t *testing.T) {
	checkCodeRows(t, []codeRow{
		{"a mark at the end", "mark; end", nil},
		{"a capture", "mark; cond x; end", []int64{0, 1, 0}},
		{"an immediate capture", "mark; now x; end", []int64{0, 1, 0}},
		{"two marks and a capture", "mark; mark; now x; end", nil},
		{"two marks and two captures", "mark; mark; now x; cond y; end", []int64{0, 1, 2, 1, 0}},
		{"a capture without a mark", "cond x; end", nil},
		{"an immediate capture without a mark", "now x; end", nil},
		{"a capture before the mark", "cond x; mark; end", nil},
		{"a loop without a mark", "step; loop 0; end", nil},
		{"a loop with two marks", "step; mark; mark; loop 0; end", nil},
		{"a loop with a mark before it", "mark; step; mark; loop 1; end", []int64{0, 1, 1, 2, -1}},
		{"a loop whose mark is before it", "mark; step; loop 1; end", nil},
		{"a mark at a return", "end; x: mark; return", nil},
		{"a capture in a region without a mark", "end; x: cond x; return", nil},
		{"a mark in the main region for another one", "mark; end; x: cond x; return", nil},
		{"each region begins anew", "mark; now a; end; x: mark; cond y; return; y: mark; now z; return", []int64{0, 1, 0, 0, 1, 0, 0, 1, 0}},

		{"a choice around a mark", "choice 2; mark; end", nil},
		{"a choice around a capture", "mark; choice 3; cond x; end", nil},
		{"a choice around both", "choice 3; mark; cond x; end", []int64{0, 0, 1, 0}},
		{"two paths with a mark each", "choice 3; mark; jump 4; mark; cond x; end", []int64{0, 0, 1, 0, 1, 0}},
		{"two paths, one of which has a mark", "choice 3; mark; jump 4; rem; cond x; end", nil},
		{"two paths, the other one has a mark", "choice 3; rem; jump 4; mark; cond x; end", nil},
		{"two paths, one of which has two marks", "choice 4; mark; mark; jump 5; mark; cond x; end", nil},
		{"two paths with different numbers at a return", "end; x: choice 4; mark; jump 4; return", nil},
		{"two paths with different numbers at a loop", "step; choice 4; mark; jump 5; rem; loop 0; end", nil},
		{"a path that becomes negative", "choice 2; mark; cond x; end", nil},
		{"a path that becomes negative later", "choice 3; mark; jump 4; rem; now x; end", nil},

		{"a mark that is not reached", "jump 2; mark; end", []int64{0, -1, 0}},
		{"a capture that is not reached", "jump 2; cond x; end", []int64{0, -1, 0}},
		{"a jump that is not reached", "jump 3; mark; jump 3; end", []int64{0, -1, -1, 0}},
		{"a loop that is not reached", "step; jump 3; loop 0; end", []int64{0, 0, -1, 0}},
		{"an end that is not reached", "step; mark; loop 0; end", []int64{0, 0, 1, -1}},
		{"a return that is not reached", "end; x: step; mark; loop 1; return", []int64{0, 0, 0, 1, -1}},
		{"a region behind a loop", "step; mark; loop 0; end; x: step; mark; loop 4; return; y: mark; now x; return", []int64{0, 0, 1, -1, 0, 0, 1, -1, 0, 1, 0}},
		{"an address that only a loop reaches", "jump 4; step; mark; cond x; mark; loop 1; end", []int64{0, 0, 0, 1, 0, 1, -1}},
		{"a capture that only a loop reaches", "jump 4; step; cond x; mark; mark; loop 1; end", nil},
		{"an address that only a loop reaches, with a jump out of it", "jump 3; step; jump 5; mark; loop 1; end", []int64{0, 0, 0, 0, 1, 0}},
		{"a mark behind a step that only a loop reaches", "jump 4; step; mark; jump 6; mark; loop 1; end", nil},
		{"a choice whose first path ends", "choice 4; mark; mark; jump 6; rem; jump 8; cond x; now y; end", []int64{0, 0, 1, 2, 0, 0, 2, 1, 0}},
	})
	checkCodeRows(t, []codeRow{{"many marks", strings.Repeat("mark; ", 6499) + strings.Repeat("cond x; ", 6499) + "end", modelRising(6499)}})
	checkCodeRows(t, []codeRow{{"a chain of choices", manyChoices(12999), make([]int64, 13000)}})
}

// modelRising returns the numbers from 0 up to a top and down again.
func modelRising(top int64) []int64 {
	var list []int64
	for i := range top {
		list = append(list, i)
	}
	for i := top; i >= 0; i-- {
		list = append(list, i)
	}
	return list
}

// manyChoices returns the text of choices of their next addresses, and an end.
func manyChoices(count int) string {
	var text strings.Builder
	for i := range count {
		fmt.Fprintf(&text, "choice %d; ", i+1)
	}
	return text.String() + "end"
}

// TestEntries has lists of entries at the bounds, and beyond them.
func TestEntries(t *testing.T) {
	ends := func(count int) []impl.PatternIns {
		return append([]impl.PatternIns{op(impl.CoEnd)}, slices.Repeat([]impl.PatternIns{op(impl.CoReturn)}, count)...)
	}
	entry := func(name string, at int64) impl.PatternEntry { return impl.PatternEntry{Name: name, At: at} }
	for _, c := range []struct {
		what    string
		code    []impl.PatternIns
		entries []impl.PatternEntry
		valid   bool
	}{
		{"none", ends(0), nil, true},
		{"an empty list", ends(0), []impl.PatternEntry{}, true},
		{"one", ends(1), []impl.PatternEntry{entry("x", 1)}, true},
		{"one that is missing", ends(1), nil, false},
		{"one at 0", ends(0), []impl.PatternEntry{entry("x", 0)}, false},
		{"one at 0 with a return", []impl.PatternIns{op(impl.CoReturn)}, []impl.PatternEntry{entry("x", 0)}, false},
		{"one at 0 and another", ends(1), []impl.PatternEntry{entry("x", 0), entry("y", 1)}, false},
		{"one behind the last address", ends(0), []impl.PatternEntry{entry("x", 1)}, false},
		{"the second one behind the last address", ends(1), []impl.PatternEntry{entry("x", 1), entry("y", 2)}, false},
		{"one far behind", ends(1), []impl.PatternEntry{entry("x", math.MaxInt64)}, false},
		{"one below", ends(1), []impl.PatternEntry{entry("x", -1)}, false},
		{"one far below", ends(1), []impl.PatternEntry{entry("x", math.MinInt64)}, false},
		{"one that is congruent", ends(1), []impl.PatternEntry{entry("x", 1<<32+1)}, false},
		{"two", ends(2), []impl.PatternEntry{entry("x", 1), entry("y", 2)}, true},
		{"two in the other order", ends(2), []impl.PatternEntry{entry("y", 1), entry("x", 2)}, true},
		{"two that decrease", ends(2), []impl.PatternEntry{entry("x", 2), entry("y", 1)}, false},
		{"two at the same address", ends(1), []impl.PatternEntry{entry("x", 1), entry("y", 1)}, false},
		{"two of three at the same address", ends(2), []impl.PatternEntry{entry("x", 1), entry("y", 2), entry("z", 2)}, false},
		{"two of three at the first address", ends(2), []impl.PatternEntry{entry("x", 1), entry("y", 1), entry("z", 2)}, false},
		{"three, of which the last ones decrease", ends(3), []impl.PatternEntry{entry("x", 1), entry("y", 3), entry("z", 2)}, false},
		{"three, of which the last one is before the first one", ends(3), []impl.PatternEntry{entry("x", 2), entry("y", 3), entry("z", 1)}, false},
		{"two with the same name", ends(2), []impl.PatternEntry{entry("x", 1), entry("x", 2)}, false},
		{"three, of which two have the same name", ends(3), []impl.PatternEntry{entry("x", 1), entry("y", 2), entry("x", 3)}, false},
		{"names that differ in case", ends(2), []impl.PatternEntry{entry("x", 1), entry("X", 2)}, true},
		{"no name", ends(1), []impl.PatternEntry{entry("", 1)}, false},
		{"a number as a name", ends(1), []impl.PatternEntry{entry("1", 1)}, false},
		{"a blank in the name", ends(1), []impl.PatternEntry{entry("x y", 1)}, false},
		{"the longest name", ends(1), []impl.PatternEntry{entry("ABCDEFGHIJKL", 1)}, true},
		{"a longer name", ends(1), []impl.PatternEntry{entry("ABCDEFGHIJKLM", 1)}, false},
		{"the second name is none", ends(2), []impl.PatternEntry{entry("x", 1), entry("", 2)}, false},
		{"an entry, but no code", nil, []impl.PatternEntry{entry("x", 1)}, false},
	} {
		code := impl.PatternCode{Code: c.code, Entries: c.entries}
		checkEqual(t, c.what, checkCode(t, code), c.valid)
		checkEqual(t, c.what+": valid", impl.ValidPatternCode(code), c.valid)
	}
	for _, count := range []int{39, 40, 41, 1000} {
		var entries []impl.PatternEntry
		for i, name := range numberedNames(count) {
			entries = append(entries, entry(name, int64(i+1)))
		}
		code := impl.PatternCode{Code: ends(count), Entries: entries}
		checkEqual(t, fmt.Sprint(count, " entries"), impl.ValidPatternCode(code), count <= 40)
		checkCode(t, code)
	}
}

func TestEntryOf(t *testing.T) {
	c := readCode(t, "rem; end; x: rem; return; ab: return; X: arb; rem; return")
	for name, want := range map[string]int64{"x": 2, "ab": 4, "X": 5} {
		at, found := impl.EntryOf(c, name)
		checkEqual(t, name, at, want)
		checkEqual(t, name+": found", found, true)
	}
	spoilt := copyCode(c)
	spoilt.Code[6] = op(impl.CoMark)
	for _, name := range []string{"", "y", "a", "abc", "AB", "x ", "\xff", strings.Repeat("x", 1000000)} {
		at, found := impl.EntryOf(c, name)
		checkEqual(t, name, at, 0)
		checkEqual(t, name+": found", found, false)
	}
	for _, name := range []string{"", "x", "ab", "X", "y"} {
		for _, bad := range []impl.PatternCode{spoilt, {}, {Entries: c.Entries}, {Code: c.Code}, {Code: c.Code, Entries: append(slices.Clone(c.Entries), impl.PatternEntry{})}} {
			at, found := impl.EntryOf(bad, name)
			checkEqual(t, name+" in invalid code", at, 0)
			checkEqual(t, name+" in invalid code: found", found, false)
		}
	}
	checkEqual(t, "valid", impl.ValidPatternCode(c), true)
	checkEqual(t, "spoilt", impl.ValidPatternCode(spoilt), false)
}

// TestPatternCodeLimits has MaxPatternCode reached exactly and exceeded by one.
func TestPatternCodeLimits(t *testing.T) {
	fill := func(count int, last ...impl.PatternIns) []impl.PatternIns {
		return append(slices.Repeat([]impl.PatternIns{op(impl.PtRem)}, count-len(last)), last...)
	}
	for _, c := range []struct {
		what  string
		code  []impl.PatternIns
		valid bool
	}{
		{"one less", fill(12999, op(impl.CoEnd)), true},
		{"MaxPatternCode instructions", fill(13000, op(impl.CoEnd)), true},
		{"one more", fill(13001, op(impl.CoEnd)), false},
		{"very many", fill(2000000, op(impl.CoEnd)), false},
		{"a jump to the last address", slices.Concat([]impl.PatternIns{opTo(impl.CoJump, 12999)}, fill(12999, op(impl.CoEnd))), true},
		{"a jump behind the last address", slices.Concat([]impl.PatternIns{opTo(impl.CoJump, 13000)}, fill(13000, op(impl.CoEnd))), false},
		{"a choice of the last address", slices.Concat([]impl.PatternIns{opTo(impl.CoChoice, 12999)}, fill(12999, op(impl.CoEnd))), true},
		{"a loop at the last address but one", slices.Concat([]impl.PatternIns{op(impl.CoStep), op(impl.CoMark)}, fill(12998, opTo(impl.CoLoop, 0), op(impl.CoEnd))), true},
		{"a loop to a late address", fill(13000, op(impl.CoStep), op(impl.CoMark), opTo(impl.CoLoop, 12996), op(impl.CoEnd)), true},
		{"the last instruction is invalid", fill(13000, impl.PatternIns{Op: impl.CoEnd, Num: 1}), false},
		{"the first instruction is invalid", slices.Concat([]impl.PatternIns{{}}, fill(12999, op(impl.CoEnd))), false},
	} {
		code := impl.PatternCode{Code: c.code}
		checkEqual(t, c.what, impl.ValidPatternCode(code), c.valid)
		_, fault := impl.MarksOf(code)
		checkEqual(t, c.what+": code of MarksOf", fault == impl.OK, c.valid)
		checkEqual(t, c.what+": listing", strings.Count(impl.CodeListing(code), "\n"), map[bool]int{true: len(c.code), false: 0}[c.valid])
	}
	last := impl.PatternCode{Code: fill(13000, op(impl.CoEnd), op(impl.CoReturn)), Entries: []impl.PatternEntry{{Name: "x", At: 12999}}}
	checkEqual(t, "an entry at the last address", checkCode(t, last), true)
	last.Entries[0].At++
	checkEqual(t, "an entry behind it", checkCode(t, last), false)
}

// TestCompileErrors has invalid arguments of the compilers, and the limits of valid ones.
func TestCompileErrors(t *testing.T) {
	rem, long := bare(impl.PtRem), strings.Repeat("a", 201)
	badEnvs := [][]impl.Named{{{}}, {{Name: "x"}}, {{Name: "1", Pattern: rem}}, envOf(rem, "x", "x"), envOf(rem, numberedNames(41)...), {{Name: "x", Pattern: stacked(60, rem)}}, {{Name: "x", Pattern: endlessPattern(1)}}}
	badPatterns := []impl.Pattern{{}, bare(25), bare(impl.CoStep), numbered(impl.PtLen, -1), numbered(impl.PtTab, 201), texted(impl.PtAny, ""), texted(impl.PtDefer, ""), tree(impl.PtAlt, rem), tree(impl.PtRem, rem), stacked(60, rem), endlessPattern(3), sharedPattern(100), stacked(1000000, rem), texted(impl.PtString, long)}
	for _, p := range badPatterns {
		code, fault := impl.CompilePattern(p)
		checkEqual(t, "invalid pattern", fault, impl.ErrInvalid)
		checkList(t, "invalid pattern", code, nil)
		for _, env := range append(badEnvs, nil, envOf(rem, "x")) {
			c, fault := impl.CompileAll(env, p)
			checkEqual(t, "invalid pattern", fault, impl.ErrInvalid)
			checkEqual(t, "invalid pattern", equalCode(c, impl.PatternCode{}), true)
		}
	}
	for _, env := range badEnvs {
		c, fault := impl.CompileAll(env, rem)
		checkEqual(t, "invalid environment", fault, impl.ErrInvalid)
		checkEqual(t, "invalid environment", equalCode(c, impl.PatternCode{}), true)
	}
	largest := stacked(59, texted(impl.PtString, long[:200]))
	code, fault := impl.CompilePattern(largest)
	checkEqual(t, "MaxNodes nodes", fault, impl.OK)
	checkList(t, "MaxNodes nodes", code, modelCompiled(largest, 0))
	env := envOf(largest, numberedNames(40)...)
	c, fault := impl.CompileAll(env, largest)
	checkEqual(t, "MaxNamed patterns with MaxNodes nodes", fault, impl.OK)
	checkEqual(t, "their code", equalCode(c, modelCompiledAll(env, largest)), true)
	checkEqual(t, "number of instructions", len(c.Code), 41*(59*5+2))
	checkEqual(t, "valid", impl.ValidPatternCode(c), true)
}

// TestListsThatAreNoCode has lists that are almost the code of a pattern.
func TestListsThatAreNoCode(t *testing.T) {
	for _, s := range []string{
		"", "end", "return", "rem; end", "rem; rem", "step", "step; rem", "step; step; rem; rem", "step; rem; rem; rem", "step; rem; rem; end", "mark", "mark; rem; cond x", "cond x", "now x", "jump 1", "choice 1", "loop 0",
		"step; choice 4; rem; jump 5", "step; choice 4; rem; jump 4; rem", "step; choice 4; rem; jump 6; rem", "step; choice 3; rem; jump 5; rem", "step; choice 5; rem; jump 5; rem", "step; choice 4; rem; rem; rem", "step; choice 4; rem; choice 5; rem", "step; choice 4; rem; jump 5; rem; rem", "step; jump 4; rem; jump 5; rem", "choice 3; rem; jump 4; rem", "step; choice 3; jump 4; rem", "step; choice 4; rem; jump 5; jump 5",
		"step; choice 3; jump 6; mark; rem", "step; choice 3; jump 6; mark; rem; loop 1", "step; choice 3; jump 5; mark; rem; loop 0", "step; choice 3; jump 7; mark; rem; loop 0", "step; choice 4; jump 6; mark; rem; loop 0", "step; choice 2; jump 6; mark; rem; loop 0", "step; choice 3; jump 6; step; rem; loop 0", "step; choice 3; jump 6; rem; rem; loop 0", "step; choice 3; jump 6; mark; loop 0", "step; choice 3; jump 6; mark; rem; jump 6", "step; choice 3; jump 6; mark; rem; cond x", "step; choice 3; choice 6; mark; rem; loop 0", "step; choice 3; jump 6; mark; rem; loop 0; rem", "rem; step; choice 3; jump 6; mark; rem; loop 0", "choice 2; jump 5; mark; rem; loop 0",
		"step; step; choice 3; jump 6; mark; rem; loop 0; rem",
		"step; mark; rem", "step; mark; cond x", "step; mark; rem; mark", "step; mark; rem; loop 0", "step; mark; rem; cond x; rem", "step; mark; rem; rem; cond x", "step; rem; cond x", "step; mark; rem; cursor(x)", "step; mark; rem; return", "step; mark; rem; step", "step; mark; rem; now x; now x", "mark; rem; now x",
		strings.Repeat("step; ", 30) + "rem" + strings.Repeat("; rem", 30),
	} {
		c := readCode(t, s)
		p, ok := impl.DecompilePattern(c.Code)
		checkEqual(t, s, ok, false)
		checkPattern(t, s, p, impl.Pattern{})
	}
	for _, i := range []impl.PatternIns{{}, {Op: -1}, {Op: impl.PtAlt}, {Op: impl.PtArbno}, {Op: impl.PtCond, Text: "x"}, {Op: 25}, {Op: 40}, {Op: math.MaxInt64}, {Op: impl.PtRem, Num: 1}, {Op: impl.PtRem, Text: "a"}, {Op: impl.PtLen, Num: 201}, {Op: impl.PtLen, Num: -1}, {Op: impl.PtAny}, {Op: impl.PtDefer, Text: "1"}} {
		for _, list := range [][]impl.PatternIns{{i}, {op(impl.CoStep), i, op(impl.PtRem)}, {op(impl.CoStep), op(impl.PtRem), i}, {op(impl.CoStep), op(impl.CoMark), i, opFor(impl.CoCond, "x")}} {
			_, ok := impl.DecompilePattern(list)
			checkEqual(t, fmt.Sprint(list), ok, false)
		}
	}
	for _, last := range []impl.PatternIns{opFor(impl.CoCond, ""), opFor(impl.CoCond, "1"), {Op: impl.CoCond, Num: 1, Text: "x"}, {Op: impl.CoNow, Num: 1, Text: "x"}, opFor(impl.CoNow, "x y")} {
		_, ok := impl.DecompilePattern([]impl.PatternIns{op(impl.CoStep), op(impl.CoMark), op(impl.PtRem), last})
		checkEqual(t, fmt.Sprint(last), ok, false)
	}
	for _, first := range []impl.PatternIns{{Op: impl.CoStep, Num: 1}, {Op: impl.CoStep, Text: "x"}} {
		_, ok := impl.DecompilePattern([]impl.PatternIns{first, op(impl.PtRem), op(impl.PtRem)})
		checkEqual(t, fmt.Sprint(first), ok, false)
	}
	for _, i := range []impl.PatternIns{op(impl.CoStep), op(impl.CoMark), op(impl.PtRem), opTo(impl.CoChoice, 1)} {
		_, ok := impl.DecompilePattern(slices.Repeat([]impl.PatternIns{i}, 2000000))
		checkEqual(t, "a very long list", ok, false)
	}
}

// TestLimitsOfDecompiling has patterns of MaxNodes nodes, and of one more.
func TestLimitsOfDecompiling(t *testing.T) {
	rem := bare(impl.PtRem)
	for _, c := range []struct {
		what string
		p    impl.Pattern
		ok   bool
	}{
		{"a stack", stacked(59, rem), true},
		{"a higher stack", stacked(60, rem), false},
		{"alternations", stacked(1, leftChain(rem, 30)), true},
		{"more alternations", leftChain(rem, 31), false},
		{"MaxNodes nodes, most below the second kid", tree(impl.PtCat, rem, stacked(57, rem)), true},
		{"one more below the second kid", tree(impl.PtCat, rem, stacked(58, rem)), false},
		{"one more below the first kid", tree(impl.PtAlt, stacked(58, rem), rem), false},
		{"captures", capturing(impl.PtNow, stacked(58, rem), "x"), true},
		{"one more below a capture", capturing(impl.PtCond, stacked(59, rem), "x"), false},
		{"a string of MaxString bytes", texted(impl.PtString, strings.Repeat("x", 200)), true},
		{"a longer string", texted(impl.PtString, strings.Repeat("x", 201)), false},
		{"very many nodes", stacked(100000, rem), false},
	} {
		code := []impl.PatternIns{}
		if impl.CountNodes(c.p) < 100 {
			code = modelCompiled(c.p, 0)
		} else {
			code = stackedCode(100000)
		}
		p, ok := impl.DecompilePattern(code)
		checkEqual(t, c.what, ok, c.ok)
		if c.ok {
			checkPattern(t, c.what, p, c.p)
		} else {
			checkPattern(t, c.what, p, impl.Pattern{})
		}
	}
}

// stackedCode returns the code of stacked(count, rem).
func stackedCode(count int) []impl.PatternIns {
	var code []impl.PatternIns
	for i := range int64(count) {
		code = append(code, op(impl.CoStep), opTo(impl.CoChoice, 4*i+3), opTo(impl.CoJump, int64(5*count+1)-i), op(impl.CoMark))
	}
	code = append(code, op(impl.PtRem))
	for i := range int64(count) {
		code = append(code, opTo(impl.CoLoop, 4*(int64(count)-1-i)))
	}
	return code
}

func TestSamePatternCode(t *testing.T) {
	list := []impl.PatternCode{
		{}, {Code: []impl.PatternIns{{}}}, {Code: []impl.PatternIns{{}, {}}}, {Code: []impl.PatternIns{{Op: 1}}}, {Code: []impl.PatternIns{{Num: 1}}}, {Code: []impl.PatternIns{{Text: "x"}}}, {Code: []impl.PatternIns{{Text: "y"}}},
		{Entries: []impl.PatternEntry{{}}}, {Entries: []impl.PatternEntry{{}, {}}}, {Entries: []impl.PatternEntry{{Name: "x"}}}, {Entries: []impl.PatternEntry{{At: 1}}}, {Entries: []impl.PatternEntry{{Name: "x", At: 1}}}, {Entries: []impl.PatternEntry{{Name: "y", At: 1}}},
		readCode(t, "rem; end"), readCode(t, "arb; end"), readCode(t, "rem; end; x: return"), readCode(t, "rem; end; y: return"), readCode(t, "rem; x: end; return"), readCode(t, "end; rem; x: return"),
		{Code: make([]impl.PatternIns, 100000)}, {Code: make([]impl.PatternIns, 100001)}, {Code: append(make([]impl.PatternIns, 99999), op(-5))}, {Entries: make([]impl.PatternEntry, 100000)}, {Code: []impl.PatternIns{{Op: math.MinInt64, Num: math.MaxInt64, Text: "\xff"}}},
	}
	for i, a := range list {
		for j, b := range list {
			checkEqual(t, fmt.Sprintf("%d and %d", i, j), impl.SamePatternCode(a, copyCode(b)), i == j)
		}
	}
	empty := impl.PatternCode{Code: []impl.PatternIns{}, Entries: []impl.PatternEntry{}}
	checkEqual(t, "nil and empty lists", impl.SamePatternCode(impl.PatternCode{}, empty), true)
	checkEqual(t, "empty and nil lists", impl.SamePatternCode(empty, impl.PatternCode{}), true)
}

// shortCode calls visit with all lists of up to a length of some instructions.
func shortCode(list []impl.PatternIns, length int, visit func(code []impl.PatternIns)) {
	var extend func(code []impl.PatternIns)
	extend = func(code []impl.PatternIns) {
		visit(code)
		if len(code) == length {
			return
		}
		for _, i := range list {
			extend(append(code[:len(code):len(code)], i))
		}
	}
	extend(nil)
}

// TestShortCodeAgainstModel has all short lists of instructions with all places of up to two entries.
func TestShortCodeAgainstModel(t *testing.T) {
	t.Parallel()
	valid := 0
	check := func(c impl.PatternCode) {
		if checkCode(t, c) {
			valid++
		}
	}
	list := []impl.PatternIns{op(impl.PtRem), op(impl.CoStep), op(impl.CoMark), opFor(impl.CoCond, "x"), opFor(impl.CoNow, "x"), op(impl.CoReturn), op(impl.CoEnd)}
	for n := range int64(5) {
		list = append(list, opTo(impl.CoChoice, n), opTo(impl.CoJump, n), opTo(impl.CoLoop, n))
	}
	shortCode(list, 4, func(code []impl.PatternIns) {
		check(impl.PatternCode{Code: code})
		for at := range int64(len(code)) {
			check(impl.PatternCode{Code: code, Entries: []impl.PatternEntry{{Name: "x", At: at}}})
		}
	})
	if valid < 400 {
		t.Errorf("only %d lists are valid", valid)
	}
	valid = 0
	few := []impl.PatternIns{op(impl.CoStep), op(impl.CoMark), opFor(impl.CoNow, "x"), op(impl.CoReturn), op(impl.CoEnd), opTo(impl.CoChoice, 3), opTo(impl.CoChoice, 4), opTo(impl.CoJump, 2), opTo(impl.CoJump, 4), opTo(impl.CoLoop, 0), opTo(impl.CoLoop, 1)}
	shortCode(few, 6, func(code []impl.PatternIns) {
		if len(code) == 6 && code[5].Op == impl.CoEnd {
			check(impl.PatternCode{Code: code})
		}
		if len(code) == 5 && code[4].Op == impl.CoReturn {
			check(impl.PatternCode{Code: code, Entries: []impl.PatternEntry{{Name: "x", At: 1}}})
			check(impl.PatternCode{Code: code, Entries: []impl.PatternEntry{{Name: "x", At: 2}, {Name: "y", At: 3}}})
		}
	})
	if valid < 1000 {
		t.Errorf("only %d longer lists are valid", valid)
	}
}

// TestDecompilingShortLists has all short lists of instructions of which code consists.
func TestDecompilingShortLists(t *testing.T) {
	decompiled := map[int]int{}
	check := func(code []impl.PatternIns) {
		want, isCode := modelDecompiled(code)
		got, ok := impl.DecompilePattern(code)
		if ok != isCode || !equalPatterns(got, want) {
			t.Errorf("%v: got %v, %t, want %v, %t", code, got, ok, want, isCode)
		}
		if ok {
			decompiled[len(code)]++
		}
	}
	list := []impl.PatternIns{op(impl.PtRem), op(impl.CoStep), op(impl.CoMark), opFor(impl.CoCond, "x"), opFor(impl.CoNow, "y"), opTo(impl.CoChoice, 3), opTo(impl.CoChoice, 4), opTo(impl.CoJump, 5), opTo(impl.CoJump, 6), opTo(impl.CoLoop, 0), op(impl.CoEnd)}
	shortCode(list, 5, check)
	shortCode([]impl.PatternIns{op(impl.PtRem), op(impl.CoStep), op(impl.CoMark), opTo(impl.CoChoice, 3), opTo(impl.CoChoice, 4), opTo(impl.CoJump, 6), opTo(impl.CoLoop, 0)}, 6, check)
	// Both lists of instructions yield rem, and a concatenation with two or three rem.
	checkEqual(t, "lists that are code", fmt.Sprint(decompiled), "map[1:2 3:2 4:2 5:5 6:1]")
}

// changedCode returns a list with a random change.
func changedCode(source *rand.Rand, code []impl.PatternIns) []impl.PatternIns {
	code = slices.Clone(code)
	at := source.Intn(len(code))
	other := []impl.PatternIns{op(impl.PtRem), op(impl.CoStep), op(impl.CoMark), opFor(impl.CoCond, "x"), opFor(impl.CoNow, "y"), opTo(impl.CoChoice, int64(at+3)), opTo(impl.CoJump, int64(at+2)), opTo(impl.CoLoop, 0), op(impl.CoEnd), op(impl.CoReturn)}[source.Intn(10)]
	switch source.Intn(6) {
	case 0:
		code[at] = other
	case 1:
		code = slices.Insert(code, at, other)
	case 2:
		code = slices.Delete(code, at, at+1)
	case 3:
		code[at].Num += int64(source.Intn(5) - 2)
	case 4:
		with := source.Intn(len(code))
		code[at], code[with] = code[with], code[at]
	default:
		code[at].Text = []string{"", "x", "1"}[source.Intn(3)]
	}
	return code
}

// TestChangedCodeAgainstModel has the code of random patterns with some changes.
func TestChangedCodeAgainstModel(t *testing.T) {
	source := narrowPatterns(101)
	counts := map[string]int{}
	for i := range 40000 {
		env := source.env(1 + i%4)
		c, _ := impl.CompileAll(env, source.pattern(1+i%9))
		for range 1 + i%3 {
			c.Code = changedCode(source.Rand, c.Code)
			if len(c.Code) == 0 {
				break
			}
		}
		if len(c.Entries) > 0 && i%4 == 0 {
			c.Entries[source.Intn(len(c.Entries))].At += int64(source.Intn(3) - 1)
		}
		if checkCode(t, c) {
			counts["valid"]++
		} else {
			counts["invalid"]++
		}
		code, _ := impl.CompilePattern(source.pattern(1 + i%9))
		for range 1 + i%2 {
			code = changedCode(source.Rand, append(code, op(impl.PtArb))[:len(code)])
			if len(code) == 0 {
				break
			}
		}
		want, isCode := modelDecompiled(code)
		got, ok := impl.DecompilePattern(code)
		counts[fmt.Sprint("code ", isCode)]++
		if ok != isCode || !equalPatterns(got, want) {
			t.Errorf("%v: got %v, %t, want %v, %t", code, got, ok, want, isCode)
		}
	}
	for _, what := range []string{"valid", "invalid", "code true", "code false"} {
		if counts[what] < 3000 {
			t.Errorf("%s: only %d", what, counts[what])
		}
	}
}

// checkCompiled is promise 18: it checks the code of a pattern with an environment.
func checkCompiled(t *testing.T, env []impl.Named, p impl.Pattern) {
	t.Helper()
	code, fault := impl.CompilePattern(p)
	if fault != impl.OK || !slices.Equal(code, modelCompiled(p, 0)) {
		t.Errorf("CompilePattern(%.200q): %v and %d", impl.PatternText(p), code, fault)
	}
	again, ok := impl.DecompilePattern(code)
	if !ok || !equalPatterns(again, p) {
		t.Errorf("DecompilePattern(%v): %v, %t, want %v", code, again, ok, p)
	}
	c, fault := impl.CompileAll(env, p)
	if fault != impl.OK || !equalCode(c, modelCompiledAll(env, p)) {
		t.Errorf("CompileAll(%v, %.200q): %v and %d", env, impl.PatternText(p), c, fault)
	}
	checkEqual(t, "valid", impl.ValidPatternCode(c), true)
	marks, fault := impl.MarksOf(c)
	checkEqual(t, "code of MarksOf", fault, impl.OK)
	checkEqual(t, "an address that is not reached", slices.Contains(marks, -1), false)
	counted := make([]int64, len(env)+1)
	for at, i := range c.Code {
		if i.Op <= impl.PtDefer || i.Op == impl.CoStep {
			counted[modelRegion(c, int64(at))]++
		}
	}
	checkEqual(t, "counted instructions", counted[0], impl.CountNodes(p))
	for i, x := range env {
		checkEqual(t, "counted instructions of "+x.Name, counted[i+1], impl.CountNodes(x.Pattern))
		at, found := impl.EntryOf(c, x.Name)
		checkEqual(t, "entry of "+x.Name, found && at == c.Entries[i].At, true)
	}
}

// TestPatternsAreRecoveredFromCode is promise 18.
func TestPatternsAreRecoveredFromCode(t *testing.T) {
	for _, row := range patternRows() {
		checkCompiled(t, nil, row.p)
		checkCompiled(t, []impl.Named{{Name: "x", Pattern: row.p}, {Name: "y", Pattern: bare(impl.PtArb)}}, row.p)
	}
	leaves := smallLeaves()
	small := aboveAll(leaves)
	for i, p := range slices.Concat(leaves, small) {
		checkCompiled(t, nil, p)
		checkCompiled(t, nil, tree(impl.PtArbno, p))
		checkCompiled(t, []impl.Named{{Name: "x", Pattern: p}}, capturing(impl.PtCond, p, "d"))
		leaf := leaves[i%len(leaves)]
		for _, kind := range []int64{impl.PtAlt, impl.PtCat} {
			checkCompiled(t, nil, tree(kind, p, leaf))
			checkCompiled(t, []impl.Named{{Name: "z", Pattern: leaf}, {Name: "x", Pattern: p}}, tree(kind, leaf, p))
		}
	}
	codes := map[string]string{}
	source := widePatterns(102)
	for i := range 6000 {
		p := source.pattern(1 + i%60)
		checkCompiled(t, source.env(1+i%60), p)
		code, _ := impl.CompilePattern(p)
		key, text := fmt.Sprintf("%#v", code), impl.PatternText(p)
		if other, found := codes[key]; found && other != text {
			t.Errorf("%.100q and %.100q have the same code", text, other)
		}
		codes[key] = text
	}
	if len(codes) < 5000 {
		t.Errorf("only %d different patterns", len(codes))
	}
}
