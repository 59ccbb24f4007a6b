package tests

import (
	"fmt"
	"math"
	"slices"
	"strings"
	"testing"

	"loop.example/g00873/impl"
)

// bytesFrom returns the bytes from one number to another.
func bytesFrom(low, high int) string {
	var list []byte
	for b := low; b <= high; b++ {
		list = append(list, byte(b))
	}
	return string(list)
}

// allBut returns all bytes that are not in a text, in increasing order.
func allBut(s string) string {
	var list []byte
	for _, b := range []byte(bytesFrom(0, 255)) {
		if !slices.Contains([]byte(s), b) {
			list = append(list, b)
		}
	}
	return string(list)
}

// staticRow is a pattern with what is known of it.
type staticRow struct {
	pattern  string
	min, max int64
	first    string
}

// checkStaticRows checks rows, all of which have patterns that are pure or that are not.
func checkStaticRows(t *testing.T, env []impl.Named, isPure bool, rows []staticRow) {
	t.Helper()
	for _, row := range rows {
		checkStatic(t, row.pattern, env, readPattern(t, row.pattern), staticResult{row.min, row.max, row.first, isPure, impl.OK})
	}
}

// named returns an environment from names and text forms.
func named(t *testing.T, pairs ...string) []impl.Named {
	t.Helper()
	var env []impl.Named
	for pair := range slices.Chunk(pairs, 2) {
		env = append(env, impl.Named{Name: pair[0], Pattern: readPattern(t, pair[1])})
	}
	return env
}

func TestPruningExamples(t *testing.T) {
	env := named(t, "x", `alt("a",cat("b",defer(x)))`, "y", `cat("a",defer(y))`)
	checkStaticRows(t, env, true, []staticRow{{`cat("ab",alt("c",len(3)))`, 3, 5, "a"}, {"defer(x)", 1, 200, "ab"}, {"defer(y)", 201, 0, ""}})
	b := readPattern(t, `"b"`)
	checkStarts(t, "example", nil, readPattern(t, `cat("b",len(1))`), "abbab", false, []int64{1, 2}, impl.OK)
	checkPrunedFirst(t, "example", nil, b, "aab", false, 100, firstResult{matched(2, 3), true, 2, impl.OK})
	checkPruned(t, "example", nil, b, "aab", false, 2, spans("2-3"), impl.OK)
	checkSimple(t, "example", readPattern(t, `cat(cat("a",""),cat("b",rem))`), readPattern(t, `cat("ab",rem)`))
	checkSimple(t, "example", readPattern(t, "alt(alt(fail,arb),fail)"), readPattern(t, "arb"))
	checkSimple(t, "example", readPattern(t, `alt(cat(abort,rem),"a")`), readPattern(t, "abort"))
	checkJoin(t, "example", readPattern(t, `"a"`), readPattern(t, `cat("b",rem)`), readPattern(t, `cat("ab",rem)`), true)
}

// TestStaticOfKinds has each kind of patterns without kids.
func TestStaticOfKinds(t *testing.T) {
	all, long := bytesFrom(0, 255), strings.Repeat("x", 200)
	checkStaticRows(t, nil, true, []staticRow{
		{`""`, 0, 0, ""},
		{`"a"`, 1, 1, "a"},
		{`"ba"`, 2, 2, "b"},
		{"\"\xff\x00\"", 2, 2, "\xff"},
		{"\"\x00\xff\"", 2, 2, "\x00"},
		{"\"\u20ac\"", 3, 3, "\xe2"},
		{`"` + long[1:] + `"`, 199, 199, "x"},
		{`"` + long + `"`, 200, 200, "x"},
		{`any("ba")`, 1, 1, "ab"},
		{`any("aaa")`, 1, 1, "a"},
		{"any(\"\xff\xc0\xbf\x80\x7f\x40\x3f\x00\")", 1, 1, "\x00\x3f\x40\x7f\x80\xbf\xc0\xff"},
		{"any(\"\u20ac\")", 1, 1, "\x82\xac\xe2"},
		{`any("` + long + `")`, 1, 1, "x"},
		{`notany("a")`, 1, 1, allBut("a")},
		{"notany(\"\xff\xc0\xbf\x80\x7f\x40\x3f\x00\")", 1, 1, allBut("\x00\x3f\x40\x7f\x80\xbf\xc0\xff")},
		{`span("ba")`, 1, 200, "ab"},
		{`span("aa")`, 1, 200, "a"},
		{`break("a")`, 0, 199, allBut("a")},
		{`break("ba")`, 0, 199, allBut("ab")},
		{"len(0)", 0, 0, ""},
		{"len(1)", 1, 1, all},
		{"len(199)", 199, 199, all},
		{"len(200)", 200, 200, all},
		{"pos(0)", 0, 0, ""},
		{"pos(3)", 0, 0, ""},
		{"pos(200)", 0, 0, ""},
		{"rpos(0)", 0, 0, ""},
		{"rpos(200)", 0, 0, ""},
		{"tab(0)", 0, 0, ""},
		{"tab(1)", 0, 1, all},
		{"tab(200)", 0, 200, all},
		{"rtab(0)", 0, 200, all},
		{"rtab(1)", 0, 199, all},
		{"rtab(199)", 0, 1, all},
		{"rtab(200)", 0, 0, ""},
		{"rem", 0, 200, all},
		{"arb", 0, 200, all},
		{"bal", 1, 200, allBut(")")},
		{"fail", 201, 0, ""},
	})
	checkStaticRows(t, nil, false, []staticRow{{"fence", 0, 0, ""}, {"abort", 201, 0, ""}, {"succeed", 0, 0, ""}, {"cursor(x)", 0, 0, ""}})
	checkStatic(t, "MaxNodes", nil, stacked(59, texted(impl.PtAny, "ba")), staticResult{0, 200, "ab", true, impl.OK})
	checkStatic(t, "one node more", nil, stacked(60, texted(impl.PtAny, "ba")), staticResult{code: impl.ErrInvalid})
	// The longest sets, and each byte alone.
	for _, set := range []string{bytesFrom(0, 199), bytesFrom(56, 255)} {
		for _, kind := range []int64{impl.PtAny, impl.PtSpan} {
			checkStatic(t, "a long set", nil, texted(kind, set), staticResult{1, map[int64]int64{impl.PtAny: 1, impl.PtSpan: 200}[kind], set, true, impl.OK})
		}
		checkStatic(t, "a long set", nil, texted(impl.PtNotAny, set), staticResult{1, 1, allBut(set), true, impl.OK})
		checkStatic(t, "a long set", nil, texted(impl.PtBreak, set), staticResult{0, 199, allBut(set), true, impl.OK})
	}
	for _, s := range allBytes() {
		checkStatic(t, "one byte", nil, texted(impl.PtString, s), staticResult{1, 1, s, true, impl.OK})
		checkStatic(t, "one byte", nil, texted(impl.PtAny, s), staticResult{1, 1, s, true, impl.OK})
		checkStatic(t, "all but one byte", nil, texted(impl.PtNotAny, s), staticResult{1, 1, allBut(s), true, impl.OK})
	}
}

// TestStaticOfKids has kids that cannot match, sums of lengths around MaxString, and kids that can match the empty string.
func TestStaticOfKids(t *testing.T) {
	all := bytesFrom(0, 255)
	checkStaticRows(t, nil, true, []staticRow{
		{`alt("a",len(3))`, 1, 3, all},
		{`alt(len(3),"a")`, 1, 3, all},
		{`alt("b","a")`, 1, 1, "ab"},
		{`alt("a","a")`, 1, 1, "a"},
		{`alt("","b")`, 0, 1, "b"},
		{`alt("b","")`, 0, 1, "b"},
		{`alt(fail,"b")`, 1, 1, "b"},
		{`alt("b",fail)`, 1, 1, "b"},
		{`alt(fail,"")`, 0, 0, ""},
		{"alt(fail,fail)", 201, 0, ""},
		{`alt(cat("a",fail),"b")`, 1, 1, "b"},
		{`alt("b",cat(len(150),len(60)))`, 1, 1, "b"},
		{`alt("d",alt("c",alt("b","a")))`, 1, 1, "abcd"},
		{`cat(fail,"a")`, 201, 0, ""},
		{`cat("a",fail)`, 201, 0, ""},
		{`cat("",fail)`, 201, 0, ""},
		{"cat(arb,fail)", 201, 0, ""},
		{"cat(fail,fail)", 201, 0, ""},
		{`cat(cat("a",fail),"b")`, 201, 0, ""},
		{`cat(alt("a",fail),"b")`, 2, 2, "a"},
		{"arbno(fail)", 0, 0, ""},
		{`arbno(cat("a",fail))`, 0, 0, ""},
		{`arbno("")`, 0, 0, ""},
		{"arbno(pos(1))", 0, 0, ""},
		{"arbno(tab(0))", 0, 0, ""},
		{"arbno(tab(1))", 0, 200, all},
		{`arbno("ab")`, 0, 200, "a"},
		{`arbno(alt("",span("b")))`, 0, 200, "b"},
		{"arbno(len(200))", 0, 200, all},
		{`arbno(arbno("a"))`, 0, 200, "a"},
		{"arbno(arbno(fail))", 0, 0, ""},
		{"cond(fail,x)", 201, 0, ""},
		{"cond(alt(fail,fail),x)", 201, 0, ""},
		{`cond("ba",x)`, 2, 2, "b"},
		{`cond(alt("","a"),x)`, 0, 1, "a"},

		{"cat(len(100),len(99))", 199, 199, all},
		{"cat(len(100),len(100))", 200, 200, all},
		{"cat(len(100),len(101))", 201, 0, ""},
		{"cat(len(200),len(200))", 201, 0, ""},
		{"cat(len(200),len(0))", 200, 200, all},
		{"cat(len(200),len(1))", 201, 0, ""},
		{`cat("a",len(199))`, 200, 200, "a"},
		{`cat("a",len(200))`, 201, 0, ""},
		{"cat(len(200),arb)", 200, 200, all},
		{"cat(len(150),tab(49))", 150, 199, all},
		{"cat(len(150),tab(50))", 150, 200, all},
		{"cat(len(150),tab(51))", 150, 200, all},
		{"cat(tab(100),tab(99))", 0, 199, all},
		{"cat(tab(100),tab(100))", 0, 200, all},
		{"cat(tab(100),tab(101))", 0, 200, all},
		{"cat(rem,rem)", 0, 200, all},
		{`cat(span("a"),span("b"))`, 2, 200, "a"},
		{"cat(bal,bal)", 2, 200, allBut(")")},
		{`cat(break("a"),"a")`, 1, 200, all},
		{`cat(break("a"),len(0))`, 0, 199, allBut("a")},
		{`cat(break("ab"),break("a"))`, 0, 200, allBut("a")},
		{"cat(len(100),cat(len(60),len(40)))", 200, 200, all},
		{"cat(cat(len(100),len(60)),len(41))", 201, 0, ""},
		{"cat(len(100),cat(len(60),len(41)))", 201, 0, ""},
		{"alt(cat(len(100),len(101)),cat(len(99),len(101)))", 200, 200, all},

		{`cat("","a")`, 1, 1, "a"},
		{`cat("a","b")`, 2, 2, "a"},
		{`cat("b","")`, 1, 1, "b"},
		{`cat(alt("","a"),"b")`, 1, 2, "ab"},
		{`cat(alt("a",""),alt("b",""))`, 0, 2, "ab"},
		{`cat(alt("a","bb"),"c")`, 2, 3, "ab"},
		{`cat(pos(0),"a")`, 1, 1, "a"},
		{`cat(rpos(5),cat(pos(0),"a"))`, 1, 1, "a"},
		{`cat(len(0),"a")`, 1, 1, "a"},
		{`cat(len(1),"a")`, 2, 2, all},
		{`cat(tab(3),"a")`, 1, 4, all},
		{`cat(arbno("a"),"b")`, 1, 200, "ab"},
		{`cat(arbno("a"),arbno("b"))`, 0, 200, "ab"},
		{`cat(arbno(fail),"b")`, 1, 1, "b"},
		{`cat(cond("",x),"a")`, 1, 1, "a"},
		{`cat(cond(alt("","c"),x),alt("a","b"))`, 1, 2, "abc"},
		{`cat(cat(alt("","a"),alt("","b")),alt("c",""))`, 0, 3, "abc"},
		{`cat(cat("a",""),"b")`, 2, 2, "a"},
		{`cat("",cat("","b"))`, 1, 1, "b"},
		{`cat(any("ca"),span("x"))`, 2, 200, "ac"},
		{`cat(notany("a"),"b")`, 2, 2, allBut("a")},
	})
	checkStaticRows(t, nil, false, []staticRow{
		{`alt(abort,"b")`, 1, 1, "b"},
		{`alt("b",abort)`, 1, 1, "b"},
		{"alt(abort,fail)", 201, 0, ""},
		{`cat("a",abort)`, 201, 0, ""},
		{`cat(abort,"a")`, 201, 0, ""},
		{"arbno(abort)", 0, 0, ""},
		{"cond(abort,x)", 201, 0, ""},
		{"now(abort,x)", 201, 0, ""},
		{"now(fail,x)", 201, 0, ""},
		{`now("ba",x)`, 2, 2, "b"},
		{`now(alt("","a"),x)`, 0, 1, "a"},
		{`cat(fence,"a")`, 1, 1, "a"},
		{`cat(succeed,"a")`, 1, 1, "a"},
		{`cat(cursor(x),"a")`, 1, 1, "a"},
		{`cat("b",cursor(x))`, 1, 1, "b"},
		{"arbno(succeed)", 0, 0, ""},
	})
}

// TestStaticOfReferences has references to themselves, to each other, through each kind with kids, and to patterns that cannot match.
func TestStaticOfReferences(t *testing.T) {
	all := bytesFrom(0, 255)
	env := named(t,
		"x", `alt("a",cat("b",defer(x)))`,
		"never", `cat("a",defer(never))`,
		"left", `alt(cat(defer(left),"b"),"a")`,
		"self", "defer(self)",
		"ping", `alt("p",cat("i",defer(pong)))`,
		"pong", `cat("o",defer(ping))`,
		"tick", `cat("a",defer(tock))`,
		"tock", `cat(defer(tick),"b")`,
		"blank", `alt("",defer(blank))`,
		"twice", `alt("",cat(defer(twice),defer(twice)))`,
		"loop", "arbno(defer(loop))",
		"many", `arbno(alt("a",defer(many)))`,
		"star", `arbno(cat("b",defer(star)))`,
		"starred", `cat(arbno(defer(starred)),"c")`,
		"capture", `cond(alt("a",cat("b",defer(capture))),v)`,
		"half", `alt("z",cat(len(100),defer(half)))`,
		"third", `alt("z",cat(len(66),cat(defer(third),len(1))))`,
		"big", `alt("a",cat(len(150),cat(defer(big),len(50))))`,
		"exact", `alt("a",cat(len(199),defer(exact)))`,
		"most", `alt(len(200),cat("a",defer(most)))`,
		"grow", `alt("",cat("a",defer(grow)))`,
		"before", `cat(alt("",defer(after)),"c")`,
		"after", `alt("d",cat("e",defer(before)))`,
		"nothing", "fail",
		"alias", "defer(x)",
	)
	checkStaticRows(t, env, true, []staticRow{
		{"defer(x)", 1, 200, "ab"},
		{"defer(alias)", 1, 200, "ab"},
		{"defer(never)", 201, 0, ""},
		{"defer(left)", 1, 200, "a"},
		{"defer(self)", 201, 0, ""},
		{"defer(ping)", 1, 200, "ip"},
		{"defer(pong)", 2, 200, "o"},
		{"defer(tick)", 201, 0, ""},
		{"defer(tock)", 201, 0, ""},
		{"defer(blank)", 0, 0, ""},
		{"defer(twice)", 0, 0, ""},
		{"defer(loop)", 0, 0, ""},
		{"defer(many)", 0, 200, "a"},
		{"defer(star)", 0, 200, "b"},
		{"defer(starred)", 1, 200, "c"},
		{"defer(capture)", 1, 200, "ab"},
		{"defer(half)", 1, 200, all},
		{"defer(third)", 1, 200, all},
		{"defer(big)", 1, 1, "a"},
		{"defer(exact)", 1, 200, all},
		{"defer(most)", 200, 200, all},
		{"defer(grow)", 0, 200, "a"},
		{"defer(before)", 1, 200, "cde"},
		{"defer(after)", 1, 200, "de"},
		{"defer(nothing)", 201, 0, ""},
		{`alt("q",defer(never))`, 1, 1, "q"},
		{`alt(defer(self),defer(never))`, 201, 0, ""},
		{`cat(alt("","q"),defer(x))`, 1, 200, "abq"},
		{`cat(defer(grow),"q")`, 1, 200, "aq"},
		{`cat(defer(blank),"q")`, 1, 1, "q"},
		{`cat("q",defer(nothing))`, 201, 0, ""},
		{`cat(defer(x),defer(never))`, 201, 0, ""},
		{"cat(defer(most),defer(grow))", 200, 200, all},
		{"cat(defer(most),defer(x))", 201, 0, ""},
		{"arbno(defer(never))", 0, 0, ""},
		{"arbno(defer(blank))", 0, 0, ""},
		{"arbno(defer(x))", 0, 200, "ab"},
		{"cond(defer(never),v)", 201, 0, ""},
		{"cond(defer(ping),v)", 1, 200, "ip"},
	})
	impure := append(env, named(t, "nowed", `now(alt("",cat("c",defer(nowed))),v)`, "fenced", `cat(fence,defer(fenced))`, "stop", "abort")...)
	checkStaticRows(t, impure, false, []staticRow{
		{"defer(nowed)", 0, 200, "c"},
		{"now(defer(never),v)", 201, 0, ""},
		{"defer(fenced)", 201, 0, ""},
		{"arbno(defer(fenced))", 0, 0, ""},
		{"defer(stop)", 201, 0, ""},
		{`alt(defer(stop),"a")`, 1, 1, "a"},
	})
}

// TestLongChainsOfReferences has MaxNamed patterns, each of which refers to the next one.
func TestLongChainsOfReferences(t *testing.T) {
	chain := func(last string, isBackward bool) []impl.Named {
		var env []impl.Named
		for i := range 39 {
			env = append(env, impl.Named{Name: fmt.Sprint("n", i), Pattern: readPattern(t, fmt.Sprintf(`cat(alt("%c","a"),defer(n%d))`, 'A'+i%26, i+1))})
		}
		env = append(env, impl.Named{Name: "n39", Pattern: readPattern(t, last)})
		if isBackward {
			slices.Reverse(env)
		}
		return env
	}
	all := bytesFrom(0, 255)
	for _, isBackward := range []bool{false, true} {
		first, middle := texted(impl.PtDefer, "n0"), texted(impl.PtDefer, "n20")
		checkStatic(t, "a chain", chain(`"z"`, isBackward), first, staticResult{40, 40, "Aa", true, impl.OK})
		checkStatic(t, "a part of a chain", chain(`"z"`, isBackward), middle, staticResult{20, 20, "Ua", true, impl.OK})
		checkStatic(t, "a chain without end", chain("defer(n0)", isBackward), first, staticResult{201, 0, "", true, impl.OK})
		checkStatic(t, "a circle", chain("alt(tab(1),defer(n0))", isBackward), first, staticResult{39, 200, "Aa", true, impl.OK})
		checkStatic(t, "a part of a circle", chain("alt(tab(1),defer(n0))", isBackward), texted(impl.PtDefer, "n39"), staticResult{0, 200, all, true, impl.OK})
		checkStatic(t, "too long a chain", chain("len(161)", isBackward), first, staticResult{200, 200, "Aa", true, impl.OK})
		checkStatic(t, "too long a chain", chain("len(162)", isBackward), first, staticResult{201, 0, "", true, impl.OK})
		checkStatic(t, "a chain with an effect", chain("fence", isBackward), first, staticResult{39, 39, "Aa", false, impl.OK})
		checkStatic(t, "a chain to an undefined name", chain("defer(n40)", isBackward), first, staticResult{code: impl.ErrUndefined})
		checkStatic(t, "one name too many", append(chain(`"z"`, isBackward), impl.Named{Name: "y"}), first, staticResult{code: impl.ErrInvalid})
		env := chain(`"z"`, isBackward)
		checkStarts(t, "a chain", env, first, "bA"+strings.Repeat("a", 39)+"aAz", false, []int64{1, 2, 3, 4}, impl.OK)
	}
}

// TestSlowSolutions has equations whose solution is reached in as many rounds as possible.
func TestSlowSolutions(t *testing.T) {
	padding := stacked(50, bare(impl.PtPos))
	for _, isBackward := range []bool{false, true} {
		var env []impl.Named
		for i := range 40 {
			next := texted(impl.PtDefer, fmt.Sprint("n", (i+1)%40))
			if i == 39 {
				next = tree(impl.PtAlt, numbered(impl.PtLen, 0), tree(impl.PtCat, texted(impl.PtString, "a"), next))
			}
			env = append(env, impl.Named{Name: fmt.Sprint("n", i), Pattern: tree(impl.PtCat, padding, next)})
		}
		if isBackward {
			slices.Reverse(env)
		}
		for _, name := range []string{"n0", "n17", "n39"} {
			checkStatic(t, "slow", env, texted(impl.PtDefer, name), staticResult{0, 200, "a", true, impl.OK})
		}
	}
}

// TestUndefinedNames has names that are not in the environment, also where they are never matched, and behind other references.
func TestUndefinedNames(t *testing.T) {
	env := named(t, "open", "defer(q)", "outer", `alt("a",defer(open))`, "ring", "cat(defer(gnir),defer(ring))", "gnir", "alt(defer(ring),defer(outer))", "fine", `"f"`, "self", "defer(self)")
	for _, text := range []string{"defer(q)", "defer(open)", "defer(outer)", "defer(ring)", "alt(fail,defer(q))", `alt("a",defer(q))`, "alt(defer(q),rem)", "cat(fail,defer(q))", "cat(defer(q),fail)", "cat(abort,defer(open))", "cat(len(200),cat(len(1),defer(q)))", "arbno(defer(q))", "cond(defer(open),x)", "now(defer(outer),x)", "cat(defer(fine),defer(q))", "cat(defer(self),defer(q))", "cat(fence,defer(q))"} {
		p := readPattern(t, text)
		checkStatic(t, text, env, p, staticResult{code: impl.ErrUndefined})
		for _, anchored := range []bool{true, false} {
			for _, s := range []string{"", "a", strings.Repeat("a", 200)} {
				checkStarts(t, text, env, p, s, anchored, nil, impl.ErrUndefined)
			}
		}
	}
	// Patterns to which nothing refers have no effect.
	checkStaticRows(t, env, true, []staticRow{{"rem", 0, 200, bytesFrom(0, 255)}, {"defer(fine)", 1, 1, "f"}, {"defer(self)", 201, 0, ""}})
	checkStatic(t, "no environment", nil, readPattern(t, "defer(x)"), staticResult{code: impl.ErrUndefined})
	checkStatic(t, "names with a case", named(t, "x", "rem"), readPattern(t, "defer(X)"), staticResult{code: impl.ErrUndefined})
}

// invalidEnvs and invalidPatterns return arguments that are invalid in different ways.
func invalidEnvs() [][]impl.Named {
	rem := bare(impl.PtRem)
	return [][]impl.Named{{{}}, {{Name: "x"}}, {{Pattern: rem}}, {{Name: "1", Pattern: rem}}, envOf(rem, "x", "x"), envOf(rem, "x", "y", "x"), envOf(rem, numberedNames(41)...), {{Name: "toolonganame1", Pattern: rem}}, {{Name: "x", Pattern: stacked(60, rem)}}, {{Name: "x", Pattern: endlessPattern(1)}}, {{Name: "x", Pattern: rem}, {Name: "y", Pattern: numbered(impl.PtLen, 201)}}}
}

func invalidPatterns() []impl.Pattern {
	rem, long := bare(impl.PtRem), strings.Repeat("a", 201)
	list := []impl.Pattern{bare(25), bare(-1), bare(math.MinInt64), bare(math.MaxInt64), numbered(impl.PtRem, 1), texted(impl.PtFail, "x"), texted(impl.PtCursor, "1"), stacked(60, rem), leftChain(rem, 31), endlessPattern(3), sharedPattern(100), tree(impl.PtAlt, rem, bare(0)), tree(impl.PtCat, numbered(impl.PtLen, -1), rem), capturing(impl.PtCond, rem, ""), capturing(impl.PtNow, rem, "a b"), tree(impl.PtDefer, rem)}
	for _, kind := range patternKinds {
		list = append(list, impl.Pattern{Kind: kind, Num: -1, Text: "x"}, impl.Pattern{Kind: kind, Num: 201}, texted(kind, long), tree(kind, rem, rem, rem), impl.Pattern{Kind: kind, Num: math.MaxInt64}, impl.Pattern{Kind: kind, Num: math.MinInt64})
	}
	return append(list, impl.Pattern{})
}

// TestInvalidArgumentsOfPruning has ErrInvalid, which comes before ErrUndefined.
func TestInvalidArgumentsOfPruning(t *testing.T) {
	rem, gone, long := bare(impl.PtRem), texted(impl.PtDefer, "q"), strings.Repeat("a", 201)
	check := func(what string, env []impl.Named, p impl.Pattern) {
		t.Helper()
		checkStatic(t, what, env, p, staticResult{code: impl.ErrInvalid})
		for _, s := range []string{"", "aa", long} {
			checkStarts(t, what, env, p, s, s == "", nil, impl.ErrInvalid)
		}
	}
	for i, env := range invalidEnvs() {
		check(fmt.Sprint("invalid environment ", i), env, rem)
		check(fmt.Sprint("undefined name in the invalid environment ", i), env, gone)
	}
	for i, p := range invalidPatterns() {
		check(fmt.Sprint("invalid pattern ", i), nil, p)
		check(fmt.Sprint("invalid pattern ", i), envOf(gone, "x"), p)
		checkSimple(t, "an invalid pattern", p, impl.Pattern{})
		checkJoin(t, "an invalid first pattern", p, rem, impl.Pattern{}, false)
		checkJoin(t, "an invalid second pattern", rem, p, impl.Pattern{}, false)
		checkJoin(t, "an invalid second pattern that is not reached", bare(impl.PtFail), p, impl.Pattern{}, false)
		checkJoin(t, "two invalid patterns", p, p, impl.Pattern{}, false)
	}
	for _, anchored := range []bool{true, false} {
		for _, s := range []string{long, strings.Repeat("a", 1000000)} {
			checkStarts(t, "long subject", nil, rem, s, anchored, nil, impl.ErrInvalid)
			checkStarts(t, "long subject, undefined name", nil, gone, s, anchored, nil, impl.ErrInvalid)
			checkStarts(t, "long subject, no match", nil, bare(impl.PtFail), s, anchored, nil, impl.ErrInvalid)
		}
	}
}

// TestIsPure has each kind that makes a pattern impure, also within others and in patterns to which it refers.
func TestIsPure(t *testing.T) {
	for _, text := range []string{"fence", "abort", "succeed", "cursor(v)", "now(rem,v)"} {
		env := named(t, "bad", text, "worse", `cat("a",arbno(defer(bad)))`, "good", `alt("a",defer(good))`, "both", "alt(defer(good),defer(worse))")
		for _, outer := range []string{"%s", "alt(%s,rem)", "alt(rem,%s)", "cat(fail,%s)", "cat(%s,fail)", "arbno(%s)", "cond(%s,x)", "cond(arbno(cat(defer(good),%s)),x)", "alt(defer(bad),rem)", "defer(worse)", "cat(defer(good),defer(both))", "now(%s,v)"} {
			p := readPattern(t, strings.ReplaceAll(outer, "%s", text))
			checkEqual(t, outer+" of "+text, impl.IsPure(env, p), false)
		}
		for _, pure := range []string{"rem", "defer(good)", "cond(arbno(defer(good)),v)"} {
			checkEqual(t, pure+" beside "+text, impl.IsPure(env, readPattern(t, pure)), true)
		}
	}
	env := named(t, "x", "rem", "open", "alt(defer(x),defer(q))")
	for text, want := range map[string]bool{"defer(x)": true, "defer(q)": false, "defer(open)": false, "cat(defer(x),defer(open))": false, "cond(defer(x),q)": true, `"fence"`: true, `any("now")`: true} {
		checkEqual(t, text, impl.IsPure(env, readPattern(t, text)), want)
	}
	for i, env := range invalidEnvs() {
		checkEqual(t, fmt.Sprint("invalid environment ", i), impl.IsPure(env, bare(impl.PtRem)), false)
	}
	for i, p := range invalidPatterns() {
		checkEqual(t, fmt.Sprint("invalid pattern ", i), impl.IsPure(nil, p), false)
	}
	checkEqual(t, "MaxNodes", impl.IsPure(envOf(stacked(59, bare(impl.PtRem)), numberedNames(40)...), stacked(59, texted(impl.PtDefer, "n39"))), true)
}

func TestCandidateStarts(t *testing.T) {
	env := named(t, "x", `alt("a",cat("b",defer(x)))`, "never", `cat("a",defer(never))`, "grow", `alt("",cat("a",defer(grow)))`)
	full := strings.Repeat("ab", 100)
	upTo := func(last int64) (list []int64) {
		for at := range last + 1 {
			list = append(list, at)
		}
		return list
	}
	for _, row := range []struct {
		pattern, subject string
		want             []int64
	}{
		{`""`, "", []int64{0}},
		{`""`, "ab", []int64{0, 1, 2}},
		{"rem", "", []int64{0}},
		{"arb", "ab", []int64{0, 1, 2}},
		{`"a"`, "", nil},
		{`"a"`, "aba", []int64{0, 2}},
		{`"ab"`, "aba", []int64{0}},
		{`"ab"`, "aaa", []int64{0, 1}},
		{`"aba"`, "aba", []int64{0}},
		{`"abab"`, "aba", nil},
		{`any("ba")`, "cabc", []int64{1, 2}},
		{`notany("a")`, "ab\xffa", []int64{1, 2}},
		{`span("b")`, "abb", []int64{1, 2}},
		{`break("b")`, "bab", []int64{0, 1, 2, 3}},
		{`cat(break("b"),"b")`, "bab", []int64{0, 1, 2}},
		{"bal", "(a))b", []int64{0, 1, 4}},
		{"len(0)", "ab", []int64{0, 1, 2}},
		{"len(2)", "abc", []int64{0, 1}},
		{"len(3)", "abc", []int64{0}},
		{"len(4)", "abc", nil},
		{"len(200)", full, []int64{0}},
		{"len(200)", full[1:], nil},
		{"len(199)", full, []int64{0, 1}},
		{"pos(1)", "ab", []int64{0, 1, 2}},
		{"tab(5)", "ab", []int64{0, 1, 2}},
		{"rtab(200)", "ab", []int64{0, 1, 2}},
		{"rpos(0)", "ab", []int64{0, 1, 2}},
		{"fence", "ab", []int64{0, 1, 2}},
		{"succeed", "ab", []int64{0, 1, 2}},
		{"cursor(v)", "", []int64{0}},
		{"fail", "", nil},
		{"fail", "ab", nil},
		{"abort", "ab", nil},
		{`cat("a",fail)`, "ab", nil},
		{`alt("a","")`, "ab", []int64{0, 1, 2}},
		{`alt("a","bb")`, "babb", []int64{0, 1, 2, 3}},
		{`cat(alt("","a"),"b")`, "cab", []int64{1, 2}},
		{`cat("b",len(1))`, "abbab", []int64{1, 2}},
		{`cat(pos(0),"a")`, "aba", []int64{0, 2}},
		{`arbno("a")`, "ba", []int64{0, 1, 2}},
		{`cat(arbno("a"),"b")`, "cabc", []int64{1, 2}},
		{`cond("b",v)`, "abb", []int64{1, 2}},
		{`now("b",v)`, "abb", []int64{1, 2}},
		{"defer(x)", "cab", []int64{1, 2}},
		{"defer(never)", "aaa", nil},
		{"defer(grow)", "ab", []int64{0, 1, 2}},
		{`cat(defer(grow),"b")`, "cab", []int64{1, 2}},
		{"rem", full, upTo(200)},
		{"len(1)", full, upTo(199)},
		{"len(2)", full, upTo(198)},
	} {
		p := readPattern(t, row.pattern)
		checkStarts(t, "unanchored", env, p, row.subject, false, row.want, impl.OK)
		var atZero []int64
		if len(row.want) > 0 && row.want[0] == 0 {
			atZero = []int64{0}
		}
		checkStarts(t, "anchored", env, p, row.subject, true, atZero, impl.OK)
	}
}

func TestPrunedMatches(t *testing.T) {
	env := named(t, "x", `alt("a",cat("b",defer(x)))`, "never", `cat("a",defer(never))`, "left", `alt(cat(defer(left),"b"),"a")`, "open", "defer(q)")
	for _, row := range []struct {
		pattern, subject string
		anchored         bool
		fuel             int64
		want             []impl.Match
		code             int64
	}{
		{`"b"`, "aab", false, 2, spans("2-3"), impl.OK},
		{`"b"`, "aab", false, 1, nil, impl.ErrSteps},
		{`"b"`, "aab", true, 0, nil, impl.OK},
		{`"b"`, "bab", true, 2, spans("0-1"), impl.OK},
		{`"b"`, "bab", false, 4, spans("0-1 2-3"), impl.OK},
		{`"b"`, "bab", false, 3, nil, impl.ErrSteps},
		{`"c"`, "aab", false, 0, nil, impl.OK},
		{"fail", "aab", false, 0, nil, impl.OK},
		{`""`, "", false, 2, spans("0-0"), impl.OK},
		{`""`, "", false, 1, nil, impl.ErrSteps},
		{`""`, "ab", false, 6, spans("0-0 1-1 2-2"), impl.OK},
		{`""`, "ab", false, 5, nil, impl.ErrSteps},
		{`alt("","a")`, "a", false, 9, spans("0-0 0-1 1-1"), impl.OK},
		{"arb", "ab", false, 9, spans("0-0 0-1 0-2 1-1 1-2 2-2"), impl.OK},
		{`cat("b",len(1))`, "abbab", false, 8, spans("1-3 2-4"), impl.OK},
		{`cat("b",len(1))`, "abbab", false, 7, nil, impl.ErrSteps},
		{"defer(x)", "cab", false, 100, spans("1-2"), impl.OK},
		{"defer(x)", "cba", false, 100, spans("1-3 2-3"), impl.OK},
		{`cat(cond(len(1),v),"b")`, "cab", false, 100, []impl.Match{matched(1, 3, cond("v", "a", 2))}, impl.OK},
		// A reference that cannot match is not followed.
		{"defer(never)", "aaa", false, 0, nil, impl.OK},
		{"alt(defer(left),rem)", "", true, 20000, nil, impl.ErrSteps},
		{"defer(left)", "bbb", false, 0, nil, impl.OK},
		{"defer(left)", "a", false, 20000, nil, impl.ErrSteps},
		// These are not pure, so that all start cursors are tried.
		{`now("b",v)`, "aab", false, 8, nil, impl.ErrSteps},
		{`now("b",v)`, "aab", false, 9, []impl.Match{matched(2, 3, now("v", "b", 3))}, impl.OK},
		{`cat(cursor(v),"b")`, "ab", false, 100, []impl.Match{matched(1, 2, cursor("v", 0), cursor("v", 1))}, impl.OK},
		{`alt("b",abort)`, "ab", false, 100, nil, impl.OK},
		{`alt("b",abort)`, "ba", false, 100, spans("0-1"), impl.OK},
		{`cat(fence,"b")`, "ab", false, 100, nil, impl.OK},
		{`cat(fence,"b")`, "ba", false, 100, spans("0-1"), impl.OK},
		{"cat(succeed,abort)", "a", false, 100, nil, impl.OK},
		{"defer(q)", "a", false, 100, nil, impl.ErrUndefined},
		{"defer(open)", "a", false, 100, nil, impl.ErrUndefined},
		{"defer(open)", "a", false, 1, nil, impl.ErrSteps},
		{`cat("b",defer(q))`, "aab", false, 8, nil, impl.ErrUndefined},
		{`cat("b",defer(q))`, "aaa", false, 8, nil, impl.OK},
		{"cat(fail,defer(q))", "a", false, 4, nil, impl.OK},
	} {
		checkPruned(t, "row", env, readPattern(t, row.pattern), row.subject, row.anchored, row.fuel, row.want, row.code)
	}
}

func TestPrunedFirst(t *testing.T) {
	env := named(t, "x", `alt("a",cat("b",defer(x)))`, "never", `cat("a",defer(never))`, "par", `alt("a",cat("(",cat(defer(par),")")))`, "open", "defer(q)")
	for _, row := range []struct {
		pattern, subject string
		anchored         bool
		want             firstResult
	}{
		{`"b"`, "aab", false, firstResult{matched(2, 3), true, 2, impl.OK}},
		{`"b"`, "aab", true, firstResult{}},
		{`"x"`, "aab", false, firstResult{}},
		{"fail", "aab", false, firstResult{}},
		{`"ab"`, "aab", false, firstResult{matched(1, 3), true, 3, impl.OK}},
		{`"ab"`, "aaa", false, firstResult{steps: 2}},
		{`"ab"`, "aaa", true, firstResult{steps: 1}},
		{`""`, "", false, firstResult{matched(0, 0), true, 2, impl.OK}},
		{"rpos(0)", "aab", false, firstResult{matched(3, 3), true, 5, impl.OK}},
		{"pos(1)", "aab", true, firstResult{steps: 1}},
		{"arb", "ab", false, firstResult{matched(0, 0), true, 2, impl.OK}},
		{"cat(arb,rpos(0))", "ab", true, firstResult{matched(0, 2), true, 6, impl.OK}},
		{`alt("","a")`, "a", true, firstResult{matched(0, 0), true, 3, impl.OK}},
		{`cat(arbno("a"),"b")`, "caab", false, firstResult{matched(1, 4), true, 10, impl.OK}},
		{"defer(par)", "((a)", false, firstResult{matched(1, 4), true, 30, impl.OK}},
		{"defer(par)", "))(a)", false, firstResult{matched(2, 5), true, 11, impl.OK}},
		{"defer(never)", "aaa", false, firstResult{}},
		{`alt(rem,defer(x))`, "ab", false, firstResult{matched(0, 2), true, 3, impl.OK}},
		{`cat(cond(len(1),v),"b")`, "acb", false, firstResult{matched(1, 3, cond("v", "c", 2)), true, 9, impl.OK}},
		{`cat(cond(len(1),v),"b")`, "ac", false, firstResult{steps: 4}},
		// These are not pure.
		{`cat(now(len(1),v),"b")`, "aab", false, firstResult{matched(1, 3, now("v", "a", 1), now("v", "a", 2)), true, 9, impl.OK}},
		{`cat(now(len(1),v),"b")`, "ac", false, firstResult{matched(0, 0, now("v", "a", 1), now("v", "c", 2)), false, 11, impl.OK}},
		{"abort", "aab", false, firstResult{steps: 1}},
		{"cat(cursor(v),abort)", "ab", false, firstResult{matched(0, 0, cursor("v", 0)), false, 3, impl.OK}},
		{`cat(fence,"b")`, "ab", false, firstResult{steps: 3}},
		{`cat(succeed,"b")`, "ab", false, firstResult{code: impl.ErrSteps}},
		{"succeed", "ab", false, firstResult{matched(0, 0), true, 2, impl.OK}},
		{"alt(rem,defer(q))", "ab", false, firstResult{matched(0, 2), true, 3, impl.OK}},
		{"defer(open)", "ab", false, firstResult{code: impl.ErrUndefined}},
		{`cat("b",defer(q))`, "ab", false, firstResult{code: impl.ErrUndefined}},
		{`cat("b",defer(q))`, "aa", false, firstResult{steps: 6}},
	} {
		p := readPattern(t, row.pattern)
		checkPrunedFirst(t, "much fuel", env, p, row.subject, row.anchored, 20000, row.want)
		if row.want.code == impl.OK {
			checkPrunedFirst(t, "exactly enough fuel", env, p, row.subject, row.anchored, row.want.steps, row.want)
		}
		if row.want.steps > 0 {
			checkPrunedFirst(t, "one step less", env, p, row.subject, row.anchored, row.want.steps-1, firstResult{code: impl.ErrSteps})
		}
	}
}

// TestErrorsOfPrunedMatching has the errors in their order, for patterns with and without candidates.
func TestErrorsOfPrunedMatching(t *testing.T) {
	rem, fail, gone, long := bare(impl.PtRem), bare(impl.PtFail), texted(impl.PtDefer, "q"), strings.Repeat("a", 201)
	badNumbers := []int64{math.MinInt64, -1 << 32, -1, 20001, 1<<32 + 5, math.MaxInt64}
	check := func(what string, env []impl.Named, p impl.Pattern, subject string, fuel, code int64) {
		t.Helper()
		for _, anchored := range []bool{true, false} {
			checkPrunedFirst(t, what, env, p, subject, anchored, fuel, firstResult{code: code})
			checkPruned(t, what, env, p, subject, anchored, fuel, nil, code)
		}
	}
	for _, fuel := range append(slices.Clone(badNumbers), 0, 1, 20000) {
		for i, env := range invalidEnvs() {
			check(fmt.Sprint("invalid environment ", i), env, rem, "ab", fuel, impl.ErrInvalid)
			check(fmt.Sprint("undefined name in the invalid environment ", i), env, gone, long, fuel, impl.ErrInvalid)
		}
		for i, p := range invalidPatterns() {
			check(fmt.Sprint("invalid pattern ", i), nil, p, "ab", fuel, impl.ErrInvalid)
		}
		for _, p := range []impl.Pattern{rem, fail, gone, bare(impl.PtFence), texted(impl.PtString, "a")} {
			check("long subject", nil, p, long, fuel, impl.ErrInvalid)
			check("very long subject", nil, p, strings.Repeat("a", 1000000), fuel, impl.ErrInvalid)
		}
	}
	for _, fuel := range badNumbers {
		for _, p := range []impl.Pattern{rem, fail, gone, bare(impl.PtSucceed), bare(impl.PtAbort), texted(impl.PtString, "b")} {
			check("fuel", nil, p, "aa", fuel, impl.ErrRange)
		}
	}
	check("no fuel", nil, rem, "aa", 0, impl.ErrSteps)
	check("no fuel for the end", nil, rem, "aa", 1, impl.ErrSteps)
	check("no fuel for the name", nil, gone, "aa", 0, impl.ErrSteps)
	check("fuel for the name", nil, gone, "aa", 1, impl.ErrUndefined)
	check("no candidates, no fuel", nil, fail, "aa", 0, impl.OK)
}

// TestLimitsOfPrunedMatching has MaxMatches, MaxString, MaxNamed, MaxNodes, MaxMatchSteps and MaxCaptures reached exactly and exceeded by one.
func TestLimitsOfPrunedMatching(t *testing.T) {
	rem, arb, full := bare(impl.PtRem), bare(impl.PtArb), strings.Repeat("a", 200)
	var ends []impl.Match
	for end := range int64(60) {
		ends = append(ends, matched(0, end))
	}
	checkPruned(t, "MaxMatches", nil, arb, full[:59], true, 20000, ends, impl.OK)
	checkPruned(t, "MaxMatches with the fuel that they need", nil, arb, full[:59], true, 61, ends, impl.OK)
	checkPruned(t, "MaxMatches with less fuel", nil, arb, full[:59], true, 60, nil, impl.ErrSteps)
	checkPruned(t, "one more", nil, arb, full[:60], true, 20000, ends, impl.ErrFull)
	checkPruned(t, "one more, with fuel for it", nil, arb, full[:60], true, 62, ends, impl.ErrFull)
	checkPruned(t, "one more, without fuel for it", nil, arb, full[:60], true, 61, nil, impl.ErrSteps)
	checkPruned(t, "MaxMatches at the start cursors", nil, rem, full[:59], false, 20000, rests(60, 59), impl.OK)
	checkPruned(t, "one more start cursor", nil, rem, full[:60], false, 20000, rests(60, 60), impl.ErrFull)
	span := readPattern(t, `span("a")`)
	var spread []impl.Match
	for start := range int64(60) {
		spread = append(spread, matched(3*start, 3*start+1))
	}
	checkPruned(t, "MaxMatches at the candidates", nil, span, strings.Repeat("abb", 60), false, 120, spread, impl.OK)
	checkPruned(t, "one candidate more", nil, span, strings.Repeat("abb", 60)+"a", false, 122, spread, impl.ErrFull)
	checkPruned(t, "one candidate more, without fuel for it", nil, span, strings.Repeat("abb", 60)+"a", false, 121, nil, impl.ErrSteps)
	checkPruned(t, "not pure", nil, bare(impl.PtSucceed), "", false, 20000, slices.Repeat(spans("0-0"), 60), impl.ErrFull)

	checkPruned(t, "MaxString", nil, rem, full, true, 2, spans("0-200"), impl.OK)
	checkPrunedFirst(t, "MaxString", nil, numbered(impl.PtLen, 200), full, false, 2, firstResult{matched(0, 200), true, 2, impl.OK})
	checkPrunedFirst(t, "one byte more", nil, rem, full+"a", true, 2, firstResult{code: impl.ErrInvalid})
	many := envOf(rem, numberedNames(40)...)
	checkPruned(t, "MaxNamed", many, texted(impl.PtDefer, "n39"), "ab", true, 3, spans("0-2"), impl.OK)
	checkPrunedFirst(t, "MaxNamed", many, texted(impl.PtDefer, "n39"), "ab", true, 3, firstResult{matched(0, 2), true, 3, impl.OK})
	checkPruned(t, "one name more", envOf(rem, numberedNames(41)...), rem, "ab", true, 3, nil, impl.ErrInvalid)
	checkPruned(t, "MaxNodes", nil, stacked(59, rem), "", true, 100, spans("0-0"), impl.OK)
	checkPruned(t, "one node more", nil, stacked(60, rem), "", true, 100, nil, impl.ErrInvalid)

	subject := full[:196]
	for _, row := range []struct{ last, steps, code int64 }{{102, 19999, impl.OK}, {101, 20000, impl.OK}, {100, 20000, impl.ErrSteps}} {
		// The last kid keeps the pattern from being one that cannot match.
		p := readPattern(t, fmt.Sprintf("alt(cat(arb,cat(arb,pos(200))),cat(len(%d),cat(arb,pos(200))))", row.last))
		want := firstResult{steps: row.steps}
		if row.code != impl.OK {
			want = firstResult{code: row.code}
		}
		checkPruned(t, "MaxMatchSteps", nil, p, subject, true, 20000, nil, row.code)
		checkPrunedFirst(t, "MaxMatchSteps", nil, p, subject, true, 20000, want)
		checkPruned(t, "one less", nil, p, subject, true, row.steps-1, nil, impl.ErrSteps)
		checkPrunedFirst(t, "one less", nil, p, subject, true, row.steps-1, firstResult{code: impl.ErrSteps})
	}
	for _, n := range []int{99, 100, 101} {
		for _, text := range []string{"cat(arbno(cond(len(1),x)),rpos(0))", "cat(arbno(now(len(1),x)),rpos(0))", "cat(arbno(cat(len(1),cursor(x))),rpos(0))"} {
			p := readPattern(t, text)
			want, code := impl.MatchesOf(nil, p, full[:n], true, 20000)
			checkEqual(t, text, code, map[bool]int64{true: impl.OK, false: impl.ErrFull}[n <= 100])
			checkPruned(t, "MaxCaptures", nil, p, full[:n], true, 20000, want, code)
			first := firstResult{code: code}
			if code == impl.OK {
				checkEqual(t, "captures", len(want[0].Captures), n)
				first = firstResult{want[0], true, prunedFirst(nil, p, full[:n], true, 20000).steps, impl.OK}
			}
			checkPrunedFirst(t, "MaxCaptures", nil, p, full[:n], true, 20000, first)
		}
	}
	// What is captured at a cursor that is not tried cannot exceed the limit.
	p := readPattern(t, `cat(alt(cat(any("b"),cat(arbno(cond(any("a"),x)),"c")),"b"),rpos(0))`)
	checkPruned(t, "captures at no candidate", nil, p, full[:150]+"b", false, 20000, spans("150-151"), impl.OK)
	checkPruned(t, "captures at a candidate", nil, p, "b"+full[:150]+"b", false, 20000, nil, impl.ErrFull)
	checkPrunedFirst(t, "captures at a candidate", nil, p, "b"+full[:150]+"b", false, 20000, firstResult{code: impl.ErrFull})
}

func TestSimplifyPattern(t *testing.T) {
	for _, row := range []struct{ from, to string }{
		{"len(0)", `""`},
		{"len(1)", "len(1)"},
		{`""`, `""`},
		{"rem", "rem"},
		{"tab(0)", "tab(0)"},
		{"rtab(200)", "rtab(200)"},
		{"pos(0)", "pos(0)"},
		{`any("a")`, `any("a")`},
		{"defer(x)", "defer(x)"},
		{"cursor(x)", "cursor(x)"},

		{`cat("",rem)`, "rem"},
		{`cat(rem,"")`, "rem"},
		{`cat("","")`, `""`},
		{"cat(len(0),len(0))", `""`},
		{"cat(len(0),len(1))", "len(1)"},
		{"cat(len(1),len(2))", "cat(len(1),len(2))"},
		{`cat("a","b")`, `"ab"`},
		{`cat("b",cat("a",rem))`, `cat("ba",rem)`},
		{`cat("a",cat(rem,"b"))`, `cat("a",cat(rem,"b"))`},
		{`cat(cat(rem,"a"),"b")`, `cat(rem,"ab")`},
		{`cat(cat("a",rem),"b")`, `cat("a",cat(rem,"b"))`},
		{`cat(cat("a",rem),cat("b",rem))`, `cat("a",cat(rem,cat("b",rem)))`},
		{`cat(cat(rem,"a"),cat("b",rem))`, `cat(rem,cat("ab",rem))`},
		{`cat(cat(cat(arb,"a"),"b"),cat("c",cat("d",bal)))`, `cat(arb,cat("abcd",bal))`},
		{`cat(cat(cat("a","b"),"c"),"d")`, `"abcd"`},
		{`cat("a",cat("b",cat("c","d")))`, `"abcd"`},
		{`cat(cat("a","b"),cat("c","d"))`, `"abcd"`},
		{"cat(cat(cat(arb,bal),rem),pos(1))", "cat(arb,cat(bal,cat(rem,pos(1))))"},
		{"cat(arb,cat(bal,cat(rem,pos(1))))", "cat(arb,cat(bal,cat(rem,pos(1))))"},
		{"cat(cat(arb,bal),cat(rem,pos(1)))", "cat(arb,cat(bal,cat(rem,pos(1))))"},
		{`cat(cat(arb,""),cat("",bal))`, "cat(arb,bal)"},
		{`cat(cat("",arb),cat(bal,""))`, "cat(arb,bal)"},
		{`cat(alt("a","b"),"c")`, `cat(alt("a","b"),"c")`},
		{`cat(cond("a",x),cond("b",x))`, `cat(cond("a",x),cond("b",x))`},
		{`cat("a",any("b"))`, `cat("a",any("b"))`},
		{`cat(any("a"),"b")`, `cat(any("a"),"b")`},
		{`cat("a",cat(any("b"),"c"))`, `cat("a",cat(any("b"),"c"))`},
		{`cat(arbno(""),"a")`, `"a"`},

		{"cat(fail,arb)", "fail"},
		{"cat(abort,arb)", "abort"},
		{`cat(fail,"")`, "fail"},
		{`cat(abort,"")`, "abort"},
		{`cat("",fail)`, "fail"},
		{`cat("",abort)`, "abort"},
		{"cat(fail,abort)", "fail"},
		{"cat(abort,fail)", "abort"},
		{"cat(arb,fail)", "cat(arb,fail)"},
		{"cat(arb,abort)", "cat(arb,abort)"},
		{`cat("a",fail)`, `cat("a",fail)`},
		{"cat(cat(arb,fail),bal)", "cat(arb,fail)"},
		{"cat(cat(arb,abort),bal)", "cat(arb,abort)"},
		{"cat(arb,cat(fail,bal))", "cat(arb,fail)"},
		{`cat(cat("a",fail),"b")`, `cat("a",fail)`},
		{`cat("b",cat("a",fail))`, `cat("ba",fail)`},
		{"cat(succeed,arb)", "cat(succeed,arb)"},
		{"cat(fence,arb)", "cat(fence,arb)"},

		{"alt(fail,rem)", "rem"},
		{"alt(rem,fail)", "rem"},
		{"alt(fail,fail)", "fail"},
		{"alt(abort,rem)", "abort"},
		{"alt(rem,abort)", "alt(rem,abort)"},
		{"alt(fail,abort)", "abort"},
		{"alt(abort,fail)", "abort"},
		{"alt(abort,abort)", "abort"},
		{`alt("a","b")`, `alt("a","b")`},
		{`alt("a","a")`, `alt("a","a")`},
		{`alt("","a")`, `alt("","a")`},
		{`alt("a","")`, `alt("a","")`},
		{`alt("","")`, `alt("","")`},
		{`alt(alt("a","b"),"c")`, `alt("a",alt("b","c"))`},
		{`alt("a",alt("b","c"))`, `alt("a",alt("b","c"))`},
		{`alt(alt("a","b"),alt("c","d"))`, `alt("a",alt("b",alt("c","d")))`},
		{`alt(alt(alt("a","b"),"c"),"d")`, `alt("a",alt("b",alt("c","d")))`},
		{`alt(alt("a",fail),"c")`, `alt("a","c")`},
		{`alt(alt(fail,"a"),alt("c",fail))`, `alt("a","c")`},
		{"alt(alt(fail,fail),alt(fail,fail))", "fail"},
		{`alt(alt("a",abort),"c")`, `alt("a",abort)`},
		{`alt(alt("a",abort),alt("c","d"))`, `alt("a",abort)`},
		{`alt("a",alt(abort,"c"))`, `alt("a",abort)`},
		{`alt("a",alt("b",abort))`, `alt("a",alt("b",abort))`},
		{`alt(alt("a",alt("b",abort)),"c")`, `alt("a",alt("b",abort))`},
		{`alt(cat(fail,rem),"a")`, `"a"`},
		{"alt(cat(arb,fail),rem)", "alt(cat(arb,fail),rem)"},
		{`alt(succeed,"a")`, `alt(succeed,"a")`},
		{"alt(cat(cat(arb,bal),rem),cat(fail,rem))", "cat(arb,cat(bal,rem))"},
		{"cat(alt(alt(arb,bal),rem),alt(fail,rem))", "cat(alt(arb,alt(bal,rem)),rem)"},

		{"arbno(fail)", `""`},
		{`arbno("")`, `""`},
		{"arbno(len(0))", `""`},
		{"arbno(abort)", "arbno(abort)"},
		{`arbno("a")`, `arbno("a")`},
		{"arbno(arbno(fail))", `""`},
		{"arbno(arbno(rem))", "arbno(arbno(rem))"},
		{"arbno(cat(fail,arb))", `""`},
		{"arbno(cat(arb,fail))", "arbno(cat(arb,fail))"},
		{"arbno(alt(fail,fail))", `""`},
		{"arbno(pos(0))", "arbno(pos(0))"},
		{`arbno(cat("a","b"))`, `arbno("ab")`},
		{"cond(fail,x)", "fail"},
		{"cond(abort,x)", "abort"},
		{"now(fail,x)", "fail"},
		{"now(abort,x)", "abort"},
		{`cond("",x)`, `cond("",x)`},
		{`now(len(0),x)`, `now("",x)`},
		{`cond(cat("a","b"),x)`, `cond("ab",x)`},
		{"cond(now(cond(cat(fail,rem),x),y),z)", "fail"},
		{"cond(alt(abort,rem),x)", "abort"},
		{"arbno(cond(fail,x))", `""`},
		{"cat(cond(fail,x),rem)", "fail"},
		{"alt(now(fail,x),rem)", "rem"},
		{"cond(cat(arb,fail),x)", "cond(cat(arb,fail),x)"},
		{"cond(alt(rem,abort),x)", "cond(alt(rem,abort),x)"},
	} {
		p, want := readPattern(t, row.from), readPattern(t, row.to)
		checkSimple(t, "row", p, want)
		checkSimple(t, "simplified twice", want, want)
	}
	checkSimple(t, "MaxNodes", stacked(59, bare(impl.PtRem)), stacked(59, bare(impl.PtRem)))
	checkSimple(t, "MaxNodes", stacked(59, bare(impl.PtFail)), texted(impl.PtString, ""))
	checkSimple(t, "one node more", stacked(60, bare(impl.PtFail)), impl.Pattern{})
	rem := bare(impl.PtRem)
	left := leftChain(rem, 30)
	right, _ := impl.AltOf(slices.Repeat([]impl.Pattern{rem}, 30))
	checkSimple(t, "30 alternatives on the left", left, right)
	checkSimple(t, "30 alternatives on the right", right, right)
}

// TestStringsThatBecomeOne has strings of MaxString bytes together, and one more.
func TestStringsThatBecomeOne(t *testing.T) {
	str := func(b string, n int) impl.Pattern { return texted(impl.PtString, strings.Repeat(b, n)) }
	cat := func(a, b impl.Pattern) impl.Pattern { return tree(impl.PtCat, a, b) }
	both := func(a, b impl.Pattern) impl.Pattern { return texted(impl.PtString, a.Text+b.Text) }
	rem := bare(impl.PtRem)
	for _, n := range []int{1, 99, 100, 199} {
		a, fits, more := str("a", n), str("b", 200-n), str("b", 201-n)
		for _, row := range []struct{ from, to impl.Pattern }{
			{cat(a, fits), both(a, fits)},
			{cat(a, more), cat(a, more)},
			{cat(a, cat(fits, rem)), cat(both(a, fits), rem)},
			{cat(a, cat(more, rem)), cat(a, cat(more, rem))},
			{cat(cat(rem, a), fits), cat(rem, both(a, fits))},
			{cat(cat(rem, a), more), cat(rem, cat(a, more))},
			{cat(cat(rem, a), cat(fits, rem)), cat(rem, cat(both(a, fits), rem))},
			{cat(cat(rem, a), cat(more, rem)), cat(rem, cat(a, cat(more, rem)))},
			{cat(cat(a, rem), more), cat(a, cat(rem, more))},
			// What is further right becomes one first.
			{cat(cat(a, fits), str("c", 1)), cat(both(a, fits), str("c", 1))},
			{cat(a, cat(fits, str("c", 1))), cat(a, both(fits, str("c", 1)))},
			{cat(str("c", 1), cat(a, more)), cat(both(str("c", 1), a), more)},
			{cat(cat(str("c", 1), a), more), cat(both(str("c", 1), a), more)},
			{cat(str("c", 200), cat(a, more)), cat(str("c", 200), cat(a, more))},
			{cat(cat(a, more), str("c", 200)), cat(a, cat(more, str("c", 200)))},
		} {
			checkSimple(t, fmt.Sprint("strings of ", n), row.from, row.to)
			checkSimple(t, "simplified twice", row.to, row.to)
		}
		checkJoin(t, "MaxString", a, fits, both(a, fits), true)
		checkJoin(t, "one byte more", a, more, cat(a, more), true)
		checkJoin(t, "MaxString in a concatenation", cat(rem, a), cat(fits, rem), cat(rem, cat(both(a, fits), rem)), true)
		checkJoin(t, "one byte more in a concatenation", cat(rem, a), cat(more, rem), cat(rem, cat(a, cat(more, rem))), true)
	}
	checkSimple(t, "two of MaxString", cat(str("a", 200), str("b", 200)), cat(str("a", 200), str("b", 200)))
	checkSimple(t, "MaxString and none", cat(str("a", 200), str("b", 0)), str("a", 200))
	checkSimple(t, "none and MaxString", cat(str("a", 0), str("b", 200)), str("b", 200))
	single := slices.Repeat([]impl.Pattern{str("a", 7)}, 30)
	chain, _ := impl.CatOf(single)
	checkSimple(t, "30 strings of 7 bytes", chain, cat(str("a", 14), str("a", 196)))
}

func TestJoinPatterns(t *testing.T) {
	for _, row := range []struct{ a, b, want string }{
		{`"a"`, `cat("b",rem)`, `cat("ab",rem)`},
		{`""`, "rem", "rem"},
		{"rem", `""`, "rem"},
		{`""`, `""`, `""`},
		{"len(0)", "len(0)", `""`},
		{"fail", "rem", "fail"},
		{"abort", "rem", "abort"},
		{"rem", "fail", "cat(rem,fail)"},
		{"rem", "abort", "cat(rem,abort)"},
		{`""`, "abort", "abort"},
		{"fail", `""`, "fail"},
		{"rem", "rem", "cat(rem,rem)"},
		{"cat(arb,bal)", "cat(rem,pos(1))", "cat(arb,cat(bal,cat(rem,pos(1))))"},
		{"cat(cat(arb,bal),rem)", "pos(1)", "cat(arb,cat(bal,cat(rem,pos(1))))"},
		{"cat(arb,fail)", "rem", "cat(arb,fail)"},
		{`cat(arb,cat("a",""))`, `cat("",cat("b","c"))`, `cat(arb,"abc")`},
		{"alt(fail,arb)", "alt(bal,fail)", "cat(arb,bal)"},
		{"alt(arb,bal)", "alt(rem,fail)", "cat(alt(arb,bal),rem)"},
		{"cond(fail,x)", "defer(q)", "fail"},
		{"arbno(fail)", "defer(q)", "defer(q)"},
		{`cond("a",x)`, `"b"`, `cat(cond("a",x),"b")`},
	} {
		checkJoin(t, row.a+" and "+row.b, readPattern(t, row.a), readPattern(t, row.b), readPattern(t, row.want), true)
	}
}

// TestNodesOfJoinedPatterns has results with exactly MaxNodes nodes, and one more.
func TestNodesOfJoinedPatterns(t *testing.T) {
	rem, fail, empty, a, b := bare(impl.PtRem), bare(impl.PtFail), texted(impl.PtString, ""), texted(impl.PtString, "a"), texted(impl.PtString, "b")
	cat := func(x, y impl.Pattern) impl.Pattern { return tree(impl.PtCat, x, y) }
	none := impl.Pattern{}
	for _, n := range []int{0, 1, 28, 29, 56, 57} {
		x, y := stacked(n, rem), stacked(57-n, rem)
		checkJoin(t, "60 nodes", x, y, cat(x, y), true)
		checkJoin(t, "60 nodes", y, x, cat(y, x), true)
		checkJoin(t, "61 nodes", stacked(1, x), y, none, false)
		checkJoin(t, "61 nodes", x, stacked(1, y), none, false)
	}
	most, less := stacked(59, rem), cat(stacked(57, rem), a)
	checkJoin(t, "60 nodes and the empty string", most, empty, most, true)
	checkJoin(t, "the empty string and 60 nodes", empty, most, most, true)
	checkJoin(t, "fail and 60 nodes", fail, most, fail, true)
	checkJoin(t, "60 nodes and fail", most, fail, none, false)
	checkJoin(t, "60 nodes twice", most, most, none, false)
	checkJoin(t, "60 nodes before a string", less, b, cat(stacked(57, rem), texted(impl.PtString, "ab")), true)
	checkJoin(t, "60 nodes before another pattern", less, rem, none, false)
	checkJoin(t, "a string before 60 nodes", b, cat(a, stacked(57, rem)), cat(texted(impl.PtString, "ba"), stacked(57, rem)), true)
	checkJoin(t, "another pattern before 60 nodes", rem, cat(a, stacked(57, rem)), none, false)
	checkJoin(t, "60 nodes that become one", stacked(59, fail), most, most, true)
	checkJoin(t, "60 nodes that become fewer", leftChain(fail, 30), most, fail, true)
	checkJoin(t, "61 nodes", stacked(60, rem), empty, none, false)
	checkJoin(t, "61 nodes behind fail", fail, stacked(60, rem), none, false)
	chain, _ := impl.CatOf(slices.Repeat([]impl.Pattern{rem}, 30))
	checkJoin(t, "59 nodes and one", chain, rem, none, false)
	shorter, _ := impl.CatOf(slices.Repeat([]impl.Pattern{rem}, 15))
	checkJoin(t, "29 nodes twice", shorter, shorter, chain, true)
	checkJoin(t, "29 and 30 nodes", shorter, stacked(1, shorter), longerChain(shorter, stacked(1, shorter)), true)
	checkJoin(t, "29 and 31 nodes", shorter, stacked(2, shorter), none, false)
}

// longerChain returns a chain that is associated to the right and then has one element more.
func longerChain(chain, last impl.Pattern) impl.Pattern {
	if chain.Kind != impl.PtCat {
		return tree(impl.PtCat, chain, last)
	}
	return tree(impl.PtCat, chain.Kids[0], longerChain(chain.Kids[1], last))
}
