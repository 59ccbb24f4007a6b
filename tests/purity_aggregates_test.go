package tests

import (
	"fmt"
	"math"
	"slices"
	"strings"
	"sync"
	"testing"

	"loop.example/g00873/impl"
)

// The tests of this file, and those of purity_heap_test.go, are promise 1 for
// the functions of chapters 9 and 10.

// valueAt returns a value that refers to the object of a heap with a number, and if there is none, one that does not fit.
func valueAt(h impl.Heap, id int64) impl.Value {
	for _, o := range h.Objects {
		if o.Id == id && o.Kind >= impl.ObArray && o.Kind <= impl.ObRecord {
			return referenceTo(o)
		}
	}
	return arrayRef(id)
}

// anyRoot returns the last root of a case, and the null value if there is none.
func anyRoot(c heapCase) impl.Value {
	return append([]impl.Value{stringOf("")}, c.roots...)[len(c.roots)]
}

// textsOf returns the texts of some values.
func textsOf(list []impl.Value) []string {
	var texts []string
	for _, v := range list {
		texts = append(texts, v.Text)
	}
	return texts
}

// aggregateFunctions are all functions of chapter 9, with numbers for the arguments that a case does not have.
func aggregateFunctions() map[string]func(c heapCase, n int64) heapResult {
	return map[string]func(c heapCase, n int64) heapResult{
		"NewArray": func(c heapCase, n int64) heapResult {
			heap, v, code := impl.NewArray(c.h, n, n, anyRoot(c))
			return heapResult{heap: heap, rest: fmt.Sprint(v, code)}
		},
		"NewTable": func(c heapCase, n int64) heapResult {
			c.h.Next += n
			heap, v, code := impl.NewTable(c.h, anyRoot(c))
			return heapResult{heap: heap, rest: fmt.Sprint(v, code)}
		},
		"NewRecord": func(c heapCase, n int64) heapResult {
			c.h.Next += n
			heap, v, code := impl.NewRecord(c.h, c.o.Name, textsOf(c.o.Keys), c.o.Vals)
			return heapResult{heap: heap, rest: fmt.Sprint(v, code)}
		},
		"NewRecord 2": func(c heapCase, n int64) heapResult {
			heap, v, code := impl.NewRecord(c.h, "R", []string{"A", "B", "C"}, c.roots)
			return heapResult{heap: heap, rest: fmt.Sprint(v, code)}
		},
		"GetElement": func(c heapCase, n int64) heapResult {
			v, found, code := impl.GetElement(c.h, valueAt(c.h, n), integerOf(n))
			w, foundToo, codeToo := impl.GetElement(c.h, anyRoot(c), anyRoot(c))
			return heapResult{rest: fmt.Sprint(v, found, code, w, foundToo, codeToo)}
		},
		"SetElement": func(c heapCase, n int64) heapResult {
			heap, succeeded, code := impl.SetElement(c.h, valueAt(c.h, n), integerOf(n), anyRoot(c))
			return heapResult{heap: heap, rest: fmt.Sprint(succeeded, code)}
		},
		"SetElement 2": func(c heapCase, n int64) heapResult {
			heap, succeeded, code := impl.SetElement(c.h, valueAt(c.h, n), anyRoot(c), integerOf(n))
			return heapResult{heap: heap, rest: fmt.Sprint(succeeded, code)}
		},
		"GetField": func(c heapCase, n int64) heapResult {
			v, code := impl.GetField(c.h, valueAt(c.h, n), "B")
			w, codeToo := impl.GetField(c.h, anyRoot(c), c.o.Name)
			return heapResult{rest: fmt.Sprint(v, code, w, codeToo)}
		},
		"SetField": func(c heapCase, n int64) heapResult {
			heap, code := impl.SetField(c.h, valueAt(c.h, n), "B", anyRoot(c))
			return heapResult{heap: heap, rest: fmt.Sprint(code)}
		},
		"SizeOf": func(c heapCase, n int64) heapResult {
			size, code := impl.SizeOf(c.h, valueAt(c.h, n))
			return heapResult{rest: fmt.Sprint(size, code)}
		},
		"PairsOf": func(c heapCase, n int64) heapResult {
			return heapResult{values: impl.PairsOf(c.h, valueAt(c.h, n))}
		},
		"CopyObject": func(c heapCase, n int64) heapResult {
			heap, v, code := impl.CopyObject(c.h, valueAt(c.h, n))
			return heapResult{heap: heap, rest: fmt.Sprint(v, code)}
		},
	}
}

// TestFieldListsAreKept calls NewRecord with lists of fields that have unused capacity.
func TestFieldListsAreKept(t *testing.T) {
	one := integerOf(1)
	for _, fields := range [][]string{nil, {"A"}, {"A", "B"}, {"A", "A"}, {"A", "1"}, {"A", "B", "C", "D", "E", "F"}, {"A", "B", "C", "D", "E", "F", "G"}} {
		for _, vals := range [][]impl.Value{nil, {one}, {one, one, one}, {{}}} {
			for _, h := range []impl.Heap{{}, exampleHeap(), fullHeap(), heapWith(-1)} {
				checkKeeps(t, "NewRecord", fields, "unused", func(fields []string) string { return fmt.Sprint(impl.NewRecord(h, "R", fields, vals)) })
			}
		}
	}
}

// TestFailuresOfAggregates checks that nothing but the code is left of a call that returns an error.
func TestFailuresOfAggregates(t *testing.T) {
	codes := map[int64]int{}
	check := func(what string, r aggregateResult) {
		codes[r.code]++
		if r.code != impl.OK {
			checkResult(t, what, r, failed(r.code))
		}
	}
	for _, c := range heapCases() {
		for _, n := range caseNumbers() {
			v, x := valueAt(c.h, n), anyRoot(c)
			check("NewArray", created(impl.NewArray(c.h, n, n, x)))
			check("NewTable", created(impl.NewTable(c.h, x)))
			check("NewRecord", created(impl.NewRecord(c.h, c.o.Name, textsOf(c.o.Keys), c.o.Vals)))
			check("GetElement", gotElement(impl.GetElement(c.h, v, x)))
			check("SetElement", setElement(impl.SetElement(c.h, v, x, x)))
			check("GetField", gotField(impl.GetField(c.h, v, "B")))
			check("SetField", setField(impl.SetField(c.h, v, "Z", x)))
			check("SizeOf", sized(impl.SizeOf(c.h, x)))
			check("CopyObject", created(impl.CopyObject(c.h, x)))
			// A failure that is no error has no value either.
			if y, found, _ := impl.GetElement(c.h, v, integerOf(n)); !found {
				checkEqual(t, "not found", y, impl.Value{})
			}
		}
	}
	for _, code := range []int64{impl.OK, impl.ErrInvalid, impl.ErrRange, impl.ErrType, impl.ErrNotFound, impl.ErrFull} {
		if codes[code] == 0 {
			t.Errorf("no call returned the code %d", code)
		}
	}
}

// someNumbers are operators and lengths, most of which there are not.
func someNumbers() []int64 {
	return []int64{math.MinInt64, -1 << 32, -1, 0, 1, 2, 6, 7, 8, 9, 10, 11, 12, 199, 200, 201, 1<<32 + 1, math.MaxInt64}
}

// conversionsOf returns the results of all functions of chapter 10 that have two values as arguments.
func conversionsOf(a, b impl.Value) string {
	var results strings.Builder
	for _, op := range someNumbers() {
		fmt.Fprint(&results, asComputed(impl.Arithmetic(op, a, b)), asJudged(impl.Compared(op, a, b)))
	}
	fmt.Fprint(&results, asComputed(impl.Concatenated(a, b)), asComputed(impl.Negated(a)), asNumber(impl.ToInteger(a)), asTextual(impl.ToText(b)))
	return results.String()
}

// TestConversionsWithAnyFields calls the functions of chapter 10 for values that need not be valid.
func TestConversionsWithAnyFields(t *testing.T) {
	list := manyValues()
	for i, v := range list {
		w := list[i*7919%len(list)]
		equal, equalToo := v, w
		equal.Text, equalToo.Text = strings.Clone(v.Text), strings.Clone(w.Text)
		if i%5 == 0 {
			checkEqual(t, "a second call", conversionsOf(equal, equalToo), conversionsOf(v, w))
		}
		isInvalid := !modelValid(v) || !modelValid(w)
		for _, code := range []int64{second(impl.Arithmetic(impl.ExAdd, v, w)), second(impl.Compared(impl.CmEq, v, w)), second(impl.Compared(impl.CmIdent, v, w)), second(impl.Concatenated(v, w))} {
			if (code == impl.ErrInvalid) != isInvalid {
				t.Errorf("the code %d for %.60q and %.60q", code, fmt.Sprint(v), fmt.Sprint(w))
			}
		}
	}
}

func second[T any](_ T, code int64) int64 {
	return code
}

// TestFailuresOfConversions checks that nothing but the code is left of a call that returns an error, and nothing at all with false.
func TestFailuresOfConversions(t *testing.T) {
	list := operands()
	for i, a := range list {
		for j, b := range list {
			if (i+j)%3 > 0 {
				continue
			}
			for _, op := range someNumbers() {
				v, code := impl.Arithmetic(op, a, b)
				holds, codeToo := impl.Compared(op, a, b)
				if code != impl.OK && v != (impl.Value{}) || codeToo != impl.OK && holds {
					t.Errorf("operator %d of %+v and %+v: %+v, %d, %t, %d", op, a, b, v, code, holds, codeToo)
				}
			}
			if v, code := impl.Concatenated(a, b); code != impl.OK && v != (impl.Value{}) {
				t.Errorf("%+v and %+v: %+v, %d", a, b, v, code)
			}
		}
	}
	for _, s := range strangeTexts() {
		for _, n := range someNumbers() {
			for _, left := range []bool{true, false} {
				if r := asTextual(impl.PadText(s, n, s[:min(len(s), int(max(n, 0)%3))], left)); !r.ok && r.s != "" {
					t.Errorf("PadText(%.60q, %d): %.60q", s, n, r.s)
				}
			}
		}
		if r := asTextual(impl.TranslateText(s, s, s[len(s)/2:])); r.ok != (len(s) == 1) || !r.ok && r.s != "" {
			t.Errorf("TranslateText(%.60q): %.60q, %t", s, r.s, r.ok)
		}
	}
}

// TestConversionsOfVeryLongTexts checks that no function takes longer than its arguments are long.
func TestConversionsOfVeryLongTexts(t *testing.T) {
	for _, piece := range []string{"0", "-", " ", "\xff", "ab"} {
		s := strings.Repeat(piece, 2000000)
		v := stringOf(s)
		checkEqual(t, "ToInteger", asNumber(impl.ToInteger(v)), number64{})
		checkEqual(t, "ToText", asTextual(impl.ToText(v)), textual{})
		checkEqual(t, "Concatenated", asComputed(impl.Concatenated(v, v)), computed{impl.Value{}, impl.ErrInvalid})
		checkEqual(t, "Arithmetic", asComputed(impl.Arithmetic(impl.ExAdd, integerOf(1), v)), computed{impl.Value{}, impl.ErrInvalid})
		checkEqual(t, "Compared", asJudged(impl.Compared(impl.CmLgt, v, integerOf(1))), judged{false, impl.ErrInvalid})
		checkEqual(t, "TrimText", len(impl.TrimText(s)), len(strings.TrimRight(s, " ")))
		checkEqual(t, "ReverseText", len(impl.ReverseText(s)), len(s))
		checkEqual(t, "TranslateText", asTextual(impl.TranslateText(s, s, s)), textual{s, true})
		checkEqual(t, "PadText", asTextual(impl.PadText(s, 200, "0", true)), textual{s, true})
	}
}

// TestConversionsDoNotDependOnOtherCalls runs the calls in several goroutines at the same time.
func TestConversionsDoNotDependOnOtherCalls(t *testing.T) {
	list := operands()
	var want []string
	for i, v := range list {
		want = append(want, conversionsOf(v, list[len(list)-1-i]))
	}
	var group sync.WaitGroup
	for range 4 {
		group.Go(func() {
			for i := range slices.Backward(list) {
				if conversionsOf(list[i], list[len(list)-1-i]) != want[i] {
					t.Errorf("another result for %.60q", fmt.Sprint(list[i]))
				}
			}
		})
	}
	group.Wait()
}
