package tests

import (
	"fmt"
	"math"
	"math/rand"
	"slices"
	"strings"
	"testing"

	"loop.example/g00873/impl"
)

// aggregateResult has what a function of chapter 9 returns: each of them returns some of this.
type aggregateResult struct {
	heap  impl.Heap
	v     impl.Value
	list  []impl.Value
	size  int64
	found bool
	code  int64
}

// created, gotElement, setElement, gotField, setField, sized and listed take the results of the functions.
func created(h impl.Heap, v impl.Value, code int64) aggregateResult {
	return aggregateResult{heap: h, v: v, code: code}
}

func gotElement(x impl.Value, found bool, code int64) aggregateResult {
	return aggregateResult{v: x, found: found, code: code}
}

func setElement(h impl.Heap, found bool, code int64) aggregateResult {
	return aggregateResult{heap: h, found: found, code: code}
}

func gotField(x impl.Value, code int64) aggregateResult {
	return aggregateResult{v: x, code: code}
}

func setField(h impl.Heap, code int64) aggregateResult {
	return aggregateResult{heap: h, code: code}
}

func sized(n, code int64) aggregateResult {
	return aggregateResult{size: n, code: code}
}

func listed(list []impl.Value) aggregateResult {
	return aggregateResult{list: list}
}

// failed returns the result of a call that returned an error.
func failed(code int64) aggregateResult {
	return aggregateResult{code: code}
}

func checkResult(t *testing.T, what string, got, want aggregateResult) {
	t.Helper()
	if !equalHeaps(got.heap, want.heap) || got.v != want.v || !slices.Equal(got.list, want.list) || got.size != want.size || got.found != want.found || got.code != want.code {
		t.Errorf("%s: got %.1000q, want %.1000q", what, fmt.Sprint(got), fmt.Sprint(want))
	}
}

// replaced returns a heap with another object in a place.
func replaced(h impl.Heap, at int, o impl.Object) impl.Heap {
	h = copyHeap(h)
	h.Objects[at] = o
	return h
}

// extended returns a heap with one more object.
func extended(h impl.Heap, o impl.Object) impl.Heap {
	h = copyHeap(h)
	h.Next++
	o.Id = h.Next
	h.Objects = append(h.Objects, o)
	return h
}

func TestAggregateExamples(t *testing.T) {
	h, a, code := impl.NewArray(impl.Heap{}, 1, 2, integerOf(7))
	checkResult(t, "an array of two elements", created(h, a, code), created(heapWith(1, arrayWith(1, integerOf(7), integerOf(7))), arrayRef(1), impl.OK))
	for index, found := range []bool{false, true, true, false} {
		want := gotElement(impl.Value{}, false, impl.OK)
		if found {
			want = gotElement(integerOf(7), true, impl.OK)
		}
		checkResult(t, fmt.Sprint("index ", index), gotElement(impl.GetElement(h, a, integerOf(int64(index)))), want)
	}
	h, b, _ := impl.NewTable(impl.Heap{}, integerOf(7))
	for _, index := range []impl.Value{integerOf(0), stringOf(""), stringOf("a"), nameOf("X"), b} {
		checkResult(t, "a table without keys", gotElement(impl.GetElement(h, b, index)), gotElement(integerOf(7), true, impl.OK))
	}
	for _, key := range []string{"b", "a"} {
		h, _, _ = impl.SetElement(h, b, stringOf(key), integerOf(1))
	}
	checkList(t, "the keys b and a", impl.PairsOf(h, b), []impl.Value{stringOf("b"), integerOf(1), stringOf("a"), integerOf(1)})
	h, a, _ = impl.NewArray(impl.Heap{}, 0, 1, integerOf(5))
	checkList(t, "an array with low 0 and the element 5", impl.PairsOf(h, a), []impl.Value{integerOf(0), integerOf(5)})
}

func TestNewArray(t *testing.T) {
	h := exampleHeap()
	for _, low := range []int64{-1000, -999, -1, 0, 1, 7, 999, 1000} {
		for _, count := range []int64{0, 1, 2, 29, 30} {
			for _, init := range []impl.Value{stringOf(""), integerOf(-7), patternOf("p"), nameOf("X"), deferOf("X"), arrayRef(1), tableRef(2), recordRef(4)} {
				want := extended(h, impl.Object{Kind: impl.ObArray, Low: low, Vals: slices.Repeat([]impl.Value{init}, int(count))})
				checkResult(t, fmt.Sprint("NewArray with ", low, count, init), created(impl.NewArray(h, low, count, init)), created(want, arrayRef(10), impl.OK))
			}
		}
	}
}

func TestNewArrayErrors(t *testing.T) {
	one := integerOf(1)
	lows := []int64{-1001, 1001, 1 << 32, 1<<32 + 1, math.MinInt64, math.MaxInt64}
	counts := []int64{-1, 31, 1 << 32, 1<<32 + 1, math.MinInt64, math.MaxInt64}
	for _, h := range []impl.Heap{{}, exampleHeap(), heapWith(1000000), fullHeap()} {
		for _, low := range lows {
			for _, count := range append(counts, 0, 1, 30) {
				checkResult(t, fmt.Sprint("low ", low), created(impl.NewArray(h, low, count, one)), failed(impl.ErrRange))
				checkResult(t, fmt.Sprint("low ", low, " and an invalid value"), created(impl.NewArray(h, low, count, impl.Value{})), failed(impl.ErrInvalid))
				checkResult(t, fmt.Sprint("low ", low, " and a stray reference"), created(impl.NewArray(h, low, count, arrayRef(77))), failed(impl.ErrInvalid))
			}
		}
		for _, count := range counts {
			for _, low := range []int64{-1000, 0, 1, 1000} {
				checkResult(t, fmt.Sprint("count ", count), created(impl.NewArray(h, low, count, one)), failed(impl.ErrRange))
				checkResult(t, fmt.Sprint("count ", count, " and an invalid value"), created(impl.NewArray(h, low, count, stringOf(strings.Repeat("x", 201)))), failed(impl.ErrInvalid))
			}
		}
	}
	for _, count := range []int64{0, 1, 30} {
		checkResult(t, "a full heap", created(impl.NewArray(fullHeap(), 1, count, one)), failed(impl.ErrFull))
		checkResult(t, "a full heap and an invalid value", created(impl.NewArray(fullHeap(), 1, count, arrayRef(1))), failed(impl.ErrInvalid))
	}
}

func TestNewTable(t *testing.T) {
	h := exampleHeap()
	for _, def := range []impl.Value{stringOf(""), integerOf(0), patternOf("p"), nameOf("X"), deferOf("X"), arrayRef(8), tableRef(2), recordRef(4), stringOf(strings.Repeat("x", 200))} {
		checkResult(t, fmt.Sprint("NewTable with ", def), created(impl.NewTable(h, def)), created(extended(h, impl.Object{Kind: impl.ObTable, Default: def}), tableRef(10), impl.OK))
	}
	checkResult(t, "a table whose default would be itself", created(impl.NewTable(h, tableRef(10))), failed(impl.ErrInvalid))
	checkResult(t, "a full heap", created(impl.NewTable(fullHeap(), integerOf(1))), failed(impl.ErrFull))
	checkResult(t, "a full heap and an invalid value", created(impl.NewTable(fullHeap(), impl.Value{})), failed(impl.ErrInvalid))
}

func TestNewRecord(t *testing.T) {
	h := exampleHeap()
	null := stringOf("")
	fields := []string{"A", "a", "ABCDEFGHIJKL", "B_1", "Z9", "X"}
	vals := []impl.Value{integerOf(1), arrayRef(1), recordRef(4), tableRef(2), patternOf("p"), null}
	for count := 1; count <= 6; count++ {
		for given := 0; given <= count; given++ {
			want := impl.Object{Kind: impl.ObRecord, Name: "A"}
			for i, field := range fields[:count] {
				want.Keys = append(want.Keys, stringOf(field))
				want.Vals = append(want.Vals, append(slices.Clone(vals[:given]), slices.Repeat([]impl.Value{null}, 6)...)[i])
			}
			checkResult(t, fmt.Sprint(count, " fields and ", given, " values"), created(impl.NewRecord(h, "A", fields[:count], vals[:given])), created(extended(h, want), recordRef(10), impl.OK))
		}
	}
	checkResult(t, "a long name", created(impl.NewRecord(impl.Heap{}, "abcdefghijkl", fields[:1], nil)), created(heapWith(1, impl.Object{Id: 1, Kind: impl.ObRecord, Name: "abcdefghijkl", Keys: fieldNames(1), Vals: []impl.Value{null}}), recordRef(1), impl.OK))
}

// noNames are texts that are no names.
func noNames() []string {
	return []string{"", " ", "1", "_", "_A", "A B", "A ", " A", "A-B", "\u00e4", "A\xff", "\x00", "ABCDEFGHIJKLM", strings.Repeat("A", 100000)}
}

func TestNewRecordErrors(t *testing.T) {
	h := exampleHeap()
	one := integerOf(1)
	many := []string{"A", "B", "C", "D", "E", "F", "G"}
	for _, vals := range [][]impl.Value{nil, {one}, slices.Repeat([]impl.Value{one}, 7), slices.Repeat([]impl.Value{one}, 100000), {one, {}}} {
		for _, h := range []impl.Heap{h, fullHeap()} {
			for _, name := range noNames() {
				checkResult(t, fmt.Sprintf("the type %.20q", name), created(impl.NewRecord(h, name, many[:2], vals)), failed(impl.ErrInvalid))
				checkResult(t, fmt.Sprintf("the only field %.20q", name), created(impl.NewRecord(h, "R", []string{name}, vals)), failed(impl.ErrInvalid))
				checkResult(t, fmt.Sprintf("the last field %.20q", name), created(impl.NewRecord(h, "R", []string{"A", "B", "C", "D", "E", name}, vals)), failed(impl.ErrInvalid))
			}
			for _, fields := range [][]string{nil, {}, many, {"A", "A"}, {"A", "B", "A"}, {"A", "B", "B", "C"}, {"A", "B", "C", "D", "E", "A"}, slices.Repeat(many, 10000)} {
				checkResult(t, fmt.Sprintf("the fields %.20q", fields), created(impl.NewRecord(h, "R", fields, vals)), failed(impl.ErrInvalid))
			}
		}
	}
	for _, v := range slices.Concat(invalidValues(), strayReferences()) {
		for _, vals := range [][]impl.Value{{v}, {v, one, one}, {one, one, v}, append(slices.Repeat([]impl.Value{one}, 10000), v)} {
			checkResult(t, fmt.Sprintf("the value %.20q", fmt.Sprint(v)), created(impl.NewRecord(h, "R", many[:2], vals)), failed(impl.ErrInvalid))
		}
	}
	for count := 1; count <= 6; count++ {
		for _, more := range []int{1, 2, 10000} {
			vals := slices.Repeat([]impl.Value{arrayRef(1)}, count+more)
			checkResult(t, "more values than fields", created(impl.NewRecord(h, "R", many[:count], vals)), failed(impl.ErrRange))
		}
	}
	full := heapWith(40, arraysTo(40)...)
	checkResult(t, "more values than fields in a full heap", created(impl.NewRecord(full, "R", many[:1], []impl.Value{one, one})), failed(impl.ErrRange))
	checkResult(t, "a full heap", created(impl.NewRecord(full, "R", many[:1], []impl.Value{one})), failed(impl.ErrFull))
	checkResult(t, "no further Id", created(impl.NewRecord(heapWith(1000000), "R", many[:1], nil)), failed(impl.ErrFull))
}

func TestCreationLimits(t *testing.T) {
	one := integerOf(1)
	for _, c := range []struct {
		what string
		h    impl.Heap
		code int64
	}{
		{"the first object", impl.Heap{}, impl.OK},
		{"an object after others that were removed", heapWith(77, arrayWith(3)), impl.OK},
		{"the last of MaxObjects objects", heapWith(39, arraysTo(39)...), impl.OK},
		{"one object more", heapWith(40, arraysTo(40)...), impl.ErrFull},
		{"one object more, after others that were removed", heapWith(50, arraysTo(40)...), impl.ErrFull},
		{"the last Id", heapWith(999999, arrayWith(1)), impl.OK},
		{"no further Id", heapWith(1000000, arrayWith(1)), impl.ErrFull},
		{"no further Id without objects", heapWith(1000000), impl.ErrFull},
		{"both limits", fullHeap(), impl.ErrFull},
		{"a heap above MaxObjects", heapWith(41, arraysTo(41)...), impl.ErrInvalid},
		{"a Next above MaxObjectId", heapWith(1000001), impl.ErrInvalid},
	} {
		id := c.h.Next + 1
		for what, pair := range map[string][2]aggregateResult{
			"array":  {created(impl.NewArray(c.h, 1, 1, one)), created(extended(c.h, arrayWith(0, one)), arrayRef(id), impl.OK)},
			"table":  {created(impl.NewTable(c.h, one)), created(extended(c.h, tableWith(0, one)), tableRef(id), impl.OK)},
			"record": {created(impl.NewRecord(c.h, "R", []string{"A"}, []impl.Value{one})), created(extended(c.h, recordWith(0, "R", one)), recordRef(id), impl.OK)},
		} {
			if c.code != impl.OK {
				pair[1] = failed(c.code)
			}
			checkResult(t, c.what+": "+what, pair[0], pair[1])
		}
		for _, o := range c.h.Objects[:min(len(c.h.Objects), 3)] {
			want := failed(c.code)
			if c.code == impl.OK {
				copied := referenceTo(o)
				copied.Ref = id
				want = created(extended(c.h, o), copied, impl.OK)
			}
			checkResult(t, c.what+": copy", created(impl.CopyObject(c.h, referenceTo(o))), want)
		}
	}
}

func TestElementsOfArrays(t *testing.T) {
	for _, low := range []int64{-1000, -1, 0, 1, 7, 1000} {
		for _, count := range []int{0, 1, 2, 30} {
			h := heapWith(2, tableWith(1, integerOf(0)), impl.Object{Id: 2, Kind: impl.ObArray, Low: low, Vals: integersTo(count)})
			last := low + int64(count) - 1
			for index := low - 3; index <= last+3; index++ {
				what := fmt.Sprint("low ", low, ", count ", count, ", index ", index)
				if index < low || index > last {
					checkResult(t, what, gotElement(impl.GetElement(h, arrayRef(2), integerOf(index))), gotElement(impl.Value{}, false, impl.OK))
					checkResult(t, what, setElement(impl.SetElement(h, arrayRef(2), integerOf(index), tableRef(1))), setElement(h, false, impl.OK))
					continue
				}
				checkResult(t, what, gotElement(impl.GetElement(h, arrayRef(2), integerOf(index))), gotElement(integerOf(index-low+1), true, impl.OK))
				o := copyObject(h.Objects[1])
				o.Vals[index-low] = tableRef(1)
				checkResult(t, what, setElement(impl.SetElement(h, arrayRef(2), integerOf(index), tableRef(1))), setElement(replaced(h, 1, o), true, impl.OK))
			}
		}
	}
	// None of these is an index of an array, although some look like one.
	h := heapWith(1, impl.Object{Id: 1, Kind: impl.ObArray, Low: -1, Vals: integersTo(5)})
	for _, index := range []impl.Value{stringOf(""), stringOf("0"), stringOf("1"), stringOf("+1"), stringOf("x"), patternOf("1"), nameOf("A"), deferOf("A"), arrayRef(1), integerOf(4), integerOf(-2), integerOf(1000000000000), integerOf(-1000000000000), integerOf(1 << 32), integerOf(256)} {
		checkResult(t, fmt.Sprint("index ", index), gotElement(impl.GetElement(h, arrayRef(1), index)), gotElement(impl.Value{}, false, impl.OK))
		checkResult(t, fmt.Sprint("index ", index), setElement(impl.SetElement(h, arrayRef(1), index, arrayRef(1))), setElement(h, false, impl.OK))
	}
	itself := replaced(h, 0, impl.Object{Id: 1, Kind: impl.ObArray, Low: -1, Vals: append([]impl.Value{arrayRef(1)}, integersTo(5)[1:]...)})
	checkResult(t, "an array that contains itself", setElement(impl.SetElement(h, arrayRef(1), integerOf(-1), arrayRef(1))), setElement(itself, true, impl.OK))
}

// similarKeys are keys that look alike, but are pairwise different.
func similarKeys() []impl.Value {
	return []impl.Value{stringOf(""), stringOf("0"), stringOf("1"), stringOf("01"), stringOf("+1"), stringOf(" 1"), stringOf("a"), stringOf("A"), integerOf(0), integerOf(1), integerOf(-1), patternOf("1"), patternOf("A"), nameOf("A"), nameOf("a"), deferOf("A"), arrayRef(1), tableRef(2), recordRef(4), arrayRef(8), stringOf("array#1"), stringOf("\xff"), integerOf(1000000000000)}
}

func TestElementsOfTables(t *testing.T) {
	h := exampleHeap()
	h.Objects[1] = tableWith(2, stringOf("none"))
	keys := similarKeys()
	for i, key := range keys {
		for j, other := range keys {
			want := gotElement(stringOf("none"), true, impl.OK)
			if j < i {
				want = gotElement(integerOf(int64(j)), true, impl.OK)
			}
			checkResult(t, fmt.Sprint("key ", other), gotElement(impl.GetElement(h, tableRef(2), other)), want)
		}
		o := copyObject(h.Objects[1])
		o.Keys = append(o.Keys, key)
		o.Vals = append(o.Vals, integerOf(int64(i)))
		want := replaced(h, 1, o)
		checkResult(t, fmt.Sprint("a new key: ", key), setElement(impl.SetElement(h, tableRef(2), key, integerOf(int64(i)))), setElement(want, true, impl.OK))
		h = want
	}
	for i, key := range keys {
		o := copyObject(h.Objects[1])
		o.Vals[i] = recordRef(4)
		checkResult(t, fmt.Sprint("a known key: ", key), setElement(impl.SetElement(h, tableRef(2), key, recordRef(4))), setElement(replaced(h, 1, o), true, impl.OK))
	}
}

func TestTableLimits(t *testing.T) {
	null, x := stringOf(""), stringOf("x")
	for _, count := range []int{0, 1, 28, 29, 30} {
		h := heapWith(1, tableWith(1, null, pairsTo(count)...))
		for i := range count {
			o := copyObject(h.Objects[0])
			o.Vals[i] = x
			checkResult(t, fmt.Sprint("known key ", i+1, " of ", count), setElement(impl.SetElement(h, tableRef(1), integerOf(int64(i+1)), x)), setElement(heapWith(1, o), true, impl.OK))
		}
		for _, key := range []impl.Value{integerOf(0), integerOf(int64(count + 1)), stringOf("1"), tableRef(1)} {
			want := setElement(heapWith(1, tableWith(1, null, append(pairsTo(count), key, x)...)), true, impl.OK)
			if count == 30 {
				want = failed(impl.ErrFull)
			}
			checkResult(t, fmt.Sprint("a new key beside ", count), setElement(impl.SetElement(h, tableRef(1), key, x)), want)
			checkResult(t, fmt.Sprint("no such key beside ", count), gotElement(impl.GetElement(h, tableRef(1), key)), gotElement(null, true, impl.OK))
		}
		checkResult(t, "an invalid key", setElement(impl.SetElement(h, tableRef(1), impl.Value{}, x)), failed(impl.ErrInvalid))
		checkResult(t, "a stray key", setElement(impl.SetElement(h, tableRef(1), arrayRef(1), x)), failed(impl.ErrInvalid))
		checkResult(t, "an invalid value", setElement(impl.SetElement(h, tableRef(1), x, impl.Value{})), failed(impl.ErrInvalid))
		checkResult(t, "a stray value", setElement(impl.SetElement(h, tableRef(1), x, recordRef(1))), failed(impl.ErrInvalid))
	}
}

func TestFields(t *testing.T) {
	h := exampleHeap()
	for i, name := range []string{"A", "B", "C"} {
		checkResult(t, name, gotField(impl.GetField(h, recordRef(4), name)), gotField(h.Objects[2].Vals[i], impl.OK))
		for _, x := range []impl.Value{stringOf(""), integerOf(7), recordRef(4), arrayRef(8), tableRef(2)} {
			o := copyObject(h.Objects[2])
			o.Vals[i] = x
			checkResult(t, name, setField(impl.SetField(h, recordRef(4), name, x)), setField(replaced(h, 2, o), impl.OK))
		}
	}
	for _, name := range append(noNames(), "D", "a", "AA", "NODE", "Id") {
		checkResult(t, fmt.Sprintf("no field %.20q", name), gotField(impl.GetField(h, recordRef(4), name)), failed(impl.ErrNotFound))
		checkResult(t, fmt.Sprintf("no field %.20q", name), setField(impl.SetField(h, recordRef(4), name, integerOf(1))), failed(impl.ErrNotFound))
	}
	// A name is no field of an array or a table, also if the table has it as a key.
	h = heapWith(2, arrayWith(1, stringOf("A")), tableWith(2, stringOf("A"), stringOf("A"), stringOf("A")))
	for _, v := range []impl.Value{arrayRef(1), tableRef(2), stringOf("A"), integerOf(1), nameOf("A")} {
		checkResult(t, "no record", gotField(impl.GetField(h, v, "A")), failed(impl.ErrType))
		checkResult(t, "no record", setField(impl.SetField(h, v, "A", v)), failed(impl.ErrType))
		checkResult(t, "no record and no name", gotField(impl.GetField(h, v, "")), failed(impl.ErrType))
		checkResult(t, "no record and no name", setField(impl.SetField(h, v, "1", v)), failed(impl.ErrType))
	}
}

func TestSizesAndPairs(t *testing.T) {
	null := stringOf("")
	for _, c := range []struct {
		what  string
		o     impl.Object
		size  int64
		pairs []impl.Value
	}{
		{"an array without elements", arrayWith(1), 0, nil},
		{"an array with low 1", arrayWith(1, null, integerOf(8)), 2, []impl.Value{integerOf(1), null, integerOf(2), integerOf(8)}},
		{"an array with the lowest low", impl.Object{Id: 1, Kind: impl.ObArray, Low: -1000, Vals: []impl.Value{null, arrayRef(1)}}, 2, []impl.Value{integerOf(-1000), null, integerOf(-999), arrayRef(1)}},
		{"an array around 0", impl.Object{Id: 1, Kind: impl.ObArray, Low: -1, Vals: []impl.Value{null, null, nameOf("X")}}, 3, []impl.Value{integerOf(-1), null, integerOf(0), null, integerOf(1), nameOf("X")}},
		{"a table without keys", tableWith(1, integerOf(1)), 0, nil},
		{"a table", tableWith(1, null, stringOf("b"), integerOf(1), integerOf(-3), tableRef(1), tableRef(1), null), 3, []impl.Value{stringOf("b"), integerOf(1), integerOf(-3), tableRef(1), tableRef(1), null}},
		{"a record", recordWith(1, "R", integerOf(7), recordRef(1)), 2, []impl.Value{stringOf("A"), integerOf(7), stringOf("B"), recordRef(1)}},
	} {
		h := heapWith(1, c.o)
		checkResult(t, c.what, sized(impl.SizeOf(h, referenceTo(c.o))), sized(c.size, impl.OK))
		checkResult(t, c.what, listed(impl.PairsOf(h, referenceTo(c.o))), listed(c.pairs))
	}
	full := fullHeap()
	for i, o := range full.Objects {
		want := []int64{30, 30, 6}[i%3]
		checkResult(t, "a large object", sized(impl.SizeOf(full, referenceTo(o))), sized(want, impl.OK))
		checkEqual(t, "a large object", int64(len(impl.PairsOf(full, referenceTo(o)))), 2*want)
	}
	checkList(t, "the last index of an array", impl.PairsOf(full, arrayRef(999961))[58:], []impl.Value{integerOf(1029), arrayRef(999961)})
}

func TestCopyObject(t *testing.T) {
	h := exampleHeap()
	for _, o := range h.Objects {
		v := referenceTo(o)
		v.Ref = 10
		// References in the copy, also those to the object itself, lead to the same objects.
		checkResult(t, fmt.Sprint("a copy of ", o.Id), created(impl.CopyObject(h, referenceTo(o))), created(extended(h, o), v, impl.OK))
	}
	for _, c := range validObjects() {
		h := heapWith(c.o.Id, c.o)
		want := failed(impl.ErrFull)
		if c.o.Id < 1000000 {
			want = created(extended(h, c.o), objectOf(referenceTo(c.o).Kind, 2), impl.OK)
		}
		checkResult(t, c.what, created(impl.CopyObject(h, referenceTo(c.o))), want)
	}
}

// notReferences are valid values that refer to no object.
func notReferences() []impl.Value {
	return []impl.Value{stringOf(""), stringOf("array#1"), stringOf("1"), integerOf(1), integerOf(0), patternOf("p"), nameOf("A"), deferOf("A")}
}

// checkTypes checks that a value has none of the operations of objects that are not of some kinds.
func checkTypes(t *testing.T, h impl.Heap, v impl.Value) {
	t.Helper()
	what := fmt.Sprint("operations of ", v)
	one := integerOf(1)
	checkResult(t, what, gotElement(impl.GetElement(h, v, one)), failed(impl.ErrType))
	checkResult(t, what, setElement(impl.SetElement(h, v, one, one)), failed(impl.ErrType))
	for _, w := range invalidValues()[:3] {
		checkResult(t, what+": an invalid index", gotElement(impl.GetElement(h, v, w)), failed(impl.ErrInvalid))
		checkResult(t, what+": an invalid index", setElement(impl.SetElement(h, v, w, one)), failed(impl.ErrInvalid))
		checkResult(t, what+": an invalid value", setElement(impl.SetElement(h, v, one, w)), failed(impl.ErrInvalid))
		checkResult(t, what+": an invalid value", setField(impl.SetField(h, v, "A", w)), failed(impl.ErrInvalid))
	}
}

func TestTypesOfAggregates(t *testing.T) {
	for _, h := range []impl.Heap{{}, exampleHeap(), fullHeap()} {
		for _, v := range notReferences() {
			checkTypes(t, h, v)
			checkResult(t, "a field", gotField(impl.GetField(h, v, "A")), failed(impl.ErrType))
			checkResult(t, "a field", setField(impl.SetField(h, v, "A", v)), failed(impl.ErrType))
			checkResult(t, "a size", sized(impl.SizeOf(h, v)), failed(impl.ErrType))
			checkResult(t, "pairs", listed(impl.PairsOf(h, v)), failed(impl.OK))
			checkResult(t, "a copy", created(impl.CopyObject(h, v)), failed(impl.ErrType))
		}
		for _, o := range h.Objects {
			if o.Kind == impl.ObRecord {
				checkTypes(t, h, referenceTo(o))
			}
		}
	}
	record := heapWith(1, recordWith(1, "R", integerOf(7)))
	for _, index := range []impl.Value{stringOf("A"), integerOf(0), integerOf(1)} {
		checkResult(t, "a field as an element", gotElement(impl.GetElement(record, recordRef(1), index)), failed(impl.ErrType))
		checkResult(t, "a field as an element", setElement(impl.SetElement(record, recordRef(1), index, index)), failed(impl.ErrType))
	}
}

// checkInvalidArguments checks all functions with a heap and a value of which one is invalid, or which do not fit.
func checkInvalidArguments(t *testing.T, what string, h impl.Heap, v impl.Value) {
	t.Helper()
	null := stringOf("")
	checkResult(t, what+": NewArray", created(impl.NewArray(h, 1, 1, v)), failed(impl.ErrInvalid))
	checkResult(t, what+": NewTable", created(impl.NewTable(h, v)), failed(impl.ErrInvalid))
	checkResult(t, what+": NewRecord", created(impl.NewRecord(h, "R", []string{"A", "B"}, []impl.Value{null, v})), failed(impl.ErrInvalid))
	checkResult(t, what+": GetElement", gotElement(impl.GetElement(h, v, null)), failed(impl.ErrInvalid))
	checkResult(t, what+": SetElement", setElement(impl.SetElement(h, v, null, null)), failed(impl.ErrInvalid))
	checkResult(t, what+": GetField", gotField(impl.GetField(h, v, "A")), failed(impl.ErrInvalid))
	checkResult(t, what+": SetField", setField(impl.SetField(h, v, "A", null)), failed(impl.ErrInvalid))
	checkResult(t, what+": SizeOf", sized(impl.SizeOf(h, v)), failed(impl.ErrInvalid))
	checkResult(t, what+": PairsOf", listed(impl.PairsOf(h, v)), failed(impl.OK))
	checkResult(t, what+": CopyObject", created(impl.CopyObject(h, v)), failed(impl.ErrInvalid))
}

func TestInvalidArgumentsOfAggregates(t *testing.T) {
	h := exampleHeap()
	for _, v := range slices.Concat(invalidValues(), strayReferences()) {
		what := fmt.Sprintf("%.40q", fmt.Sprint(v))
		checkInvalidArguments(t, what, h, v)
		for _, o := range h.Objects {
			w := referenceTo(o)
			checkResult(t, what+" as an index", gotElement(impl.GetElement(h, w, v)), failed(impl.ErrInvalid))
			checkResult(t, what+" as an index", setElement(impl.SetElement(h, w, v, w)), failed(impl.ErrInvalid))
			checkResult(t, what+" as an element", setElement(impl.SetElement(h, w, integerOf(1), v)), failed(impl.ErrInvalid))
			checkResult(t, what+" as an element outside", setElement(impl.SetElement(h, w, stringOf("no"), v)), failed(impl.ErrInvalid))
			checkResult(t, what+" as a field", setField(impl.SetField(h, w, "A", v)), failed(impl.ErrInvalid))
			checkResult(t, what+" as no field", setField(impl.SetField(h, w, "Z", v)), failed(impl.ErrInvalid))
		}
	}
	for _, c := range invalidHeaps() {
		checkInvalidArguments(t, c.what, c.h, integerOf(1))
		for _, o := range c.h.Objects[:min(len(c.h.Objects), 5)] {
			if o.Kind >= impl.ObArray && o.Kind <= impl.ObRecord {
				checkInvalidArguments(t, c.what, c.h, referenceTo(o))
			}
		}
	}
	for _, v := range []impl.Value{arrayRef(1), tableRef(1), recordRef(1)} {
		checkInvalidArguments(t, "no object", impl.Heap{}, v)
	}
}

// modelReferent returns the place of the object to which a value refers, and a code.
func modelReferent(h impl.Heap, values ...impl.Value) (int, int64) {
	if !modelHeap(h) {
		return -1, impl.ErrInvalid
	}
	for _, v := range values {
		if !modelFits(h.Objects, v) {
			return -1, impl.ErrInvalid
		}
	}
	if referenceKinds[values[0].Kind] == 0 {
		return -1, impl.ErrType
	}
	return slices.IndexFunc(h.Objects, func(o impl.Object) bool { return o.Id == values[0].Ref }), impl.OK
}

// modelPairs returns the indexes, keys or names of an object with their values.
func modelPairs(o impl.Object) [][2]impl.Value {
	var list [][2]impl.Value
	for i, x := range o.Vals {
		key := integerOf(int64(i) + o.Low)
		if o.Kind != impl.ObArray {
			key = o.Keys[i]
		}
		list = append(list, [2]impl.Value{key, x})
	}
	return list
}

func placeOfKey(o impl.Object, key impl.Value) int {
	return slices.IndexFunc(modelPairs(o), func(pair [2]impl.Value) bool { return pair[0] == key })
}

func modelGetElement(h impl.Heap, v, index impl.Value) aggregateResult {
	at, code := modelReferent(h, v, index)
	if code == impl.OK && v.Kind == impl.VkRecord {
		code = impl.ErrType
	}
	if code != impl.OK {
		return failed(code)
	}
	o := h.Objects[at]
	if place := placeOfKey(o, index); place >= 0 {
		return gotElement(o.Vals[place], true, impl.OK)
	}
	return gotElement(o.Default, v.Kind == impl.VkTable, impl.OK)
}

func modelSetElement(h impl.Heap, v, index, x impl.Value) aggregateResult {
	at, code := modelReferent(h, v, index, x)
	if code == impl.OK && v.Kind == impl.VkRecord {
		code = impl.ErrType
	}
	if code != impl.OK {
		return failed(code)
	}
	o := copyObject(h.Objects[at])
	place := placeOfKey(o, index)
	if place < 0 && v.Kind == impl.VkArray {
		return setElement(h, false, impl.OK)
	}
	if place < 0 && len(o.Vals) == 30 {
		return failed(impl.ErrFull)
	}
	if place < 0 {
		place = len(o.Keys)
		o.Keys, o.Vals = append(o.Keys, index), append(o.Vals, x)
	}
	o.Vals[place] = x
	return setElement(replaced(h, at, o), true, impl.OK)
}

// modelField returns the places of an object and of a field of it, and a code.
func modelField(h impl.Heap, name string, values ...impl.Value) (at, place int, code int64) {
	at, code = modelReferent(h, values...)
	if code == impl.OK && values[0].Kind != impl.VkRecord {
		code = impl.ErrType
	}
	if code != impl.OK {
		return -1, -1, code
	}
	place = placeOfKey(h.Objects[at], stringOf(name))
	if place < 0 {
		code = impl.ErrNotFound
	}
	return at, place, code
}

func modelGetField(h impl.Heap, v impl.Value, name string) aggregateResult {
	at, place, code := modelField(h, name, v)
	if code != impl.OK {
		return failed(code)
	}
	return gotField(h.Objects[at].Vals[place], impl.OK)
}

func modelSetField(h impl.Heap, v impl.Value, name string, x impl.Value) aggregateResult {
	at, place, code := modelField(h, name, v, x)
	if code != impl.OK {
		return failed(code)
	}
	o := copyObject(h.Objects[at])
	o.Vals[place] = x
	return setField(replaced(h, at, o), impl.OK)
}

// modelCreated returns what the functions return that create an object in a valid heap.
func modelCreated(h impl.Heap, o impl.Object) aggregateResult {
	if len(h.Objects) == 40 || h.Next == 1000000 {
		return failed(impl.ErrFull)
	}
	o.Id = h.Next + 1
	return created(extended(h, o), referenceTo(o), impl.OK)
}

func modelCopy(h impl.Heap, v impl.Value) aggregateResult {
	at, code := modelReferent(h, v)
	if code != impl.OK {
		return failed(code)
	}
	return modelCreated(h, h.Objects[at])
}

func modelSize(h impl.Heap, v impl.Value) (size, pairs aggregateResult) {
	at, code := modelReferent(h, v)
	if code != impl.OK {
		return failed(code), listed(nil)
	}
	var list []impl.Value
	for _, pair := range modelPairs(h.Objects[at]) {
		list = append(list, pair[0], pair[1])
	}
	return sized(int64(len(list)/2), impl.OK), listed(list)
}

func modelNewArray(h impl.Heap, low, count int64, init impl.Value) aggregateResult {
	if _, code := modelReferent(h, init); code == impl.ErrInvalid {
		return failed(code)
	}
	if low < -1000 || low > 1000 || count < 0 || count > 30 {
		return failed(impl.ErrRange)
	}
	return modelCreated(h, impl.Object{Kind: impl.ObArray, Low: low, Vals: slices.Repeat([]impl.Value{init}, int(count))})
}

func modelNewTable(h impl.Heap, def impl.Value) aggregateResult {
	if _, code := modelReferent(h, def); code == impl.ErrInvalid {
		return failed(code)
	}
	return modelCreated(h, impl.Object{Kind: impl.ObTable, Default: def})
}

func modelNewRecord(h impl.Heap, name string, fields []string, vals []impl.Value) aggregateResult {
	if _, code := modelReferent(h, append([]impl.Value{stringOf("")}, vals...)...); code == impl.ErrInvalid {
		return failed(code)
	}
	o := impl.Object{Id: 1, Kind: impl.ObRecord, Name: name}
	for i, field := range fields {
		o.Keys = append(o.Keys, stringOf(field))
		o.Vals = append(o.Vals, append(slices.Clone(vals), slices.Repeat([]impl.Value{stringOf("")}, len(fields))...)[i])
	}
	if !modelObject(o) {
		return failed(impl.ErrInvalid)
	}
	if len(vals) > len(fields) {
		return failed(impl.ErrRange)
	}
	return modelCreated(h, o)
}

// tally counts how often functions returned something.
type tally map[string]int

func (c tally) check(t *testing.T, what string, got, want aggregateResult) {
	t.Helper()
	checkResult(t, what, got, want)
	c[fmt.Sprint(what, " ", want.code, want.found)]++
}

func (c tally) expect(t *testing.T, least int, list ...string) {
	t.Helper()
	for _, what := range list {
		if c[what] < least {
			t.Errorf("%s: only %d times", what, c[what])
		}
	}
}

// target returns a value that refers to an object in most cases, and this object.
func (m heapMaker) target(h impl.Heap) (impl.Value, impl.Object) {
	if len(h.Objects) == 0 || m.Intn(8) == 0 {
		return m.value(h.Objects), impl.Object{}
	}
	o := h.Objects[m.Intn(len(h.Objects))]
	return referenceTo(o), o
}

// index returns an index that is in or near an object in most cases.
func (m heapMaker) index(h impl.Heap, o impl.Object) impl.Value {
	switch {
	case m.Intn(3) == 0:
		return m.value(h.Objects)
	case o.Kind == impl.ObArray:
		return integerOf(o.Low + int64(m.Intn(len(o.Vals)+4)-2))
	case len(o.Keys) > 0:
		return o.Keys[m.Intn(len(o.Keys))]
	}
	return integerOf(int64(m.Intn(5)))
}

func TestAggregatesAgainstModel(t *testing.T) {
	m := heapMaker{rand.New(rand.NewSource(45))}
	counts := tally{}
	for i := range 12000 {
		h := m.heap(5)
		v, o := m.target(h)
		index, x := m.index(h, o), m.value(h.Objects)
		switch i % 8 {
		case 0:
			h = m.spoil(h)
		case 1:
			v, index = index, v
		case 2:
			x = arrayRef(int64(m.Intn(9)))
		case 3:
			index = tableRef(int64(m.Intn(9)))
		}
		name := []string{"A", "B", "C", "D", "E", "NODE", ""}[m.Intn(7)]
		counts.check(t, "GetElement", gotElement(impl.GetElement(h, v, index)), modelGetElement(h, v, index))
		counts.check(t, "SetElement", setElement(impl.SetElement(h, v, index, x)), modelSetElement(h, v, index, x))
		counts.check(t, "GetField", gotField(impl.GetField(h, v, name)), modelGetField(h, v, name))
		counts.check(t, "SetField", setField(impl.SetField(h, v, name, x)), modelSetField(h, v, name, x))
		counts.check(t, "CopyObject", created(impl.CopyObject(h, v)), modelCopy(h, v))
		size, pairs := modelSize(h, v)
		counts.check(t, "SizeOf", sized(impl.SizeOf(h, v)), size)
		counts.check(t, "PairsOf", listed(impl.PairsOf(h, v)), pairs)
	}
	counts.expect(t, 100,
		"GetElement 0 true", "GetElement 0 false", "GetElement 1 false", "GetElement 4 false",
		"SetElement 0 true", "SetElement 0 false", "SetElement 1 false", "SetElement 4 false",
		"GetField 0 false", "GetField 1 false", "GetField 4 false", "GetField 11 false",
		"SetField 0 false", "SetField 1 false", "SetField 4 false", "SetField 11 false",
		"CopyObject 0 false", "CopyObject 1 false", "CopyObject 4 false", "SizeOf 0 false", "SizeOf 1 false", "SizeOf 4 false")
}

func TestCreationAgainstModel(t *testing.T) {
	m := heapMaker{rand.New(rand.NewSource(46))}
	counts := tally{}
	heaps := []impl.Heap{fullHeap(), heapWith(1000000, arrayWith(1)), heapWith(40, arraysTo(40)...), heapWith(999999, arrayWith(1)), heapWith(39, arraysTo(39)...)}
	for i := range 8000 {
		h := m.heap(4)
		if i%5 == 0 {
			h = heaps[m.Intn(len(heaps))]
		}
		v := m.value(h.Objects)
		if i%4 == 0 {
			h = m.spoil(h)
		}
		if i%7 == 0 {
			v = recordRef(int64(m.Intn(9)))
		}
		low, count := int64(m.Intn(2005)-1002), int64(m.Intn(34)-1)
		counts.check(t, "NewArray", created(impl.NewArray(h, low, count, v)), modelNewArray(h, low, count, v))
		counts.check(t, "NewTable", created(impl.NewTable(h, v)), modelNewTable(h, v))
		names := []string{"A", "B", "C", "D", "E", "F", "G", "1"}
		m.Shuffle(len(names), func(i, j int) { names[i], names[j] = names[j], names[i] })
		fields := names[:m.Intn(4)+m.Intn(4)]
		vals := slices.Repeat([]impl.Value{v}, m.Intn(len(fields)+2))
		counts.check(t, "NewRecord", created(impl.NewRecord(h, "R", fields, vals)), modelNewRecord(h, "R", fields, vals))
	}
	counts.expect(t, 100,
		"NewArray 0 false", "NewArray 1 false", "NewArray 3 false", "NewArray 6 false", "NewTable 0 false", "NewTable 1 false", "NewTable 6 false",
		"NewRecord 0 false", "NewRecord 1 false", "NewRecord 3 false", "NewRecord 6 false")
}

// elementsOf returns what is read at some indexes of an object.
func elementsOf(h impl.Heap, v impl.Value, indexes []impl.Value) []aggregateResult {
	var list []aggregateResult
	for _, index := range indexes {
		list = append(list, gotElement(impl.GetElement(h, v, index)))
	}
	return list
}

// checkElementSet is the first part of promise 10, for one element.
func checkElementSet(t *testing.T, h impl.Heap, v, index, x impl.Value) {
	t.Helper()
	changed, succeeded, code := impl.SetElement(h, v, index, x)
	checkEqual(t, "code", code, impl.OK)
	before := impl.PairsOf(h, v)
	indexes := slices.Concat(before, similarKeys(), []impl.Value{index})
	indexes = slices.DeleteFunc(indexes, func(w impl.Value) bool { return !impl.FitsHeap(h, w) })
	if !succeeded {
		checkHeap(t, "unchanged", changed, h)
		checkResult(t, "not read either", gotElement(impl.GetElement(h, v, index)), gotElement(impl.Value{}, false, impl.OK))
		return
	}
	checkResult(t, "read back", gotElement(impl.GetElement(changed, v, index)), gotElement(x, true, impl.OK))
	others := slices.DeleteFunc(indexes, func(w impl.Value) bool { return w == index })
	if !slices.EqualFunc(elementsOf(h, v, others), elementsOf(changed, v, others), func(a, b aggregateResult) bool { return a.v == b.v && a.found == b.found }) {
		t.Errorf("%+v: other elements were changed by setting %+v of %+v to %+v", h, index, v, x)
	}
	var keys, keysAfter []impl.Value
	for pair := range slices.Chunk(before, 2) {
		keys = append(keys, pair[0])
	}
	for pair := range slices.Chunk(impl.PairsOf(changed, v), 2) {
		keysAfter = append(keysAfter, pair[0])
	}
	if !slices.Contains(keys, index) {
		keys = append(keys, index)
	}
	checkList(t, "indexes or keys in order", keysAfter, keys)
	checkSameBut(t, h, changed, v.Ref)
}

// checkSameBut checks that two heaps have the same objects, but for the contents of one.
func checkSameBut(t *testing.T, before, after impl.Heap, id int64) {
	t.Helper()
	checkEqual(t, "Next", after.Next, before.Next)
	checkEqual(t, "objects", len(after.Objects), len(before.Objects))
	for _, o := range before.Objects {
		if o.Id != id {
			checkObjectAt(t, "an unchanged object", after, o.Id, o, true)
		}
	}
	checkNoStrayReference(t, after)
}

// TestElementsAreReadBack is the first part of promise 10, for elements in any heap.
func TestElementsAreReadBack(t *testing.T) {
	m := heapMaker{rand.New(rand.NewSource(47))}
	calls := 0
	for range 1500 {
		h := m.heap(5)
		for _, o := range h.Objects {
			if o.Kind != impl.ObRecord {
				checkElementSet(t, h, referenceTo(o), m.index(h, o), m.value(h.Objects))
				checkElementSet(t, h, referenceTo(o), m.value(h.Objects), referenceTo(o))
				calls++
			}
		}
	}
	if calls < 1500 {
		t.Errorf("only %d calls", calls)
	}
}

// TestFieldsAreReadBack is the first part of promise 10, for fields in any heap.
func TestFieldsAreReadBack(t *testing.T) {
	m := heapMaker{rand.New(rand.NewSource(48))}
	fields := 0
	for range 3000 {
		h := m.heap(5)
		for _, o := range h.Objects {
			if o.Kind != impl.ObRecord {
				continue
			}
			for i, field := range o.Keys {
				x := m.value(h.Objects)
				changed, code := impl.SetField(h, referenceTo(o), field.Text, x)
				checkEqual(t, "code", code, impl.OK)
				for j, other := range o.Keys {
					want := gotField(o.Vals[j], impl.OK)
					if j == i {
						want = gotField(x, impl.OK)
					}
					checkResult(t, "field "+other.Text, gotField(impl.GetField(changed, referenceTo(o), other.Text)), want)
				}
				checkSameBut(t, h, changed, o.Id)
				fields++
			}
		}
	}
	if fields < 3000 {
		t.Errorf("only %d fields", fields)
	}
}

// TestSmallAndLargeArraysAndTables is the first part of promise 10, for objects with few and with many elements.
func TestSmallAndLargeArraysAndTables(t *testing.T) {
	for _, count := range []int{0, 1, 2, 3, 28, 29, 30} {
		h := heapWith(2, impl.Object{Id: 1, Kind: impl.ObArray, Low: int64(count - 15), Vals: integersTo(count)}, tableWith(2, stringOf("none"), pairsTo(count)...))
		for index := int64(-16); index <= 31; index++ {
			checkElementSet(t, h, arrayRef(1), integerOf(index), tableRef(2))
			if count < 30 || index >= 1 && index <= 30 {
				checkElementSet(t, h, tableRef(2), integerOf(index), arrayRef(1))
			}
		}
	}
}

// TestTablesKeepTheOrderOfTheirKeys is the second part of promise 10, for long series of assignments.
func TestTablesKeepTheOrderOfTheirKeys(t *testing.T) {
	m := heapMaker{rand.New(rand.NewSource(49))}
	full := 0
	for range 40 {
		h, v, _ := impl.NewTable(exampleHeap(), stringOf("none"))
		keys := append(similarKeys(), integersTo(20)[2:]...)
		var order []impl.Value
		latest := map[impl.Value]impl.Value{}
		for range 120 {
			key, x := keys[m.Intn(len(keys))], m.value(h.Objects)
			changed, succeeded, code := impl.SetElement(h, v, key, x)
			if !slices.Contains(order, key) {
				if len(order) == 30 {
					checkResult(t, "a full table", setElement(changed, succeeded, code), failed(impl.ErrFull))
					full++
					continue
				}
				order = append(order, key)
			}
			latest[key] = x
			var want []impl.Value
			for _, key := range order {
				want = append(want, key, latest[key])
			}
			checkEqual(t, "succeeded", succeeded && code == impl.OK, true)
			checkList(t, "pairs", impl.PairsOf(changed, v), want)
			h = changed
		}
		checkResult(t, "size", sized(impl.SizeOf(h, v)), sized(int64(len(order)), impl.OK))
	}
	if full < 100 {
		t.Errorf("a table was full only %d times", full)
	}
}

// changeAll returns a heap in which everything in an object has another value.
func changeAll(t *testing.T, h impl.Heap, v, x impl.Value) impl.Heap {
	t.Helper()
	code := int64(impl.OK)
	for pair := range slices.Chunk(impl.PairsOf(h, v), 2) {
		succeeded := true
		if v.Kind == impl.VkRecord {
			h, code = impl.SetField(h, v, pair[0].Text, x)
		} else {
			h, succeeded, code = impl.SetElement(h, v, pair[0], x)
		}
		checkEqual(t, "set", succeeded && code == impl.OK, true)
	}
	if v.Kind == impl.VkTable {
		h, _, _ = impl.SetElement(h, v, stringOf("a new key"), x)
	}
	return h
}

// TestCopiesAreIndependent is the last part of promise 10.
func TestCopiesAreIndependent(t *testing.T) {
	m := heapMaker{rand.New(rand.NewSource(50))}
	copies := 0
	for range 1500 {
		h := m.heap(4)
		for _, o := range h.Objects {
			v := referenceTo(o)
			both, copied, code := impl.CopyObject(h, v)
			checkEqual(t, "code", code, impl.OK)
			pairs := impl.PairsOf(h, v)
			checkList(t, "the copy", impl.PairsOf(both, copied), pairs)
			checkUnchanged(t, h, both, copied.Ref)
			x := stringOf("changed")
			changed := changeAll(t, both, copied, x)
			checkObjectAt(t, "the original, after the copy was changed", changed, o.Id, o, true)
			checkSameBut(t, both, changed, copied.Ref)
			changed = changeAll(t, both, v, x)
			checkList(t, "the copy, after the original was changed", impl.PairsOf(changed, copied), pairs)
			checkSameBut(t, both, changed, o.Id)
			copies++
		}
	}
	if copies < 1500 {
		t.Errorf("only %d copies", copies)
	}
}
