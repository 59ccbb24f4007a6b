package tests

import (
	"fmt"
	"math"
	"math/rand"
	"slices"
	"strings"
	"testing"

	"loop.example/g00873/impl"
)

// arrayRef, tableRef and recordRef return values that refer to objects.
func arrayRef(id int64) impl.Value  { return objectOf(impl.VkArray, id) }
func tableRef(id int64) impl.Value  { return objectOf(impl.VkTable, id) }
func recordRef(id int64) impl.Value { return objectOf(impl.VkRecord, id) }

// referenceTo returns the value that refers to an object.
func referenceTo(o impl.Object) impl.Value {
	return objectOf([]int64{impl.VkArray, impl.VkTable, impl.VkRecord}[o.Kind-1], o.Id)
}

// arrayWith returns an array with the first index 1.
func arrayWith(id int64, vals ...impl.Value) impl.Object {
	return impl.Object{Id: id, Kind: impl.ObArray, Low: 1, Vals: vals}
}

// tableWith returns a table with a default, and keys with their values.
func tableWith(id int64, def impl.Value, pairs ...impl.Value) impl.Object {
	o := impl.Object{Id: id, Kind: impl.ObTable, Default: def}
	for pair := range slices.Chunk(pairs, 2) {
		o.Keys = append(o.Keys, pair[0])
		o.Vals = append(o.Vals, pair[1])
	}
	return o
}

// recordWith returns a record with the fields A, B, C and so on.
func recordWith(id int64, name string, vals ...impl.Value) impl.Object {
	return impl.Object{Id: id, Kind: impl.ObRecord, Name: name, Keys: fieldNames(len(vals)), Vals: vals}
}

func fieldNames(count int) []impl.Value {
	var list []impl.Value
	for i := range count {
		list = append(list, stringOf(string(rune('A'+i))))
	}
	return list
}

// integersTo returns the integers from 1 to a number.
func integersTo(count int) []impl.Value {
	var list []impl.Value
	for i := range count {
		list = append(list, integerOf(int64(i+1)))
	}
	return list
}

// pairsTo returns the integers from 1 to a number, each with a null value.
func pairsTo(count int) []impl.Value {
	var list []impl.Value
	for _, v := range integersTo(count) {
		list = append(list, v, stringOf(""))
	}
	return list
}

func heapWith(next int64, objects ...impl.Object) impl.Heap {
	return impl.Heap{Next: next, Objects: objects}
}

// arraysTo returns arrays without elements, with the Ids from 1 to a number.
func arraysTo(count int) []impl.Object {
	var list []impl.Object
	for i := range count {
		list = append(list, arrayWith(int64(i+1)))
	}
	return list
}

// fullHeap returns a heap of MaxObjects objects, each of them as large as possible.
func fullHeap() impl.Heap {
	h := impl.Heap{Next: 1000000}
	for i := range int64(40) {
		list := slices.Repeat([]impl.Value{arrayRef(999961)}, 30)
		o := impl.Object{Kind: impl.ObArray, Low: 1000, Vals: list}
		switch i % 3 {
		case 1:
			o = impl.Object{Kind: impl.ObTable, Keys: integersTo(30), Vals: list, Default: tableRef(999962)}
		case 2:
			o = recordWith(0, "ABCDEFGHIJKL", list[:6]...)
		}
		o.Id = 999961 + i
		h.Objects = append(h.Objects, o)
	}
	return h
}

// exampleHeap returns a heap in which each kind of object refers to each kind, also to itself.
func exampleHeap() impl.Heap {
	return heapWith(9,
		arrayWith(1, recordRef(4), integerOf(5), arrayRef(1), tableRef(2)),
		tableWith(2, tableRef(2), stringOf("x"), recordRef(4), arrayRef(1), integerOf(1)),
		recordWith(4, "NODE", arrayRef(1), recordRef(4), tableRef(2)),
		arrayWith(8),
	)
}

func equalObjects(a, b impl.Object) bool {
	return a.Id == b.Id && a.Kind == b.Kind && a.Name == b.Name && a.Low == b.Low && a.Default == b.Default && slices.Equal(a.Keys, b.Keys) && slices.Equal(a.Vals, b.Vals)
}

func equalHeaps(a, b impl.Heap) bool {
	return a.Next == b.Next && slices.EqualFunc(a.Objects, b.Objects, equalObjects)
}

func checkObject(t *testing.T, what string, got, want impl.Object) {
	t.Helper()
	if !equalObjects(got, want) {
		t.Errorf("%s: got %.500q, want %.500q", what, fmt.Sprint(got), fmt.Sprint(want))
	}
}

func checkHeap(t *testing.T, what string, got, want impl.Heap) {
	t.Helper()
	if !equalHeaps(got, want) {
		t.Errorf("%s: got %.1000q, want %.1000q", what, fmt.Sprint(got), fmt.Sprint(want))
	}
}

func checkNewObject(t *testing.T, what string, h impl.Heap, o impl.Object, want impl.Heap, id, code int64) {
	t.Helper()
	got, gotId, gotCode := impl.NewObject(h, o)
	checkHeap(t, what+": heap", got, want)
	checkEqual(t, what+": Id", gotId, id)
	checkEqual(t, what+": code", gotCode, code)
}

func checkSetObject(t *testing.T, what string, h impl.Heap, o impl.Object, want impl.Heap, code int64) {
	t.Helper()
	got, gotCode := impl.SetObject(h, o)
	checkHeap(t, what+": heap", got, want)
	checkEqual(t, what+": code", gotCode, code)
}

func checkObjectAt(t *testing.T, what string, h impl.Heap, id int64, want impl.Object, found bool) {
	t.Helper()
	got, gotFound := impl.ObjectAt(h, id)
	checkObject(t, what, got, want)
	checkEqual(t, what+": found", gotFound, found)
}

func copyObject(o impl.Object) impl.Object {
	o.Keys = slices.Clone(o.Keys)
	o.Vals = slices.Clone(o.Vals)
	return o
}

func copyHeap(h impl.Heap) impl.Heap {
	list := slices.Clone(h.Objects)
	for i, o := range list {
		list[i] = copyObject(o)
	}
	h.Objects = list
	return h
}

func TestHeapConstants(t *testing.T) {
	checkList(t, "limits", []int64{impl.MaxObjects, impl.MaxElements, impl.MaxFields, impl.MaxObjectId}, []int64{40, 30, 6, 1000000})
	checkList(t, "kinds", []int64{impl.ObArray, impl.ObTable, impl.ObRecord}, []int64{1, 2, 3})
}

func TestHeapExamples(t *testing.T) {
	pair := arrayWith(1, integerOf(7), integerOf(8))
	checkEqual(t, "an array with the Low 1 and two integers", impl.ValidObject(pair), true)
	checkEqual(t, "the zero heap", impl.ValidHeap(impl.Heap{}), true)
	checkEqual(t, "an integer in the zero heap", impl.FitsHeap(impl.Heap{}, integerOf(7)), true)
	checkEqual(t, "an array in the zero heap", impl.FitsHeap(impl.Heap{}, arrayRef(1)), false)
	checkNewObject(t, "the first object", impl.Heap{}, pair, heapWith(1, pair), 1, impl.OK)
	itself := arrayWith(1, arrayRef(1))
	checkSetObject(t, "an array that contains itself", heapWith(1, pair), itself, heapWith(1, itself), impl.OK)
	checkList(t, "references", impl.RefsOf(tableWith(1, arrayRef(3), stringOf("x"), recordRef(2))), []int64{2, 3})
	checkEqual(t, "size", impl.HeapSize(heapWith(2, pair, recordWith(2, "R", integerOf(1)))), 4)
}

// veryMany is a number of elements, keys or objects far above the limits.
const veryMany = 2000

// namedObject is an object with a description.
type namedObject struct {
	what string
	o    impl.Object
}

// validObjects returns objects that are just valid. They refer to nothing.
func validObjects() []namedObject {
	null, long := stringOf(""), stringOf(strings.Repeat("x", 200))
	return []namedObject{
		{"an array without elements", arrayWith(1)},
		{"an array with empty lists", impl.Object{Id: 1, Kind: impl.ObArray, Keys: []impl.Value{}, Vals: []impl.Value{}}},
		{"an array with the lowest Low", impl.Object{Id: 1, Kind: impl.ObArray, Low: -1000}},
		{"an array with the highest Low", impl.Object{Id: 1, Kind: impl.ObArray, Low: 1000, Vals: integersTo(30)}},
		{"an array of MaxElements elements", arrayWith(1, integersTo(30)...)},
		{"an array of equal elements", arrayWith(1, null, null, long, long)},
		{"an array of all kinds of values", arrayWith(1, null, integerOf(0), patternOf("p"), nameOf("X"), deferOf("X"))},
		{"an array with the last Id", arrayWith(1000000, long)},
		{"a table without keys", tableWith(1, null)},
		{"a table with empty lists", impl.Object{Id: 1, Kind: impl.ObTable, Keys: []impl.Value{}, Vals: []impl.Value{}, Default: integerOf(1)}},
		{"a table of MaxElements keys", tableWith(1, long, pairsTo(30)...)},
		{"a table with the last Id", tableWith(1000000, null, null, null)},
		{"a table of keys that look alike", tableWith(1, nameOf("X"), stringOf("1"), null, integerOf(1), null, stringOf("01"), null, stringOf("X"), null, nameOf("X"), null, deferOf("X"), null, patternOf("X"), null, stringOf("x"), null)},
		{"a table of equal values", tableWith(1, null, integerOf(1), null, null, null)},
		{"a record of one field", recordWith(1, "R", null)},
		{"a record of MaxFields fields", recordWith(1, "R", integersTo(6)...)},
		{"a record of equal values", recordWith(1, "R", long, long)},
		{"a record with the name of its field", recordWith(1, "A", null)},
		{"a record with long names", impl.Object{Id: 1000000, Kind: impl.ObRecord, Name: "ABCDEFGHIJKL", Keys: []impl.Value{stringOf("abcdefghijkl"), stringOf("ABCDEFGHIJKL")}, Vals: []impl.Value{null, null}}},
	}
}

// invalidContents returns objects with the Id 1 that are invalid for all of NewObject, SetObject and ValidObject.
func invalidContents() []namedObject {
	null, one, two := stringOf(""), integerOf(1), integerOf(2)
	list := []namedObject{
		{"the zero object with an Id", impl.Object{Id: 1}},
		{"no kind", impl.Object{Id: 1, Kind: 4, Default: null}},
		{"a negative kind", impl.Object{Id: 1, Kind: -1}},
		{"a kind that is too large for a byte", impl.Object{Id: 1, Kind: 257}},
		{"a kind that is too large for 32 bits", impl.Object{Id: 1, Kind: 1 << 32}},
		{"the kind of a value", impl.Object{Id: 1, Kind: impl.VkArray}},
		{"an array with a name", impl.Object{Id: 1, Kind: impl.ObArray, Name: "A"}},
		{"an array with a lower Low", impl.Object{Id: 1, Kind: impl.ObArray, Low: -1001}},
		{"an array with a higher Low", impl.Object{Id: 1, Kind: impl.ObArray, Low: 1001}},
		{"an array with the least Low", impl.Object{Id: 1, Kind: impl.ObArray, Low: math.MinInt64}},
		{"an array with the greatest Low", impl.Object{Id: 1, Kind: impl.ObArray, Low: math.MaxInt64}},
		{"an array with a key", impl.Object{Id: 1, Kind: impl.ObArray, Keys: []impl.Value{one}}},
		{"an array with keys and elements", impl.Object{Id: 1, Kind: impl.ObArray, Keys: []impl.Value{one}, Vals: []impl.Value{one}}},
		{"an array with a default", impl.Object{Id: 1, Kind: impl.ObArray, Default: null}},
		{"an array with an invalid default", impl.Object{Id: 1, Kind: impl.ObArray, Default: impl.Value{Ref: 1}}},
		{"an array of one element more", arrayWith(1, integersTo(31)...)},
		{"an array of very many elements", arrayWith(1, integersTo(veryMany)...)},
		{"a table with a name", impl.Object{Id: 1, Kind: impl.ObTable, Name: "A", Default: null}},
		{"a table with a Low", impl.Object{Id: 1, Kind: impl.ObTable, Low: 1, Default: null}},
		{"a table with a negative Low", impl.Object{Id: 1, Kind: impl.ObTable, Low: -1, Default: null}},
		{"a table without a default", impl.Object{Id: 1, Kind: impl.ObTable}},
		{"a table with an invalid default", tableWith(1, integerOf(1000000000001))},
		{"a table with a zero default and keys", tableWith(1, impl.Value{}, one, one)},
		{"a table of one key more", tableWith(1, null, pairsTo(31)...)},
		{"a table of very many keys", tableWith(1, null, pairsTo(veryMany)...)},
		{"a table without a value", impl.Object{Id: 1, Kind: impl.ObTable, Keys: []impl.Value{one, two}, Vals: []impl.Value{one}, Default: null}},
		{"a table without values", impl.Object{Id: 1, Kind: impl.ObTable, Keys: []impl.Value{one}, Default: null}},
		{"a table without a key", impl.Object{Id: 1, Kind: impl.ObTable, Keys: []impl.Value{one}, Vals: []impl.Value{one, two}, Default: null}},
		{"a table without keys", impl.Object{Id: 1, Kind: impl.ObTable, Vals: []impl.Value{one}, Default: null}},
		{"a table of equal keys", tableWith(1, null, one, one, one, two)},
		{"a table of equal keys at the ends", tableWith(1, null, append(pairsTo(29), one, null)...)},
		{"a table of equal references as keys", tableWith(1, null, arrayRef(1), one, null, one, arrayRef(1), one)},
		{"a record without a name", recordWith(1, "", null)},
		{"a record whose name is none", recordWith(1, "1", null)},
		{"a record with a long name", recordWith(1, "ABCDEFGHIJKLM", null)},
		{"a record with a very long name", recordWith(1, strings.Repeat("A", 1000000), null)},
		{"a record with a Low", impl.Object{Id: 1, Kind: impl.ObRecord, Low: 1, Name: "R", Keys: fieldNames(1), Vals: []impl.Value{one}}},
		{"a record with a default", impl.Object{Id: 1, Kind: impl.ObRecord, Name: "R", Keys: fieldNames(1), Vals: []impl.Value{one}, Default: null}},
		{"a record without fields", recordWith(1, "R")},
		{"a record of one field more", recordWith(1, "R", integersTo(7)...)},
		{"a record of very many fields", impl.Object{Id: 1, Kind: impl.ObRecord, Name: "R", Keys: slices.Repeat(fieldNames(1), veryMany), Vals: integersTo(veryMany)}},
		{"a record without a value", impl.Object{Id: 1, Kind: impl.ObRecord, Name: "R", Keys: fieldNames(2), Vals: []impl.Value{one}}},
		{"a record without values", impl.Object{Id: 1, Kind: impl.ObRecord, Name: "R", Keys: fieldNames(1)}},
		{"a record without a field", impl.Object{Id: 1, Kind: impl.ObRecord, Name: "R", Keys: fieldNames(1), Vals: []impl.Value{one, two}}},
		{"a record with values only", impl.Object{Id: 1, Kind: impl.ObRecord, Name: "R", Vals: []impl.Value{one}}},
		{"a record of equal fields", impl.Object{Id: 1, Kind: impl.ObRecord, Name: "R", Keys: append(fieldNames(3), fieldNames(1)...), Vals: integersTo(4)}},
	}
	for _, v := range invalidValues() {
		list = append(list,
			namedObject{fmt.Sprintf("an array with the element %.40q", fmt.Sprint(v)), arrayWith(1, one, v)},
			namedObject{fmt.Sprintf("a table with the key %.40q", fmt.Sprint(v)), tableWith(1, null, one, one, v, one)},
			namedObject{fmt.Sprintf("a table with the value %.40q", fmt.Sprint(v)), tableWith(1, null, one, one, two, v)},
			namedObject{fmt.Sprintf("a table with the default %.40q", fmt.Sprint(v)), tableWith(1, v, one, one)},
			namedObject{fmt.Sprintf("a record with the value %.40q", fmt.Sprint(v)), recordWith(1, "R", one, v)},
		)
	}
	for _, v := range append(invalidValues(), null, integerOf(1), patternOf("B"), nameOf("B"), deferOf("B"), arrayRef(1), stringOf("1"), stringOf("A B"), stringOf("ABCDEFGHIJKLM"), stringOf("\xff"), impl.Value{Kind: impl.VkString, Text: "B", Num: 1}, impl.Value{Kind: impl.VkString, Text: "B", Ref: 1}) {
		o := recordWith(1, "R", one, two)
		o.Keys[1] = v
		list = append(list, namedObject{fmt.Sprintf("a record with the field %.40q", fmt.Sprint(v)), o})
	}
	return list
}

// invalidValues returns values of which each is invalid for another reason.
func invalidValues() []impl.Value {
	return []impl.Value{
		{}, {Kind: 9}, {Kind: -1}, {Kind: 1 << 32}, stringOf(strings.Repeat("x", 201)), integerOf(1000000000001), integerOf(-1000000000001), patternOf(""), nameOf("1"), deferOf(""),
		{Kind: impl.VkInteger, Text: "x"}, {Kind: impl.VkString, Num: 1}, {Kind: impl.VkName, Text: "X", Ref: 1},
		arrayRef(0), arrayRef(-1), tableRef(1000001), recordRef(math.MinInt64), {Kind: impl.VkArray, Ref: 1, Num: 1}, {Kind: impl.VkTable, Ref: 1, Text: "x"},
	}
}

// invalidIds are numbers that no object can have.
func invalidIds() []int64 {
	return []int64{0, -1, 1000001, 1 << 32, math.MinInt64, math.MaxInt64}
}

func TestValidObjects(t *testing.T) {
	for _, c := range validObjects() {
		checkEqual(t, c.what+": valid", impl.ValidObject(c.o), true)
		checkList(t, c.what+": references", impl.RefsOf(c.o), nil)
		h := heapWith(c.o.Id, c.o)
		checkEqual(t, c.what+": valid heap", impl.ValidHeap(h), true)
		checkEqual(t, c.what+": size", impl.HeapSize(h), int64(len(c.o.Keys)+len(c.o.Vals)))
		checkObjectAt(t, c.what, h, c.o.Id, c.o, true)
		for _, other := range validObjects() {
			code := int64(impl.OK)
			want := heapWith(c.o.Id, other.o)
			want.Objects[0].Id = c.o.Id
			if other.o.Kind != c.o.Kind {
				want, code = impl.Heap{}, impl.ErrType
			}
			other.o.Id = c.o.Id
			checkSetObject(t, c.what+" is replaced by "+other.what, h, other.o, want, code)
		}
		first := c.o
		first.Id = 1
		for _, id := range append(invalidIds(), 1, 7, 1000000) {
			c.o.Id = id
			checkNewObject(t, c.what, impl.Heap{}, c.o, heapWith(1, first), 1, impl.OK)
		}
	}
}

func TestInvalidObjects(t *testing.T) {
	list := invalidContents()
	for _, id := range invalidIds() {
		for _, c := range validObjects() {
			c.o.Id = id
			list = append(list, namedObject{fmt.Sprintf("%s with the Id %d", c.what, id), c.o})
		}
	}
	h := heapWith(1, arrayWith(1))
	for _, c := range list {
		checkEqual(t, c.what+": valid", impl.ValidObject(c.o), false)
		checkList(t, c.what+": references", impl.RefsOf(c.o), nil)
		checkEqual(t, c.what+": valid heap", impl.ValidHeap(heapWith(2000000, c.o)) || impl.ValidHeap(heapWith(1, c.o)), false)
		checkSetObject(t, c.what, h, c.o, impl.Heap{}, impl.ErrInvalid)
		checkSetObject(t, c.what+", which is the object itself", heapWith(1, c.o), c.o, impl.Heap{}, impl.ErrInvalid)
	}
	for _, c := range invalidContents() {
		for _, id := range append(invalidIds(), 1, 2, 1000000) {
			c.o.Id = id
			checkNewObject(t, c.what, h, c.o, impl.Heap{}, 0, impl.ErrInvalid)
		}
	}
}

// referenceKinds has the kind of objects that belongs to each kind of references.
var referenceKinds = map[int64]int64{impl.VkArray: impl.ObArray, impl.VkTable: impl.ObTable, impl.VkRecord: impl.ObRecord}

// modelValid reports whether a value is valid.
func modelValid(v impl.Value) bool {
	_, text := modelValue(v)
	return text != ""
}

// modelObject reports whether an object is valid, by the columns of the table of chapter 7.
func modelObject(o impl.Object) bool {
	if o.Id < 1 || o.Id > 1000000 || o.Kind < 1 || o.Kind > 3 {
		return false
	}
	isArray, isTable, isRecord := o.Kind == 1, o.Kind == 2, o.Kind == 3
	low := isArray && o.Low >= -1000 && o.Low <= 1000 || o.Low == 0
	most := map[int64]int{1: 0, 2: 30, 3: 6}[o.Kind]
	keys := len(o.Keys) <= most && (!isRecord || len(o.Keys) > 0)
	different := map[impl.Value]bool{}
	for _, v := range o.Keys {
		keys = keys && modelValid(v) && (!isRecord || v == stringOf(v.Text) && nameSyntax.MatchString(v.Text))
		different[v] = true
	}
	vals := isArray && len(o.Vals) <= 30 || len(o.Vals) == len(o.Keys)
	for _, v := range o.Vals {
		vals = vals && modelValid(v)
	}
	def := isTable && modelValid(o.Default) || !isTable && o.Default == impl.Value{}
	title := isRecord && nameSyntax.MatchString(o.Name) || !isRecord && o.Name == ""
	return low && keys && len(different) == len(o.Keys) && vals && def && title
}

// allValues returns all values in an object in the order of tracing.
func allValues(o impl.Object) []impl.Value {
	switch o.Kind {
	case impl.ObArray, impl.ObRecord:
		return o.Vals
	}
	var list []impl.Value
	for i := range o.Keys {
		list = append(list, o.Keys[i], o.Vals[i])
	}
	return append(list, o.Default)
}

// modelFits reports whether a value fits some objects.
func modelFits(list []impl.Object, v impl.Value) bool {
	kind, refers := referenceKinds[v.Kind]
	return modelValid(v) && (!refers || slices.ContainsFunc(list, func(o impl.Object) bool { return o.Id == v.Ref && o.Kind == kind }))
}

// modelHeap reports whether a heap is valid.
func modelHeap(h impl.Heap) bool {
	if h.Next < 0 || h.Next > 1000000 || len(h.Objects) > 40 {
		return false
	}
	for i, o := range h.Objects {
		if !modelObject(o) || o.Id > h.Next || i > 0 && o.Id <= h.Objects[i-1].Id {
			return false
		}
	}
	for _, o := range h.Objects {
		for _, v := range allValues(o) {
			if !modelFits(h.Objects, v) {
				return false
			}
		}
	}
	return true
}

// modelRefs returns the Ids to which some values refer, in order.
func modelRefs(list []impl.Value) []int64 {
	ids := map[int64]bool{}
	for _, v := range list {
		if referenceKinds[v.Kind] != 0 {
			ids[v.Ref] = true
		}
	}
	var sorted []int64
	for id := range ids {
		sorted = append(sorted, id)
	}
	slices.Sort(sorted)
	return sorted
}

// manyObjects calls visit with objects of all combinations of usual and unusual fields.
func manyObjects(visit func(o impl.Object)) {
	one, null, record, long := integerOf(1), stringOf(""), recordRef(2), stringOf(strings.Repeat("x", 201))
	lists := [][]impl.Value{nil, {}, {one}, {null, one}, {one, one}, {arrayRef(3), record, tableRef(1000000)}, {long}, {{}}, {stringOf("A")}, {stringOf("A"), stringOf("a")}, {stringOf("A"), stringOf("A")}, fieldNames(6), fieldNames(7), integersTo(6), integersTo(7), integersTo(30), integersTo(31)}
	for _, id := range []int64{0, 1, 1000000, 1000001} {
		for kind := range int64(5) {
			for _, title := range []string{"", "NODE", "9"} {
				for _, low := range []int64{-1001, -1000, 0, 1000, 1001} {
					for _, keys := range lists {
						for _, vals := range lists {
							for _, def := range []impl.Value{{}, null, record, long} {
								visit(impl.Object{Id: id, Kind: kind, Name: title, Low: low, Keys: keys, Vals: vals, Default: def})
							}
						}
					}
				}
			}
		}
	}
}

func TestObjectsAgainstModel(t *testing.T) {
	valid := map[int64]int{}
	manyObjects(func(o impl.Object) {
		want := modelObject(o)
		if impl.ValidObject(o) != want {
			t.Errorf("%+v: valid %t, want %t", o, !want, want)
		}
		if !want {
			checkList(t, "references of an invalid object", impl.RefsOf(o), nil)
			return
		}
		valid[o.Kind]++
		checkList(t, fmt.Sprint(o), impl.RefsOf(o), modelRefs(allValues(o)))
	})
	for kind, least := range map[int64]int{impl.ObArray: 50, impl.ObTable: 50, impl.ObRecord: 10} {
		if valid[kind] < least {
			t.Errorf("only %d objects of the kind %d were valid", valid[kind], kind)
		}
	}
}

func TestRefsOf(t *testing.T) {
	null, one := stringOf(""), integerOf(1)
	for _, c := range []struct {
		what string
		o    impl.Object
		want []int64
	}{
		{"values that refer to nothing", arrayWith(1, null, one, patternOf("array#1"), nameOf("X"), deferOf("X"), stringOf("array#1")), nil},
		{"another order and repetitions", arrayWith(9, tableRef(8), recordRef(3), null, arrayRef(8), recordRef(2), tableRef(8), arrayRef(1000000), arrayRef(1)), []int64{1, 2, 3, 8, 1000000}},
		{"an object that refers to itself", recordWith(5, "R", recordRef(5)), []int64{5}},
		{"the Id alone", arrayWith(5), nil},
		{"keys", tableWith(1, null, tableRef(4), one, arrayRef(3), null), []int64{3, 4}},
		{"the default alone", tableWith(1, recordRef(7)), []int64{7}},
		{"keys, values and the default", tableWith(1, arrayRef(1), arrayRef(5), arrayRef(4), arrayRef(3), arrayRef(2)), []int64{1, 2, 3, 4, 5}},
		{"the same object in all places", tableWith(1, arrayRef(5), arrayRef(5), arrayRef(5), null, arrayRef(5)), []int64{5}},
		{"fields", recordWith(1, "R", one, arrayRef(2), tableRef(1)), []int64{1, 2}},
	} {
		checkList(t, c.what, impl.RefsOf(c.o), c.want)
	}
	var many []impl.Value
	var ids []int64
	for i := range int64(30) {
		many = append(many, arrayRef(60-2*i))
		ids = append(ids, 2+2*i)
	}
	checkList(t, "MaxElements references", impl.RefsOf(arrayWith(1, many...)), ids)
}

// namedHeap is a heap with a description.
type namedHeap struct {
	what string
	h    impl.Heap
}

// validHeaps returns heaps that are just valid.
func validHeaps() []namedHeap {
	return []namedHeap{
		{"the zero heap", impl.Heap{}},
		{"an empty list", impl.Heap{Objects: []impl.Object{}}},
		{"no objects but a Next", heapWith(1000000)},
		{"one object", heapWith(1, arrayWith(1))},
		{"objects after which others were removed", heapWith(1000000, arrayWith(1), arrayWith(7))},
		{"an object that refers to itself", heapWith(1, tableWith(1, tableRef(1), tableRef(1), tableRef(1)))},
		{"references in both directions", heapWith(2, arrayWith(1, arrayRef(2)), arrayWith(2, arrayRef(1)))},
		{"the last Id", heapWith(1000000, arrayWith(1, recordRef(1000000)), recordWith(1000000, "R", arrayRef(1)))},
		{"MaxObjects objects", heapWith(40, arraysTo(40)...)},
		{"equal contents", heapWith(2, recordWith(1, "R", integerOf(1)), recordWith(2, "R", integerOf(1)))},
		{"records of a name with different fields", heapWith(2, recordWith(1, "R", integerOf(1)), recordWith(2, "R", integersTo(2)...))},
		{"all kinds", exampleHeap()},
		{"as much as possible", fullHeap()},
	}
}

// invalidHeaps returns heaps of which each is invalid for another reason.
func invalidHeaps() []namedHeap {
	list := []namedHeap{
		{"a negative Next", heapWith(-1)},
		{"the least Next", heapWith(math.MinInt64)},
		{"a Next above MaxObjectId", heapWith(1000001)},
		{"the greatest Next", heapWith(math.MaxInt64, arrayWith(1))},
		{"an Id above Next", heapWith(1, arrayWith(1), arrayWith(2))},
		{"an Id and no Next", heapWith(0, arrayWith(1))},
		{"equal Ids", heapWith(2, arrayWith(1), arrayWith(1))},
		{"equal Ids of different kinds", heapWith(2, arrayWith(2), tableWith(2, integerOf(1)))},
		{"descending Ids", heapWith(3, arrayWith(3), arrayWith(2))},
		{"descending Ids after others", heapWith(9, arrayWith(1), arrayWith(2), arrayWith(5), arrayWith(4))},
		{"an object more than MaxObjects", heapWith(41, arraysTo(41)...)},
		{"very many objects", heapWith(1000000, arraysTo(veryMany)...)},
		{"zero objects", heapWith(40, make([]impl.Object, 3)...)},
		{"a zero object at the end", heapWith(40, append(arraysTo(39), impl.Object{})...)},
	}
	for _, id := range invalidIds() {
		list = append(list, namedHeap{fmt.Sprintf("the Id %d", id), heapWith(1000000, arrayWith(id))})
		list = append(list, namedHeap{fmt.Sprintf("the Id %d before another", id), heapWith(1000000, arrayWith(id), arrayWith(1000000))})
	}
	for _, c := range invalidContents() {
		list = append(list, namedHeap{c.what, heapWith(1, c.o)})
	}
	for _, v := range strayReferences() {
		for _, o := range holdersOf(v) {
			h := exampleHeap()
			h.Objects[o.Id-9] = o
			h.Objects[o.Id-9].Id = exampleHeap().Objects[o.Id-9].Id
			list = append(list, namedHeap{fmt.Sprintf("%+v in an object of the kind %d", v, o.Kind), h})
		}
	}
	return list
}

// strayReferences returns valid values that do not fit exampleHeap.
func strayReferences() []impl.Value {
	return []impl.Value{
		arrayRef(3), tableRef(3), recordRef(3), arrayRef(5), arrayRef(9), tableRef(9), recordRef(9), arrayRef(10), arrayRef(11), arrayRef(1000000),
		tableRef(1), recordRef(1), arrayRef(2), recordRef(2), arrayRef(4), tableRef(4), tableRef(8), recordRef(8),
	}
}

// holdersOf returns objects that have a value in each place in which an object can have one. They have
// the Ids from 9 on, and can stand in the places of the objects of exampleHeap.
func holdersOf(v impl.Value) []impl.Object {
	one, null := integerOf(1), stringOf("")
	return []impl.Object{
		arrayWith(9, v), arrayWith(9, one, arrayRef(1), v),
		tableWith(10, v), tableWith(10, v, one, one), tableWith(10, null, v, one), tableWith(10, null, one, one, v, one), tableWith(10, null, one, v), tableWith(10, null, one, one, null, v), tableWith(10, tableRef(2), one, arrayRef(1), v, recordRef(4)),
		recordWith(11, "R", v), recordWith(11, "R", recordRef(4), one, v),
	}
}

func TestValidHeaps(t *testing.T) {
	for _, c := range validHeaps() {
		checkEqual(t, c.what+": valid", impl.ValidHeap(c.h), true)
		checkEqual(t, c.what+": an integer fits", impl.FitsHeap(c.h, integerOf(1)), true)
		size := 0
		for _, o := range c.h.Objects {
			checkObjectAt(t, c.what, c.h, o.Id, o, true)
			size += len(o.Keys) + len(o.Vals)
			checkSetObject(t, c.what+": an object is replaced by itself", c.h, o, c.h, impl.OK)
		}
		checkEqual(t, c.what+": size", impl.HeapSize(c.h), int64(size))
	}
}

func TestInvalidHeaps(t *testing.T) {
	for _, c := range invalidHeaps() {
		checkEqual(t, c.what+": valid", impl.ValidHeap(c.h), false)
		checkEqual(t, c.what+": an integer fits", impl.FitsHeap(c.h, integerOf(1)), false)
		checkEqual(t, c.what+": an array fits", impl.FitsHeap(c.h, arrayRef(1)), false)
		checkNewObject(t, c.what, c.h, arrayWith(1), impl.Heap{}, 0, impl.ErrInvalid)
		for _, id := range []int64{0, 1, 2, 8, 1000000} {
			checkObjectAt(t, c.what, c.h, id, impl.Object{}, false)
			checkSetObject(t, c.what, c.h, arrayWith(id), impl.Heap{}, impl.ErrInvalid)
		}
		checkEqual(t, c.what+": size", impl.HeapSize(c.h), int64(-1))
		checkEqual(t, c.what+": the same", impl.SameHeap(c.h, copyHeap(c.h)), true)
	}
}

func TestFitsHeap(t *testing.T) {
	h := exampleHeap()
	for _, v := range []impl.Value{stringOf(""), integerOf(-1000000000000), patternOf("p"), nameOf("X"), deferOf("X"), stringOf("array#3"), arrayRef(1), tableRef(2), recordRef(4), arrayRef(8)} {
		checkEqual(t, fmt.Sprintf("%+v fits", v), impl.FitsHeap(h, v), true)
		checkEqual(t, fmt.Sprintf("%+v fits the zero heap", v), impl.FitsHeap(impl.Heap{}, v), !impl.IsReference(v))
	}
	for _, v := range slices.Concat(invalidValues(), strayReferences(), []impl.Value{{Kind: impl.VkArray, Ref: 1, Num: 1}, {Kind: impl.VkArray, Ref: 1, Text: "x"}}) {
		checkEqual(t, fmt.Sprintf("%.60q fits", fmt.Sprint(v)), impl.FitsHeap(h, v), false)
	}
	for _, v := range []impl.Value{arrayRef(999961), tableRef(999962), recordRef(999999), arrayRef(1000000)} {
		checkEqual(t, fmt.Sprintf("%+v fits a full heap", v), impl.FitsHeap(fullHeap(), v), true)
	}
}

func TestSameHeap(t *testing.T) {
	one, two := integerOf(1), integerOf(2)
	list := []impl.Heap{
		{}, heapWith(1), heapWith(-1), heapWith(1, impl.Object{}), heapWith(1, impl.Object{}, impl.Object{}), heapWith(1, impl.Object{Id: 1}), heapWith(1, impl.Object{Id: -1}),
		heapWith(1, arrayWith(1)), heapWith(2, arrayWith(1)), heapWith(1, arrayWith(2)), heapWith(1, impl.Object{Id: 1, Kind: impl.ObArray}),
		heapWith(1, arrayWith(1, one)), heapWith(1, arrayWith(1, two)), heapWith(1, arrayWith(1, one, two)), heapWith(1, arrayWith(1, two, one)), heapWith(1, arrayWith(1, impl.Value{})),
		heapWith(1, impl.Object{Id: 1, Kind: impl.ObArray, Low: 1, Keys: []impl.Value{one}}), heapWith(1, impl.Object{Id: 1, Kind: impl.ObArray, Low: 1, Default: one}), heapWith(1, impl.Object{Id: 1, Kind: impl.ObArray, Low: 1, Name: "A"}),
		heapWith(1, tableWith(1, one)), heapWith(1, tableWith(1, two)), heapWith(1, tableWith(1, one, one, two)), heapWith(1, tableWith(1, one, two, one)), heapWith(1, tableWith(1, one, one, two, two, one)), heapWith(1, tableWith(1, one, two, one, one, two)),
		heapWith(1, recordWith(1, "R", one)), heapWith(1, recordWith(1, "r", one)), heapWith(1, recordWith(1, "R", arrayRef(1))), heapWith(1, recordWith(1, "R", arrayRef(2))), heapWith(1, recordWith(1, "R", tableRef(1))),
		heapWith(2, arrayWith(1), arrayWith(2)), heapWith(2, arrayWith(2), arrayWith(1)), heapWith(2, arrayWith(1), arrayWith(1)), heapWith(2, arrayWith(1), arrayWith(2, one)), heapWith(2, arrayWith(1, one), arrayWith(2)),
		heapWith(1000000, arraysTo(100000)...), heapWith(1000000, arraysTo(100001)...), heapWith(1, arrayWith(1, integersTo(100000)...)), heapWith(1, arrayWith(1, append(integersTo(99999), two)...)),
		exampleHeap(), fullHeap(),
	}
	for i, a := range list {
		for j, b := range list {
			checkEqual(t, fmt.Sprintf("%.100q and %.100q", fmt.Sprint(i, a.Next), fmt.Sprint(j, b.Next)), impl.SameHeap(a, copyHeap(b)), i == j)
		}
	}
	empty := impl.Object{Id: 1, Kind: impl.ObArray, Low: 1, Keys: []impl.Value{}, Vals: []impl.Value{}}
	checkEqual(t, "nil and empty objects", impl.SameHeap(impl.Heap{}, impl.Heap{Objects: []impl.Object{}}), true)
	checkEqual(t, "nil and empty values", impl.SameHeap(heapWith(1, empty), heapWith(1, arrayWith(1))), true)
}

func TestNewObject(t *testing.T) {
	null := stringOf("")
	h := exampleHeap()
	for _, o := range []impl.Object{arrayWith(0), arrayWith(4, arrayRef(1), arrayRef(1), recordRef(4)), tableWith(-5, tableRef(2), arrayRef(8), null, null, recordRef(4)), recordWith(1000001, "NODE", arrayRef(8), null)} {
		want := copyHeap(h)
		want.Next = 10
		want.Objects = append(want.Objects, o)
		want.Objects[4].Id = 10
		checkNewObject(t, fmt.Sprint(o), h, o, want, 10, impl.OK)
	}
	for _, v := range strayReferences() {
		for _, o := range holdersOf(v) {
			checkNewObject(t, fmt.Sprint(o), h, o, impl.Heap{}, 0, impl.ErrInvalid)
		}
	}
	checkNewObject(t, "an array that contains itself", h, arrayWith(10, arrayRef(10)), impl.Heap{}, 0, impl.ErrInvalid)
	checkNewObject(t, "a table that contains itself in an empty heap", impl.Heap{}, tableWith(1, tableRef(1)), impl.Heap{}, 0, impl.ErrInvalid)
	checkNewObject(t, "an object after others that were removed", heapWith(77), arrayWith(1), heapWith(78, arrayWith(78)), 78, impl.OK)
}

func TestNewObjectLimits(t *testing.T) {
	checkNewObject(t, "the last of MaxObjects objects", heapWith(39, arraysTo(39)...), arrayWith(0, arrayRef(39)), heapWith(40, append(arraysTo(39), arrayWith(40, arrayRef(39)))...), 40, impl.OK)
	checkNewObject(t, "one object more", heapWith(40, arraysTo(40)...), arrayWith(0), impl.Heap{}, 0, impl.ErrFull)
	checkNewObject(t, "the last Id", heapWith(999999, arrayWith(1)), arrayWith(0), heapWith(1000000, arrayWith(1), arrayWith(1000000)), 1000000, impl.OK)
	checkNewObject(t, "no further Id", heapWith(1000000, arrayWith(1)), arrayWith(0), impl.Heap{}, 0, impl.ErrFull)
	checkNewObject(t, "no further Id without objects", heapWith(1000000), arrayWith(0), impl.Heap{}, 0, impl.ErrFull)
	checkNewObject(t, "MaxObjects objects and the last Id", fullHeap(), arrayWith(0), impl.Heap{}, 0, impl.ErrFull)
	for _, h := range []impl.Heap{heapWith(40, arraysTo(40)...), heapWith(1000000), fullHeap()} {
		for _, o := range []impl.Object{{}, arrayWith(1, integersTo(31)...), arrayWith(1, arrayRef(41)), recordWith(1, "R", tableRef(1))} {
			checkNewObject(t, "an invalid object and no room for it", h, o, impl.Heap{}, 0, impl.ErrInvalid)
		}
	}
	checkNewObject(t, "an invalid heap of MaxObjects objects", heapWith(39, arraysTo(40)...), arrayWith(0), impl.Heap{}, 0, impl.ErrInvalid)
	checkNewObject(t, "a heap of more than MaxObjects objects", heapWith(41, arraysTo(41)...), arrayWith(0), impl.Heap{}, 0, impl.ErrInvalid)
	checkNewObject(t, "a Next above MaxObjectId", heapWith(1000001), arrayWith(0), impl.Heap{}, 0, impl.ErrInvalid)
}

func TestObjectAt(t *testing.T) {
	h := exampleHeap()
	for _, id := range append(invalidIds(), 3, 5, 7, 9, 10, 1000000) {
		checkObjectAt(t, fmt.Sprint("no object ", id), h, id, impl.Object{}, false)
	}
	for _, o := range h.Objects {
		checkObjectAt(t, fmt.Sprint("object ", o.Id), h, o.Id, o, true)
	}
	checkObjectAt(t, "the first object of a full heap", fullHeap(), 999961, fullHeap().Objects[0], true)
	checkObjectAt(t, "the last object of a full heap", fullHeap(), 1000000, fullHeap().Objects[39], true)
	checkObjectAt(t, "an object before those of a full heap", fullHeap(), 999960, impl.Object{}, false)
}

func TestSetObject(t *testing.T) {
	null := stringOf("")
	h := exampleHeap()
	for i, list := range [][]impl.Object{
		{arrayWith(1), arrayWith(1, arrayRef(1), recordRef(4)), {Id: 1, Kind: impl.ObArray, Low: -7, Vals: []impl.Value{null}}},
		{tableWith(2, null), tableWith(2, tableRef(2), tableRef(2), tableRef(2)), tableWith(2, arrayRef(8), null, null, integerOf(1), recordRef(4))},
		{recordWith(4, "NODE", null, null, null), recordWith(4, "OTHER", recordRef(4)), recordWith(4, "NODE", integersTo(6)...)},
		{arrayWith(8, tableRef(2)), arrayWith(8, arrayRef(1), arrayRef(8)), arrayWith(8, integersTo(30)...)},
	} {
		for _, o := range list {
			want := copyHeap(h)
			want.Objects[i] = o
			checkSetObject(t, fmt.Sprint(o), h, o, want, impl.OK)
		}
	}
	for _, v := range strayReferences() {
		for _, o := range holdersOf(v) {
			for _, id := range []int64{1, 2, 3, 4, 10} {
				o.Id = id
				checkSetObject(t, fmt.Sprint(o), h, o, impl.Heap{}, impl.ErrInvalid)
			}
		}
	}
}

func TestSetObjectErrors(t *testing.T) {
	null := stringOf("")
	h := exampleHeap()
	for _, id := range []int64{3, 5, 7, 9, 10, 1000000} {
		for _, o := range []impl.Object{arrayWith(id), tableWith(id, null), recordWith(id, "R", arrayRef(1))} {
			checkSetObject(t, fmt.Sprint("no object ", id), h, o, impl.Heap{}, impl.ErrNotFound)
		}
		checkSetObject(t, "no object in the zero heap", impl.Heap{}, arrayWith(id), impl.Heap{}, impl.ErrNotFound)
		checkSetObject(t, "no object, which contains itself", h, arrayWith(id, arrayRef(id)), impl.Heap{}, impl.ErrInvalid)
	}
	for _, old := range h.Objects {
		for _, o := range []impl.Object{arrayWith(old.Id, arrayRef(1)), tableWith(old.Id, tableRef(2)), recordWith(old.Id, "NODE", null)} {
			if o.Kind != old.Kind {
				checkSetObject(t, fmt.Sprint("another kind at ", old.Id), h, o, impl.Heap{}, impl.ErrType)
			}
		}
	}
	checkSetObject(t, "another kind, which contains itself", h, tableWith(1, tableRef(1)), impl.Heap{}, impl.ErrInvalid)
	checkSetObject(t, "another kind with an invalid value", h, tableWith(1, impl.Value{}), impl.Heap{}, impl.ErrInvalid)
	checkSetObject(t, "another kind in a full heap", fullHeap(), arrayWith(999962), impl.Heap{}, impl.ErrType)
	checkSetObject(t, "no object in a full heap", fullHeap(), arrayWith(999960), impl.Heap{}, impl.ErrNotFound)
	full := fullHeap()
	full.Objects[39] = arrayWith(1000000)
	checkSetObject(t, "an object of a full heap", fullHeap(), arrayWith(1000000), full, impl.OK)
}

// heapMaker makes the same heaps in every run.
type heapMaker struct {
	*rand.Rand
}

// value returns a value that fits some objects. It refers to one of them in most cases.
func (m heapMaker) value(list []impl.Object) impl.Value {
	if len(list) == 0 || m.Intn(4) == 0 {
		return []impl.Value{stringOf(""), integerOf(int64(m.Intn(5))), patternOf("p"), nameOf("X"), stringOf("array#1")}[m.Intn(5)]
	}
	return referenceTo(list[m.Intn(len(list))])
}

// fill returns an object of the same Id and kind with a new content.
func (m heapMaker) fill(o impl.Object, list []impl.Object) impl.Object {
	count := m.Intn(4)
	var vals, keys []impl.Value
	for range count + 1 {
		vals = append(vals, m.value(list))
		if key := m.value(list); !slices.Contains(keys, key) {
			keys = append(keys, key)
		}
	}
	switch o.Kind {
	case impl.ObArray:
		return impl.Object{Id: o.Id, Kind: o.Kind, Low: int64(m.Intn(2001) - 1000), Vals: vals[:count]}
	case impl.ObTable:
		return impl.Object{Id: o.Id, Kind: o.Kind, Keys: keys, Vals: vals[:len(keys)], Default: m.value(list)}
	}
	return recordWith(o.Id, []string{"NODE", "R"}[m.Intn(2)], vals...)
}

// heap returns a valid heap of up to count objects.
func (m heapMaker) heap(count int) impl.Heap {
	h := impl.Heap{Next: int64(m.Intn(3))}
	for range m.Intn(count + 1) {
		h.Next += int64(m.Intn(3))
		h.Objects = append(h.Objects, impl.Object{Id: h.Next + 1, Kind: int64(m.Intn(3) + 1)})
		h.Next++
	}
	h.Next += int64(m.Intn(3))
	for i, o := range h.Objects {
		h.Objects[i] = m.fill(o, h.Objects)
	}
	return h
}

// spoil returns a heap that differs in one place, and is invalid in most cases.
func (m heapMaker) spoil(h impl.Heap) impl.Heap {
	h = copyHeap(h)
	if len(h.Objects) == 0 {
		h.Next = []int64{-1, 1000000, 1000001}[m.Intn(3)]
		return h
	}
	o := &h.Objects[m.Intn(len(h.Objects))]
	values := slices.Concat(invalidValues(), []impl.Value{integerOf(1), arrayRef(o.Id), tableRef(o.Id), recordRef(o.Id), arrayRef(o.Id + 1), tableRef(o.Id - 1), stringOf("A"), stringOf("Z")})
	v := values[m.Intn(len(values))]
	switch m.Intn(9) {
	case 0:
		h.Next = o.Id - int64(m.Intn(2))
	case 1:
		o.Id += int64(m.Intn(5) - 2)
	case 2:
		o.Kind = int64(m.Intn(5))
	case 3:
		o.Name = []string{"", "R", "1"}[m.Intn(3)]
	case 4:
		o.Low = []int64{-1001, -1000, 0, 1000, 1001}[m.Intn(5)]
	case 5:
		o.Default = v
	case 6:
		o.Vals = append(o.Vals, v)
	default:
		list := [][]impl.Value{o.Keys, o.Vals}[m.Intn(2)]
		if len(list) > 0 {
			list[m.Intn(len(list))] = v
		}
	}
	return h
}

func TestHeapsAgainstModel(t *testing.T) {
	m := heapMaker{rand.New(rand.NewSource(31))}
	valid, fitting := 0, 0
	const count = 20000
	for range count {
		whole := m.heap(6)
		checkEqual(t, fmt.Sprint(whole), impl.ValidHeap(whole), true)
		h := m.spoil(whole)
		want := modelHeap(h)
		checkEqual(t, fmt.Sprint(h), impl.ValidHeap(h), want)
		checkEqual(t, "equal", impl.SameHeap(h, whole), equalHeaps(h, whole))
		if want {
			valid++
		}
		for _, v := range []impl.Value{m.value(whole.Objects), arrayRef(int64(m.Intn(9))), tableRef(int64(m.Intn(9))), recordRef(int64(m.Intn(9)))} {
			fits := want && modelFits(h.Objects, v)
			checkEqual(t, fmt.Sprint(v, " fits ", h), impl.FitsHeap(h, v), fits)
			if fits {
				fitting++
			}
		}
	}
	if valid < count/10 || valid > count*9/10 || fitting < count/10 {
		t.Errorf("%d of %d heaps are valid, and %d values fit", valid, count, fitting)
	}
}

// checkUnchanged checks that a heap has the objects of another one, but for one Id.
func checkUnchanged(t *testing.T, before, after impl.Heap, except int64) {
	t.Helper()
	for _, o := range before.Objects {
		if o.Id != except {
			checkObjectAt(t, "an unchanged object", after, o.Id, o, true)
		}
	}
	for _, o := range after.Objects {
		_, found := impl.ObjectAt(before, o.Id)
		checkEqual(t, fmt.Sprint("an object that is new: ", o.Id), found, o.Id != except)
	}
}

// checkNoStrayReference checks that every reference in a heap leads to an object.
func checkNoStrayReference(t *testing.T, h impl.Heap) {
	t.Helper()
	for _, o := range h.Objects {
		for _, id := range impl.RefsOf(o) {
			if _, found := impl.ObjectAt(h, id); !found {
				t.Errorf("%+v: there is no object %d", o, id)
			}
		}
	}
	checkEqual(t, fmt.Sprint(h), modelHeap(h), true)
}

// TestObjectsAreReadBack is promise 8, for single additions and replacements in any heap.
func TestObjectsAreReadBack(t *testing.T) {
	m := heapMaker{rand.New(rand.NewSource(32))}
	codes := map[string]int{}
	for range 8000 {
		h := m.heap(5)
		near := append(h.Objects, impl.Object{Id: h.Next + 1, Kind: impl.ObArray}, impl.Object{Id: h.Next, Kind: impl.ObTable})
		o := m.fill(impl.Object{Id: int64(m.Intn(12)), Kind: int64(m.Intn(3) + 1)}, near[:len(h.Objects)+m.Intn(3)])
		added, id, code := impl.NewObject(h, o)
		codes[fmt.Sprint("new ", code)]++
		if code == impl.OK {
			checkEqual(t, "Id", id, h.Next+1)
			checkEqual(t, "Next", added.Next, id)
			want := o
			want.Id = id
			checkObjectAt(t, "an added object", added, id, want, true)
			checkUnchanged(t, h, added, id)
			checkEqual(t, "objects", len(added.Objects), len(h.Objects)+1)
			checkNoStrayReference(t, added)
		}
		set, code := impl.SetObject(h, o)
		codes[fmt.Sprint("set ", code)]++
		if code == impl.OK {
			checkObjectAt(t, "a replaced object", set, o.Id, o, true)
			checkEqual(t, "Next", set.Next, h.Next)
			checkEqual(t, "objects", len(set.Objects), len(h.Objects))
			for _, other := range h.Objects {
				if other.Id != o.Id {
					checkObjectAt(t, "an unchanged object", set, other.Id, other, true)
				}
			}
			checkNoStrayReference(t, set)
		}
	}
	for _, what := range []string{"new 0", "new 1", "set 0", "set 1", "set 11", "set 4"} {
		if codes[what] < 100 {
			t.Errorf("%s: only %d times", what, codes[what])
		}
	}
}

// TestHeapsGrowAsTheModelDoes is promise 8, for long series of additions and replacements.
func TestHeapsGrowAsTheModelDoes(t *testing.T) {
	m := heapMaker{rand.New(rand.NewSource(33))}
	full := 0
	for range 60 {
		h := impl.Heap{}
		var model []impl.Object
		for range 120 {
			if m.Intn(2) == 0 {
				o := m.fill(impl.Object{Kind: int64(m.Intn(3) + 1)}, model)
				added, id, code := impl.NewObject(h, o)
				if len(model) == 40 {
					checkEqual(t, "code", code, impl.ErrFull)
					full++
					continue
				}
				o.Id = int64(len(model) + 1)
				checkEqual(t, "Id", id, o.Id)
				h, model = added, append(model, o)
			} else if len(model) > 0 {
				at := m.Intn(len(model))
				o := m.fill(model[at], model)
				set, code := impl.SetObject(h, o)
				checkEqual(t, "code", code, impl.OK)
				h, model[at] = set, o
			}
			checkHeap(t, "after a step", h, heapWith(int64(len(model)), model...))
		}
	}
	if full < 60 {
		t.Errorf("a heap was full only %d times", full)
	}
}

func TestHeapSize(t *testing.T) {
	null := stringOf("")
	for _, c := range []struct {
		what string
		h    impl.Heap
		want int64
	}{
		{"the zero heap", impl.Heap{}, 0},
		{"objects without elements", heapWith(2, arrayWith(1), tableWith(2, arrayRef(1))), 0},
		{"an array", heapWith(1, arrayWith(1, null, null, null)), 3},
		{"a table", heapWith(1, tableWith(1, null, null, null, integerOf(1), null)), 4},
		{"a record", heapWith(1, recordWith(1, "R", null, null, null)), 6},
		{"objects that refer to each other", exampleHeap(), 14},
		{"as much as possible", fullHeap(), 14*30 + 13*60 + 13*12},
	} {
		checkEqual(t, c.what, impl.HeapSize(c.h), c.want)
	}
}
