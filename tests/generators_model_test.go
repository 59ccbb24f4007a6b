package tests

import (
	"bytes"
	"errors"
	"fmt"
	"maps"
	"math/big"
	"slices"
	"strings"
	"testing"

	"loop.example/g00873/impl"
)

// genRow is a row of the tables of chapter 22 about expressions and cursors.
type genRow struct {
	// form has %s for each Kid, for the name, the number and the value.
	form   string
	name   bool
	number bool
	// kids is the number of Kids, and vals that of the Vals of a cursor.
	kids, vals int
	// kept has, by phase, the Kids whose cursors are kept in a suspended cursor.
	kept map[int64][]int
	// count is the greatest Count, and 0 if Count is not used.
	count int64
}

// genRows has the rows by kind.
var genRows = makeGenRows()

func makeGenRows() map[int64]genRow {
	alone, one := map[int64][]int{1: nil}, map[int64][]int{1: {0}}
	two, three := map[int64][]int{1: {0, 1}}, map[int64][]int{1: {0, 1, 2}}
	return map[int64]genRow{
		1:  {form: "%s", kept: alone},
		2:  {form: "%s", name: true, kept: alone},
		3:  {form: "fail()"},
		4:  {form: "alt(%s,%s)", kids: 2, kept: map[int64][]int{1: {0}, 2: {1}}},
		5:  {form: "and(%s,%s)", kids: 2, kept: two},
		6:  {form: "limit(%s,%s)", number: true, kids: 1, kept: one, count: -1},
		7:  {form: "not(%s)", kids: 1, kept: alone},
		8:  {form: "if(%s,%s,%s)", kids: 3, kept: map[int64][]int{2: {1}, 3: {2}}},
		9:  {form: "every(%s,%s)", kids: 2},
		10: {form: "repeat(%s)", kids: 1, kept: one},
		11: {form: "%s(%s,%s)", kids: 2, vals: 2, kept: two},
		12: {form: "to(%s,%s,%s)", kids: 3, vals: 3, kept: three, count: 2000000000001},
		13: {form: "each(%s)", kids: 1, vals: 1, kept: one, count: 200},
		14: {form: "index(%s,%s)", kids: 2, vals: 2, kept: two},
		15: {form: "store(%s,%s,%s)", kids: 3, vals: 3, kept: three},
		16: {form: "set(%s,%s)", name: true, kids: 1, vals: 1, kept: one},
		17: {form: "back(%s,%s)", name: true, kids: 1, vals: 2, kept: one},
		18: {form: "activate(%s)", kids: 1, vals: 1, kept: one},
	}
}

var genOperators = strings.Fields("add sub mul div cat lt le eq ne gt ge seq sne slt is")

// modelGen returns the number of nodes and the text form of an expression. The
// number is 1000 if it is invalid; there is no text form if it is above 60.
func modelGen(e impl.Gen) (int, string) {
	row, isKind := genRows[e.Kind]
	value := e.Kind == impl.GnValue
	isValid := isKind && len(e.Kids) == row.kids && (row.number || e.Num == 0) && e.Num >= 0 && e.Num <= 60 && (value || e.Value == impl.Value{})
	var parts []any
	switch {
	case value:
		dataType, text := modelValue(e.Value)
		isValid = isValid && e.Text == "" && slices.Contains([]string{"string", "integer", "array", "table", "record"}, dataType)
		parts = append(parts, text)
	case e.Kind == impl.GnOp:
		isValid = isValid && slices.Contains(genOperators, e.Text)
		parts = append(parts, e.Text)
	case row.name:
		isValid = isValid && nameSyntax.MatchString(e.Text)
		parts = append(parts, e.Text)
	case row.number:
		isValid = isValid && e.Text == ""
		parts = append(parts, fmt.Sprint(e.Num))
	default:
		isValid = isValid && e.Text == ""
	}
	if !isValid {
		return 1000, ""
	}
	nodes := 1
	for _, kid := range e.Kids {
		count, text := modelGen(kid)
		nodes = min(nodes+count, 1000)
		parts = append(parts, text)
	}
	if nodes > 60 {
		return nodes, ""
	}
	return nodes, fmt.Sprintf(row.form, parts...)
}

func isModelGen(e impl.Gen) bool {
	nodes, _ := modelGen(e)
	return nodes <= 60
}

// genNodes returns the nodes of an expression, each one before its Kids.
func genNodes(e impl.Gen) []impl.Gen {
	list := []impl.Gen{e}
	for _, kid := range e.Kids {
		list = append(list, genNodes(kid)...)
	}
	return list
}

func isModelPure(e impl.Gen) bool {
	return isModelGen(e) && !slices.ContainsFunc(genNodes(e), func(node impl.Gen) bool { return node.Kind >= impl.GnStore })
}

// fitsGen reports whether the values of an expression fit some objects.
func fitsGen(list []impl.Object, e impl.Gen) bool {
	return !slices.ContainsFunc(genNodes(e), func(node impl.Gen) bool {
		return node.Kind == impl.GnValue && !modelFits(list, node.Value)
	})
}

func isZeroCursor(c impl.Cursor) bool {
	return equalCursors(c, impl.Cursor{})
}

// isModelCursor reports whether a cursor is a suspended one of a valid expression.
func isModelCursor(list []impl.Object, e impl.Gen, c impl.Cursor) bool {
	row := genRows[e.Kind]
	kept, isPhase := row.kept[c.Phase]
	if !isPhase || len(c.Vals) != row.vals || len(c.Kids) != len(kept) {
		return false
	}
	highest := row.count
	if e.Kind == impl.GnLimit {
		highest = e.Num
	}
	if row.count == 0 && c.Count != 0 || row.count != 0 && (c.Count < 1 || c.Count > highest) {
		return false
	}
	for _, v := range c.Vals {
		if !modelFits(list, v) {
			return false
		}
	}
	for i, at := range kept {
		if !isModelCursor(list, e.Kids[at], c.Kids[i]) {
			return false
		}
	}
	return true
}

func areModelVars(list []impl.Object, vars []impl.Binding) bool {
	return modelScope(impl.Scope{Vars: vars}) && !slices.ContainsFunc(vars, func(b impl.Binding) bool { return !modelFits(list, b.Value) })
}

func isModelCo(list []impl.Object, x impl.Coexpr) bool {
	isNumbered := x.Id >= 1 && x.Id <= 1000000 && x.Count >= 0 && x.Count <= 1000000
	if !isNumbered || !isModelGen(x.Body) || !fitsGen(list, x.Body) || !areModelVars(list, x.Start) || !areModelVars(list, x.Vars) {
		return false
	}
	if x.Done || x.Count == 0 {
		return isZeroCursor(x.Cursor)
	}
	return isModelCursor(list, x.Body, x.Cursor)
}

func isModelGenScope(s impl.GenScope) bool {
	list := s.Heap.Objects
	if !modelHeap(s.Heap) || !areModelVars(list, s.Vars) || len(s.Cos) > 8 || s.Steps < 0 || s.Steps > 20000 {
		return false
	}
	last := int64(0)
	for _, x := range s.Cos {
		if !isModelCo(list, x) || x.Id <= last {
			return false
		}
		last = x.Id
	}
	return true
}

func isModelState(s impl.GenScope, e impl.Gen, c impl.Cursor) bool {
	return isModelGenScope(s) && isModelGen(e) && fitsGen(s.Heap.Objects, e) && (isZeroCursor(c) || isModelCursor(s.Heap.Objects, e, c))
}

// genRun is a model of evaluation: it calls a function with each result,
// instead of keeping a state between two results.
type genRun struct {
	vars   map[string]impl.Value
	heap   impl.Heap
	cos    []impl.Coexpr
	steps  int64
	active []int64
}

// errEnded is what the model panics with.
type errEnded int64

func (e errEnded) Error() string { return impl.CodeName(int64(e)) }

func varMap(list []impl.Binding) map[string]impl.Value {
	vars := map[string]impl.Value{}
	for _, b := range list {
		vars[b.Name] = b.Value
	}
	return vars
}

func varList(vars map[string]impl.Value) []impl.Binding {
	var list []impl.Binding
	for _, name := range slices.Sorted(maps.Keys(vars)) {
		list = append(list, binding(name, vars[name]))
	}
	return list
}

func newGenRun(s impl.GenScope) *genRun {
	s = copyGenScope(s)
	return &genRun{vars: varMap(s.Vars), heap: s.Heap, cos: s.Cos, steps: s.Steps}
}

func (r *genRun) scope() impl.GenScope {
	return copyGenScope(impl.GenScope{Vars: varList(r.vars), Heap: r.heap, Cos: r.cos, Steps: r.steps})
}

func (r *genRun) step() {
	if r.steps == 0 {
		panic(errEnded(impl.ErrSteps))
	}
	r.steps--
}

func (r *genRun) value(name string) impl.Value {
	if v, found := r.vars[name]; found {
		return v
	}
	return stringOf("")
}

func (r *genRun) assign(name string, v impl.Value) {
	delete(r.vars, name)
	if v == stringOf("") {
		return
	}
	if len(r.vars) == 40 {
		panic(errEnded(impl.ErrFull))
	}
	r.vars[name] = v
}

// visitor is called with a result and the cursor behind it, and tells whether to go on.
type visitor func(v impl.Value, c impl.Cursor) bool

// has reports whether an expression has a result from the beginning.
func (r *genRun) has(e impl.Gen) bool {
	return !r.each(e, impl.Cursor{}, func(impl.Value, impl.Cursor) bool { return false })
}

// each visits the results behind a cursor. It reports false if a visitor did, so that the expression has not failed.
func (r *genRun) each(e impl.Gen, c impl.Cursor, visit visitor) bool {
	r.step()
	deliver := func(v impl.Value, c impl.Cursor) bool {
		if !visit(v, c) {
			return false
		}
		r.step()
		return true
	}
	within := func(phase int64) visitor {
		return func(v impl.Value, kid impl.Cursor) bool {
			return deliver(v, impl.Cursor{Phase: phase, Kids: []impl.Cursor{kid}})
		}
	}
	isNew := c.Phase == 0
	first := impl.Cursor{}
	if len(c.Kids) > 0 {
		first = c.Kids[0]
	}
	switch e.Kind {
	case impl.GnValue:
		return !isNew || deliver(e.Value, impl.Cursor{Phase: 1})
	case impl.GnVar:
		return !isNew || deliver(r.value(e.Text), impl.Cursor{Phase: 1})
	case impl.GnFail:
		return true
	case impl.GnAlt:
		if c.Phase == 2 {
			return r.each(e.Kids[1], first, within(2))
		}
		return r.each(e.Kids[0], first, within(1)) && r.each(e.Kids[1], impl.Cursor{}, within(2))
	case impl.GnAnd:
		return r.and(e, c, deliver)
	case impl.GnLimit:
		return r.limited(e, c.Count, first, visit)
	case impl.GnNot:
		return !isNew || r.has(e.Kids[0]) || deliver(stringOf(""), impl.Cursor{Phase: 1})
	case impl.GnIf:
		phase := c.Phase
		if isNew {
			phase = map[bool]int64{true: 2, false: 3}[r.has(e.Kids[0])]
		}
		return r.each(e.Kids[phase-1], first, within(phase))
	case impl.GnEvery:
		return r.each(e.Kids[0], impl.Cursor{}, func(impl.Value, impl.Cursor) bool {
			r.has(e.Kids[1])
			return true
		})
	case impl.GnRepeat:
		return r.repeated(e, first, within(1))
	}
	return r.combined(e, c, deliver)
}

func (r *genRun) and(e impl.Gen, c impl.Cursor, deliver visitor) bool {
	second := func(first, from impl.Cursor) bool {
		return r.each(e.Kids[1], from, func(v impl.Value, kid impl.Cursor) bool {
			return deliver(v, impl.Cursor{Phase: 1, Kids: []impl.Cursor{first, kid}})
		})
	}
	from := impl.Cursor{}
	if c.Phase != 0 {
		from = c.Kids[0]
		if !second(c.Kids[0], c.Kids[1]) {
			return false
		}
	}
	return r.each(e.Kids[0], from, func(_ impl.Value, kid impl.Cursor) bool { return second(kid, impl.Cursor{}) })
}

func (r *genRun) limited(e impl.Gen, count int64, from impl.Cursor, visit visitor) bool {
	isStopped := false
	if count == e.Num {
		return true
	}
	r.each(e.Kids[0], from, func(v impl.Value, kid impl.Cursor) bool {
		count++
		isStopped = !visit(v, impl.Cursor{Phase: 1, Count: count, Kids: []impl.Cursor{kid}})
		if !isStopped {
			r.step()
		}
		return !isStopped && count < e.Num
	})
	return !isStopped
}

// repeated resumes the Kid from the beginning each time that it has failed, also the first time.
func (r *genRun) repeated(e impl.Gen, from impl.Cursor, deliver visitor) bool {
	for isFirst := true; ; isFirst = false {
		isFound := false
		isDone := r.each(e.Kids[0], from, func(v impl.Value, kid impl.Cursor) bool {
			isFound = true
			return deliver(v, kid)
		})
		if !isDone || !isFound && !isFirst {
			return isDone
		}
		from = impl.Cursor{}
	}
}

// combined visits the results for each combination of operands.
func (r *genRun) combined(e impl.Gen, c impl.Cursor, deliver visitor) bool {
	vals, kids := make([]impl.Value, len(e.Kids)), make([]impl.Cursor, len(e.Kids))
	var from func(at int, isResumed bool) bool
	from = func(at int, isResumed bool) bool {
		if at == len(e.Kids) {
			state := impl.Cursor{Phase: 1, Vals: slices.Clone(vals), Kids: slices.Clone(kids)}
			if isResumed {
				return r.proceed(e, c, state, deliver)
			}
			return r.begin(e, state, deliver)
		}
		start := impl.Cursor{}
		if isResumed {
			vals[at], kids[at], start = c.Vals[at], c.Kids[at], c.Kids[at]
			if !from(at+1, true) {
				return false
			}
		}
		return r.each(e.Kids[at], start, func(v impl.Value, kid impl.Cursor) bool {
			vals[at], kids[at] = v, kid
			return from(at+1, false)
		})
	}
	return from(0, c.Phase != 0)
}

// begin visits the results for a combination, whose cursor has no Count and no previous value.
func (r *genRun) begin(e impl.Gen, state impl.Cursor, deliver visitor) bool {
	switch e.Kind {
	case impl.GnTo:
		return r.count(state, deliver)
	case impl.GnEach:
		return r.pieces(state, deliver)
	case impl.GnBack:
		return r.reversible(e, state, deliver)
	}
	v, found := r.result(e, state.Vals)
	return !found || deliver(v, state)
}

// proceed visits those that are left behind a cursor.
func (r *genRun) proceed(e impl.Gen, c, state impl.Cursor, deliver visitor) bool {
	state.Count = c.Count
	switch e.Kind {
	case impl.GnTo:
		return r.count(state, deliver)
	case impl.GnEach:
		return r.pieces(state, deliver)
	case impl.GnBack:
		r.assign(e.Text, c.Vals[1])
	}
	return true
}

func (r *genRun) integer(v impl.Value) *big.Int {
	n := modelToInteger(v)
	if n == nil {
		panic(errEnded(impl.ErrType))
	}
	return n
}

func (r *genRun) text(v impl.Value) []byte {
	s := modelToText(v)
	if s == nil {
		panic(errEnded(impl.ErrType))
	}
	return s
}

func (r *genRun) count(state impl.Cursor, deliver visitor) bool {
	a, b, c := r.integer(state.Vals[0]), r.integer(state.Vals[1]), r.integer(state.Vals[2])
	if c.Sign() == 0 {
		panic(errEnded(impl.ErrRange))
	}
	for {
		n := new(big.Int).Mul(c, big.NewInt(state.Count))
		n.Add(n, a)
		if n.Cmp(b)*c.Sign() > 0 {
			return true
		}
		state = copyCursor(state)
		state.Count++
		if !deliver(integerOf(n.Int64()), state) {
			return false
		}
	}
}

func (r *genRun) pieces(state impl.Cursor, deliver visitor) bool {
	for {
		v, found := r.piece(state.Vals[0], int(state.Count))
		if !found {
			return true
		}
		state = copyCursor(state)
		state.Count++
		if !deliver(v, state) {
			return false
		}
	}
}

func (r *genRun) piece(v impl.Value, at int) (impl.Value, bool) {
	if referenceKinds[v.Kind] != 0 {
		pairs := impl.PairsOf(r.heap, v)
		if 2*at+1 >= len(pairs) {
			return impl.Value{}, false
		}
		return pairs[2*at+1], true
	}
	s := r.text(v)
	if at >= len(s) {
		return impl.Value{}, false
	}
	return stringOf(string(s[at : at+1])), true
}

func (r *genRun) reversible(e impl.Gen, state impl.Cursor, deliver visitor) bool {
	previous := r.value(e.Text)
	r.assign(e.Text, state.Vals[0])
	state.Vals = append(state.Vals, previous)
	if !deliver(state.Vals[0], state) {
		return false
	}
	r.assign(e.Text, previous)
	return true
}

// result returns the only result for operands, and whether there is one.
func (r *genRun) result(e impl.Gen, vals []impl.Value) (impl.Value, bool) {
	switch e.Kind {
	case impl.GnOp:
		return r.operate(e.Text, vals[0], vals[1])
	case impl.GnIndex:
		return r.index(vals[0], vals[1])
	case impl.GnStore:
		return r.store(vals[0], vals[1], vals[2])
	case impl.GnSet:
		r.assign(e.Text, vals[0])
		return vals[0], true
	}
	return r.activate(r.integer(vals[0]).Int64())
}

func (r *genRun) operate(operator string, a, b impl.Value) (impl.Value, bool) {
	switch operator {
	case "add", "sub", "mul", "div":
		done := modelArithmetic(map[string]int64{"add": impl.ExAdd, "sub": impl.ExSub, "mul": impl.ExMul, "div": impl.ExDiv}[operator], a, b)
		if done.code != impl.OK {
			panic(errEnded(done.code))
		}
		return done.v, true
	case "cat":
		s := slices.Concat(r.text(a), r.text(b))
		if len(s) > 200 {
			panic(errEnded(impl.ErrRange))
		}
		return stringOf(string(s)), true
	case "is":
		return b, a == b
	case "seq", "sne", "slt":
		order := bytes.Compare(r.text(a), r.text(b))
		return b, map[string]bool{"seq": order == 0, "sne": order != 0, "slt": order < 0}[operator]
	}
	order := r.integer(a).Cmp(r.integer(b))
	return b, map[string]bool{"lt": order < 0, "le": order <= 0, "eq": order == 0, "ne": order != 0, "gt": order > 0, "ge": order >= 0}[operator]
}

func (r *genRun) index(base, index impl.Value) (impl.Value, bool) {
	switch base.Kind {
	case impl.VkArray, impl.VkTable:
		got := modelGetElement(r.heap, base, index)
		return got.v, got.found
	case impl.VkRecord:
		got := modelGetField(r.heap, base, index.Text)
		return got.v, index.Kind == impl.VkString && got.code == impl.OK
	}
	s, n := r.text(base), r.integer(index).Int64()
	if n < 1 || n > int64(len(s)) {
		return impl.Value{}, false
	}
	return stringOf(string(s[n-1 : n])), true
}

func (r *genRun) store(base, index, v impl.Value) (impl.Value, bool) {
	switch base.Kind {
	case impl.VkArray, impl.VkTable:
		done := modelSetElement(r.heap, base, index, v)
		if done.code != impl.OK {
			panic(errEnded(done.code))
		}
		r.heap = done.heap
		return v, done.found
	case impl.VkRecord:
		done := modelSetField(r.heap, base, index.Text, v)
		if index.Kind != impl.VkString || done.code != impl.OK {
			return impl.Value{}, false
		}
		r.heap = done.heap
		return v, true
	}
	panic(errEnded(impl.ErrType))
}

func (r *genRun) activate(id int64) (impl.Value, bool) {
	at := slices.IndexFunc(r.cos, func(x impl.Coexpr) bool { return x.Id == id })
	switch {
	case at < 0:
		panic(errEnded(impl.ErrNotFound))
	case slices.Contains(r.active, id):
		panic(errEnded(impl.ErrState))
	case len(r.active) == 6:
		panic(errEnded(impl.ErrStack))
	case r.cos[at].Done:
		return impl.Value{}, false
	}
	outer := r.vars
	r.vars = varMap(r.cos[at].Vars)
	r.active = append(r.active, id)
	result, next, found := r.first(r.cos[at].Body, r.cos[at].Cursor)
	r.active = r.active[:len(r.active)-1]
	x := &r.cos[at]
	x.Vars, r.vars = varList(r.vars), outer
	x.Cursor = next
	x.Done = !found
	if found {
		x.Count++
	}
	if x.Count > 1000000 {
		panic(errEnded(impl.ErrFull))
	}
	return result, found
}

// first returns the first result behind a cursor.
func (r *genRun) first(e impl.Gen, c impl.Cursor) (result impl.Value, next impl.Cursor, found bool) {
	r.each(e, c, func(v impl.Value, c impl.Cursor) bool {
		result, next, found = v, c, true
		return false
	})
	return result, next, found
}

// genResult is what Resume returns. Of AllResults, it has the list and no cursor.
type genResult struct {
	s     impl.GenScope
	c     impl.Cursor
	v     impl.Value
	list  []impl.Value
	found bool
	code  int64
}

func resumed(s impl.GenScope, c impl.Cursor, v impl.Value, found bool, code int64) genResult {
	return genResult{s: s, c: c, v: v, found: found, code: code}
}

func allOf(s impl.GenScope, list []impl.Value, failed bool, code int64) genResult {
	return genResult{s: s, list: list, found: failed, code: code}
}

// protected returns the result of a run of the model, or the code with which it ended.
func protected(run func() genResult) (result genResult) {
	defer func() {
		if given := recover(); given != nil {
			var code errEnded
			if err, ok := given.(error); !ok || !errors.As(err, &code) {
				panic(given)
			}
			result = genResult{code: int64(code)}
		}
	}()
	return run()
}

// modelResume is Resume of the model.
func modelResume(s impl.GenScope, e impl.Gen, c impl.Cursor) genResult {
	if !isModelState(s, e, c) {
		return genResult{code: impl.ErrInvalid}
	}
	return protected(func() genResult {
		r := newGenRun(s)
		v, next, found := r.first(e, c)
		return genResult{s: r.scope(), c: next, v: v, found: found}
	})
}

// modelSeries returns the results of resuming again and again, up to a number of times, without stopping in between.
func modelSeries(s impl.GenScope, e impl.Gen, c impl.Cursor, limit int) []genResult {
	if !isModelState(s, e, c) {
		return []genResult{{code: impl.ErrInvalid}}
	}
	var list []genResult
	last := protected(func() genResult {
		r := newGenRun(s)
		isDone := r.each(e, c, func(v impl.Value, c impl.Cursor) bool {
			list = append(list, genResult{s: r.scope(), c: c, v: v, found: true})
			return len(list) < limit
		})
		if !isDone {
			return list[len(list)-1]
		}
		return genResult{s: r.scope()}
	})
	if len(list) < limit {
		list = append(list, last)
	}
	return list
}

// modelAll is AllResults of the model.
func modelAll(s impl.GenScope, e impl.Gen, limit int64) genResult {
	if !isModelState(s, e, impl.Cursor{}) {
		return genResult{code: impl.ErrInvalid}
	}
	if limit < 0 || limit > 60 {
		return genResult{code: impl.ErrRange}
	}
	return protected(func() genResult {
		r := newGenRun(s)
		var list []impl.Value
		isDone := limit > 0 && r.each(e, impl.Cursor{}, func(v impl.Value, _ impl.Cursor) bool {
			list = append(list, v)
			return int64(len(list)) < limit
		})
		return genResult{s: r.scope(), list: list, found: isDone}
	})
}

// genStream is a stream of the model: it is told each value, and returns its ending.
type genStream func(visit func(v impl.Value) bool) int64

// values returns the values of a stream up to its limit, and the ending.
func (s genStream) values() ([]impl.Value, int64) {
	var list []impl.Value
	isFull := false
	code := s(func(v impl.Value) bool {
		isFull = len(list) == 60
		if !isFull {
			list = append(list, v)
		}
		return !isFull
	})
	if isFull {
		code = impl.ErrFull
	}
	return list, code
}

func streamOfList(list []impl.Value, code int64) genStream {
	return func(visit func(v impl.Value) bool) int64 {
		for _, v := range list {
			if !visit(v) {
				return impl.ErrFull
			}
		}
		return code
	}
}

// then returns a stream with another one behind it, if it ends with OK.
func (s genStream) then(next genStream) genStream {
	return func(visit func(v impl.Value) bool) int64 {
		if code := s(visit); code != impl.OK {
			return code
		}
		return next(visit)
	}
}

// modelStream returns the values and the ending of the stream of a pure expression, by the table of StreamOf.
func (r *genRun) modelStream(e impl.Gen) ([]impl.Value, int64) {
	var lists [3][]impl.Value
	var codes [3]int64
	var kids [3]genStream
	for i, kid := range e.Kids {
		lists[i], codes[i] = r.modelStream(kid)
		kids[i] = streamOfList(lists[i], codes[i])
	}
	has := len(lists[0]) > 0
	switch e.Kind {
	case impl.GnValue:
		return []impl.Value{e.Value}, impl.OK
	case impl.GnVar:
		return []impl.Value{r.value(e.Text)}, impl.OK
	case impl.GnFail:
		return nil, impl.OK
	case impl.GnAlt:
		return kids[0].then(kids[1]).values()
	case impl.GnLimit:
		if int64(len(lists[0])) >= e.Num {
			return lists[0][:e.Num], impl.OK
		}
		return lists[0], codes[0]
	case impl.GnNot:
		switch {
		case has:
			return nil, impl.OK
		case codes[0] == impl.OK:
			return []impl.Value{stringOf("")}, impl.OK
		}
		return nil, codes[0]
	case impl.GnIf:
		switch {
		case has:
			return lists[1], codes[1]
		case codes[0] == impl.OK:
			return lists[2], codes[2]
		}
		return nil, codes[0]
	case impl.GnEvery:
		if has && len(lists[1]) == 0 && codes[1] != impl.OK {
			return nil, codes[1]
		}
		return nil, codes[0]
	case impl.GnRepeat:
		if !has || codes[0] != impl.OK {
			return lists[0], codes[0]
		}
		return slices.Repeat(lists[0], 60)[:60], impl.ErrFull
	}
	return r.streamOfOperands(e, kids, nil).values()
}

// streamOfOperands returns the stream for all combinations that begin with some operands.
func (r *genRun) streamOfOperands(e impl.Gen, kids [3]genStream, vals []impl.Value) genStream {
	if len(vals) == len(e.Kids) {
		return func(visit func(v impl.Value) bool) int64 {
			if e.Kind == impl.GnAnd {
				visit(vals[1])
				return impl.OK
			}
			return protected(func() genResult {
				r.begin(e, impl.Cursor{Vals: slices.Clone(vals)}, func(v impl.Value, _ impl.Cursor) bool { return visit(v) })
				return genResult{}
			}).code
		}
	}
	return func(visit func(v impl.Value) bool) int64 {
		code, isStopped := int64(impl.OK), false
		ending := kids[len(vals)](func(v impl.Value) bool {
			code = r.streamOfOperands(e, kids, append(slices.Clone(vals), v))(func(v impl.Value) bool {
				isStopped = !visit(v)
				return !isStopped
			})
			return code == impl.OK && !isStopped
		})
		if code != impl.OK {
			return code
		}
		return ending
	}
}

// modelStreamOf is StreamOf of the model.
func modelStreamOf(s impl.GenScope, e impl.Gen) ([]impl.Value, int64) {
	if !isModelState(s, e, impl.Cursor{}) || !isModelPure(e) {
		return nil, impl.ErrInvalid
	}
	return newGenRun(s).modelStream(e)
}

func equalGens(a, b impl.Gen) bool {
	return a.Kind == b.Kind && a.Num == b.Num && a.Text == b.Text && a.Value == b.Value && slices.EqualFunc(a.Kids, b.Kids, equalGens)
}

func equalCursors(a, b impl.Cursor) bool {
	return a.Phase == b.Phase && a.Count == b.Count && slices.Equal(a.Vals, b.Vals) && slices.EqualFunc(a.Kids, b.Kids, equalCursors)
}

func equalCos(a, b impl.Coexpr) bool {
	return a.Id == b.Id && a.Count == b.Count && a.Done == b.Done && equalGens(a.Body, b.Body) && equalCursors(a.Cursor, b.Cursor) && slices.Equal(a.Start, b.Start) && slices.Equal(a.Vars, b.Vars)
}

func equalGenScopes(a, b impl.GenScope) bool {
	return a.Steps == b.Steps && slices.Equal(a.Vars, b.Vars) && equalHeaps(a.Heap, b.Heap) && slices.EqualFunc(a.Cos, b.Cos, equalCos)
}

func equalGenResults(a, b genResult) bool {
	return equalGenScopes(a.s, b.s) && equalCursors(a.c, b.c) && a.v == b.v && slices.Equal(a.list, b.list) && a.found == b.found && a.code == b.code
}

func checkGenResult(t *testing.T, what string, got, want genResult) {
	t.Helper()
	if equalGenResults(got, want) {
		return
	}
	t.Errorf("%.1000s:", what)
	difference := func(part string, a, b any) {
		if x, y := fmt.Sprintf("%+v", a), fmt.Sprintf("%+v", b); x != y {
			t.Errorf("%s: got %.300q, want %.300q", part, x, y)
		}
	}
	difference("code", got.code, want.code)
	difference("found", got.found, want.found)
	difference("value", got.v, want.v)
	difference("list", got.list, want.list)
	difference("cursor", got.c, want.c)
	difference("steps", got.s.Steps, want.s.Steps)
	difference("variables", got.s.Vars, want.s.Vars)
	difference("heap", got.s.Heap, want.s.Heap)
	difference("co-expressions", got.s.Cos, want.s.Cos)
}

func copyGen(e impl.Gen) impl.Gen {
	e.Text, e.Value.Text, e.Kids = strings.Clone(e.Text), strings.Clone(e.Value.Text), slices.Clone(e.Kids)
	for i, kid := range e.Kids {
		e.Kids[i] = copyGen(kid)
	}
	return e
}

func copyCursor(c impl.Cursor) impl.Cursor {
	c.Vals, c.Kids = slices.Clone(c.Vals), slices.Clone(c.Kids)
	for i, kid := range c.Kids {
		c.Kids[i] = copyCursor(kid)
	}
	return c
}

func copyCo(x impl.Coexpr) impl.Coexpr {
	x.Body, x.Cursor, x.Start, x.Vars = copyGen(x.Body), copyCursor(x.Cursor), slices.Clone(x.Start), slices.Clone(x.Vars)
	return x
}

func copyGenScope(s impl.GenScope) impl.GenScope {
	s.Vars, s.Heap, s.Cos = slices.Clone(s.Vars), copyHeap(s.Heap), slices.Clone(s.Cos)
	for i, x := range s.Cos {
		s.Cos[i] = copyCo(x)
	}
	return s
}
