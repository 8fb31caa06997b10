package tests

import (
	"cmp"
	"go/ast"
	"go/parser"
	"go/token"
	"maps"
	"math"
	"math/rand"
	"path/filepath"
	"reflect"
	"slices"
	"testing"

	"loop.example/g00312/impl"
)

// everyFunction has each exported function of every chapter by its name.
func everyFunction() map[string]any {
	return map[string]any{
		"ValueOk": impl.ValueOk, "CompareValue": impl.CompareValue, "Reckon": impl.Reckon, "Not": impl.Not, "IsNull": impl.IsNull, "IsTrue": impl.IsTrue, "ValueText": impl.ValueText, "PutValue": impl.PutValue, "GetValue": impl.GetValue, "NameOk": impl.NameOk, "DecText": impl.DecText,
		"CompareRow": impl.CompareRow, "BagOk": impl.BagOk, "Plain": impl.Plain, "BagOf": impl.BagOf, "AddBag": impl.AddBag, "TimesBag": impl.TimesBag, "CountOf": impl.CountOf, "SizeOf": impl.SizeOf, "PutBag": impl.PutBag, "GetBag": impl.GetBag, "BagText": impl.BagText,
		"ExpOk": impl.ExpOk, "Eval": impl.Eval, "ColsOf": impl.ColsOf, "Shift": impl.Shift, "Conj": impl.Conj, "AndAll": impl.AndAll, "Put": impl.Put, "SameExp": impl.SameExp, "ExpText": impl.ExpText,
		"DbOk": impl.DbOk, "Width": impl.Width, "Fits": impl.Fits, "Answer": impl.Answer, "PlanText": impl.PlanText, "SamePlan": impl.SamePlan, "Names": impl.Names,
		"ChangeOk": impl.ChangeOk, "Changed": impl.Changed, "Delta": impl.Delta, "DeltaSize": impl.DeltaSize, "Negate": impl.Negate, "Touches": impl.Touches,
		"Push": impl.Push, "Steps": impl.Steps, "Weight": impl.Weight,
		"ViewsOk": impl.ViewsOk, "Fresh": impl.Fresh, "WithViews": impl.WithViews, "Use": impl.Use, "Refresh": impl.Refresh, "Maintain": impl.Maintain,
		"ParseQuery": impl.ParseQuery, "ShowQuery": impl.ShowQuery, "SameQuery": impl.SameQuery,
		"SchemasOk": impl.SchemasOk, "Bind": impl.Bind, "TypesOf": impl.TypesOf, "CodeText": impl.CodeText,
		"StepOk": impl.StepOk, "PutStep": impl.PutStep, "GetStep": impl.GetStep, "Sum": impl.Sum, "Append": impl.Append, "ReadLog": impl.ReadLog,
		"EngineOk": impl.EngineOk, "Apply": impl.Apply, "Play": impl.Play, "Do": impl.Do, "Sync": impl.Sync, "Crash": impl.Crash, "Best": impl.Best, "Ask": impl.Ask,
		"ReadRow": impl.ReadRow, "Desk": impl.Desk,
	}
}

func TestP13NoFunctionIsLeftOut(t *testing.T) {
	files, err := filepath.Glob(filepath.Join("..", "impl", "*.go"))
	if err != nil || len(files) != 12 {
		t.Fatal(files, err)
	}
	found := []string{}
	for _, file := range files {
		parsed, err := parser.ParseFile(token.NewFileSet(), file, nil, parser.SkipObjectResolution)
		if err != nil {
			t.Fatal(err)
		}
		for _, d := range parsed.Decls {
			if f, ok := d.(*ast.FuncDecl); ok && f.Recv == nil && f.Name.IsExported() {
				found = append(found, f.Name.Name)
			}
		}
	}
	slices.Sort(found)
	if known := slices.Sorted(maps.Keys(everyFunction())); !slices.Equal(found, known) {
		t.Errorf("there are %v, known are %v", found, known)
	}
}

// A maker makes arguments of any content: of each type some that are right or nearly so, and some whose fields are anything.
type maker struct {
	r     *rand.Rand
	pools map[reflect.Type][]reflect.Value
}

func pooled[T any](m maker, list ...T) {
	kind := reflect.TypeFor[T]()
	for _, x := range list {
		m.pools[kind] = append(m.pools[kind], reflect.ValueOf(x))
	}
}

// asOften has the few about as often as all others together.
func asOften[T any](few []T, others []T) []T {
	return append(slices.Repeat(few, 1+len(others)/len(few)), others...)
}

func newMaker(t *testing.T, seed int64) maker {
	t.Helper()
	m := maker{r: rand.New(rand.NewSource(seed)), pools: map[reflect.Type][]reflect.Value{}}
	small := smallEngine(t)
	pooled(m, 0, 0, 1, 1, 2, 3, 4, 5, 6, 7, 8, 11, 12, 13, 100, 400, 1000000000, -1, -2, math.MaxInt, math.MinInt, math.MaxInt-1)
	pooled(m, slices.Concat(someNames, ops, wrongNames()[:8], storyQuestions(), []string{"t", "v", "x", "t.x", "mark", small.Log, deskStart + deskAfter, rowWords(rightValues()), impl.PutStep(storySteps()[8]), impl.PutBag(numbered(0, 4)), impl.PutValue(num(7)), small.Log[:50], "\x03\x01a"})...)
	pooled(m, allValues()...)
	pooled(m, allBags()...)
	pooled(m, append(allExps(), is(0, 1), is(1, 2), lit(yes))...)
	plans := append(plansOf(small.Views), table("t"), table("b"), distinct(table("t")), filter(is(0, 1), table("t")), union(table("t"), table("b")), group(1, exps(col(1)), table("t")), join(is(0, 2), table("t"), table("b")))
	for _, x := range ordinaryPlans() {
		plans = append(plans, x.p)
	}
	pooled(m, asOften(plans, append(rightShapes(), wrongShapes()...))...)
	pooled(m, append(small.Db, append(shopDb(), marketDb()...)...)...)
	pooled(m, small.Views...)
	pooled(m, someQuestions()...)
	pooled(m, append(small.Schemas, marketSchemas()...)...)
	pooled(m, asOften(append(storySteps(), stepsForAny()...), append(rightSteps(), wrongSteps()...))...)
	pooled(m, asOften([]impl.Engine{small, impl.Sync(small)}, anyEngines(t))...)
	pooled(m, shopDb(), marketDb(), small.Db, small.Db[:1], small.Db[1:])
	pooled(m, small.Views, small.Views[:1])
	pooled(m, small.Schemas, marketSchemas())
	return m
}

// make goes no deeper than so many: below stand zero values.
func (m maker) make(kind reflect.Type, depth int) reflect.Value {
	pool := m.pools[kind]
	if len(pool) > 0 && m.r.Intn(4) > 0 {
		return m.roomy(pick(m.r, pool))
	}
	out := reflect.New(kind).Elem()
	if depth < 0 {
		return out
	}
	switch kind.Kind() {
	case reflect.Int:
		out.SetInt(int64(m.r.Intn(20) - 5))
	case reflect.Bool:
		out.SetBool(m.r.Intn(2) == 0)
	case reflect.String:
		out.SetString(pick(m.r, []string{anyBytes(m.r, 5), anyBytes(m.r, 40), anyRowText(m.r), "a"}))
	case reflect.Struct:
		for i := range kind.NumField() {
			out.Field(i).Set(m.make(kind.Field(i).Type, depth-1))
		}
	case reflect.Slice:
		out = m.list(kind, m.r.Intn(4), func(int) reflect.Value { return m.make(kind.Elem(), depth-1) })
	}
	return out
}

// list has spare room with marks in it.
func (m maker) list(kind reflect.Type, size int, item func(i int) reflect.Value) reflect.Value {
	out := reflect.MakeSlice(kind, size+2, size+2)
	for i := range size {
		out.Index(i).Set(item(i))
	}
	mark(out.Index(size))
	mark(out.Index(size + 1))
	return out.Slice(0, size)
}

func mark(v reflect.Value) {
	switch v.Kind() {
	case reflect.Int:
		v.SetInt(77)
	case reflect.String:
		v.SetString("mark")
	case reflect.Struct:
		for i := range v.NumField() {
			mark(v.Field(i))
		}
	}
}

// roomy copies a value, with spare room behind each list.
func (m maker) roomy(v reflect.Value) reflect.Value {
	switch v.Kind() {
	case reflect.Struct:
		out := reflect.New(v.Type()).Elem()
		for i := range v.NumField() {
			out.Field(i).Set(m.roomy(v.Field(i)))
		}
		return out
	case reflect.Slice:
		return m.list(v.Type(), v.Len(), func(i int) reflect.Value { return m.roomy(v.Index(i)) })
	}
	return v
}

// allSeen is all that can be read of a value, the spare room too.
func allSeen(v reflect.Value) reflect.Value {
	out := reflect.New(v.Type()).Elem()
	switch v.Kind() {
	case reflect.Struct:
		for i := range v.NumField() {
			out.Field(i).Set(allSeen(v.Field(i)))
		}
	case reflect.Slice:
		all := v.Slice(0, v.Cap())
		out = reflect.MakeSlice(v.Type(), all.Len(), all.Len())
		for i := range all.Len() {
			out.Index(i).Set(allSeen(all.Index(i)))
		}
	default:
		out.Set(v)
	}
	return out
}

// A stretch is the memory of a list, with its spare room.
type stretch struct {
	from  uintptr
	to    uintptr
	given bool
}

func stretches(v reflect.Value, given bool) []stretch {
	list := []stretch{}
	switch v.Kind() {
	case reflect.Struct:
		for i := range v.NumField() {
			list = append(list, stretches(v.Field(i), given)...)
		}
	case reflect.Slice:
		if v.Cap() > 0 {
			from := v.Pointer()
			list = append(list, stretch{from, from + uintptr(v.Cap())*v.Type().Elem().Size(), given})
		}
		for i := range v.Len() {
			list = append(list, stretches(v.Index(i), given)...)
		}
	}
	return list
}

// isApart asks that no list of an answer shares memory, neither with an argument nor with another one of the answers.
func isApart(arguments []reflect.Value, answers []reflect.Value) bool {
	list := []stretch{}
	for _, v := range arguments {
		list = append(list, stretches(v, true)...)
	}
	for _, v := range answers {
		list = append(list, stretches(v, false)...)
	}
	slices.SortFunc(list, func(a stretch, b stretch) int { return cmp.Compare(a.from, b.from) })
	givenTo, answeredTo := uintptr(0), uintptr(0)
	for _, x := range list {
		if x.from < answeredTo || !x.given && x.from < givenTo {
			return false
		}
		if x.given {
			givenTo = max(givenTo, x.to)
		} else {
			answeredTo = x.to
		}
	}
	return true
}

func valuesOf(list []reflect.Value) []any {
	out := []any{}
	for _, v := range list {
		out = append(out, v.Interface())
	}
	return out
}

func seenValues(list []reflect.Value) []any {
	out := []any{}
	for _, v := range list {
		out = append(out, allSeen(v).Interface())
	}
	return out
}

func checkCall(t *testing.T, name string, f reflect.Value, arguments []reflect.Value) {
	t.Helper()
	defer func() {
		if x := recover(); x != nil {
			t.Fatalf("%s panics with %v at %.2000v", name, x, valuesOf(arguments))
		}
	}()
	want := seenValues(arguments)
	first, second := f.Call(arguments), f.Call(arguments)
	if !reflect.DeepEqual(seenValues(arguments), want) {
		t.Fatalf("%s wrote into its arguments: %.2000v", name, want)
	}
	if !reflect.DeepEqual(valuesOf(first), valuesOf(second)) {
		t.Fatalf("%s answers %.1000v and then %.1000v at %.2000v", name, valuesOf(first), valuesOf(second), want)
	}
	if !isApart(arguments, first) {
		t.Fatalf("%s: an answer shares memory: %.1000v at %.2000v", name, valuesOf(first), want)
	}
}

func TestP13EveryFunctionAtAnyArguments(t *testing.T) {
	m := newMaker(t, 131)
	functions := everyFunction()
	for _, name := range slices.Sorted(maps.Keys(functions)) {
		f := reflect.ValueOf(functions[name])
		for range 1000 {
			arguments := []reflect.Value{}
			for i := range f.Type().NumIn() {
				arguments = append(arguments, m.make(f.Type().In(i), 4))
			}
			checkCall(t, name, f, arguments)
		}
	}
}

func TestP13EveryFunctionAtNothing(t *testing.T) {
	for name, function := range everyFunction() {
		f := reflect.ValueOf(function)
		arguments := []reflect.Value{}
		for i := range f.Type().NumIn() {
			arguments = append(arguments, reflect.Zero(f.Type().In(i)))
		}
		checkCall(t, name, f, arguments)
	}
}
