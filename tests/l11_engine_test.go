package tests

import (
	"maps"
	"math"
	"math/rand"
	"reflect"
	"slices"
	"strings"
	"testing"

	"loop.example/g00312/impl"
)

const mostTables = 10

// A ledger is what an engine has to hold, by hand: tables, and of each view its question alone.
type ledger struct {
	schemas []impl.Schema
	db      []impl.Rel
	views   map[string]string
}

func (l ledger) isTable(name string) bool {
	return slices.ContainsFunc(l.db, func(r impl.Rel) bool { return r.Name == name })
}

func (l ledger) isView(name string) bool {
	_, ok := l.views[name]
	return ok
}

// answer is told by a question's words, and without a plan but for whether one is right and fits.
func (l ledger) answer(text string) (impl.Bag, int) {
	q, ok := impl.ParseQuery(text)
	if !ok {
		return bag(0), impl.EnQuery
	}
	width, code := codeByHand(l.schemas, q)
	p, _, _ := impl.Bind(l.schemas, q)
	if code != impl.BindOk || impl.Width(l.db, p) < 0 {
		return bag(0), impl.EnQuery
	}
	if _, fits := meant(l.db, p); !fits {
		return bag(0), impl.EnRows
	}
	return rowsByHand(l.schemas, l.db, q).bag(width), impl.EnOk
}

func (l ledger) code(s impl.Step) int {
	if !stepOkByHand(s) {
		return impl.EnBad
	}
	taken := l.isTable(s.Name) || l.isView(s.Name)
	switch {
	case s.Kind == impl.StChange:
		return l.changeCode(s.Change)
	case s.Kind == impl.StDrop && !taken, s.Kind != impl.StDrop && taken:
		return impl.EnName
	case s.Kind == impl.StDrop && l.isTable(s.Name) && l.isUsed(s.Name):
		return impl.EnUsed
	case s.Kind == impl.StTable && len(l.db) >= mostTables, s.Kind == impl.StView && len(l.views) >= impl.MaxViews:
		return impl.EnFull
	case s.Kind == impl.StView:
		_, code := l.answer(s.Query)
		return code
	}
	return impl.EnOk
}

func (l ledger) changeCode(d []impl.Rel) int {
	for _, r := range d {
		if !l.isTable(r.Name) {
			return impl.EnName
		}
	}
	if !impl.ChangeOk(l.db, d) {
		return impl.EnRows
	}
	next := ledger{schemas: l.schemas, db: changedByHand(l.db, d)}
	for _, text := range l.views {
		if _, code := next.answer(text); code != impl.EnOk {
			return impl.EnRows
		}
	}
	return impl.EnOk
}

func (l ledger) isUsed(name string) bool {
	for _, text := range l.views {
		q, ok := impl.ParseQuery(text)
		for more := []impl.Select{q}; ok && len(more) > 0; more = more[0].Next {
			if slices.Contains(more[0].From, name) {
				return true
			}
		}
	}
	return false
}

// after wants a step whose code is EnOk.
func (l ledger) after(s impl.Step) ledger {
	next := ledger{slices.Clone(l.schemas), slices.Clone(l.db), maps.Clone(l.views)}
	switch s.Kind {
	case impl.StTable:
		next.schemas = append(next.schemas, impl.Schema{Name: s.Name, Cols: s.Cols})
		next.db = append(next.db, rel(s.Name, bag(len(s.Cols))))
	case impl.StView:
		if next.views == nil {
			next.views = map[string]string{}
		}
		next.views[s.Name] = s.Query
	case impl.StDrop:
		delete(next.views, s.Name)
		next.schemas = slices.DeleteFunc(next.schemas, func(x impl.Schema) bool { return x.Name == s.Name })
		next.db = slices.DeleteFunc(next.db, func(r impl.Rel) bool { return r.Name == s.Name })
	case impl.StChange:
		next.db = changedByHand(l.db, s.Change)
	}
	slices.SortFunc(next.schemas, func(a impl.Schema, b impl.Schema) int { return strings.Compare(a.Name, b.Name) })
	slices.SortFunc(next.db, func(a impl.Rel, b impl.Rel) int { return strings.Compare(a.Name, b.Name) })
	return next
}

// books are the ledgers ahead of all steps and behind each of them that is not refused.
func books(t *testing.T, steps ...impl.Step) []ledger {
	t.Helper()
	list := []ledger{{}}
	for i, s := range steps {
		last := list[len(list)-1]
		if code := last.code(s); code != impl.EnOk {
			t.Fatalf("step %d has code %d: %.200v", i, code, s)
		}
		list = append(list, last.after(s))
	}
	return list
}

func sameSchemas(a []impl.Schema, b []impl.Schema) bool {
	return slices.EqualFunc(a, b, func(x impl.Schema, y impl.Schema) bool { return x.Name == y.Name && slices.Equal(x.Cols, y.Cols) })
}

func sameContent(a impl.Engine, b impl.Engine) bool {
	return sameSchemas(a.Schemas, b.Schemas) && sameDb(a.Db, b.Db) && sameViews(a.Views, b.Views) && slices.Equal(a.Texts, b.Texts)
}

func sameEngine(a impl.Engine, b impl.Engine) bool {
	return sameContent(a, b) && a.Log == b.Log && a.Safe == b.Safe
}

// checkHolds asks for the ledger's tables, and for views with just the rows that their questions answer over these.
func checkHolds(t *testing.T, what string, e impl.Engine, l ledger) {
	t.Helper()
	if !sameSchemas(e.Schemas, l.schemas) || !sameDb(e.Db, l.db) {
		t.Errorf("%s: tables %v of %v, want %v of %v", what, e.Db, e.Schemas, l.db, l.schemas)
	}
	names := slices.Sorted(maps.Keys(l.views))
	if len(e.Views) != len(names) || len(e.Texts) != len(names) {
		t.Fatalf("%s: %d views and %d texts, want %v", what, len(e.Views), len(e.Texts), names)
	}
	for i, name := range names {
		want, code := l.answer(l.views[name])
		if e.Views[i].Name != name || e.Texts[i] != l.views[name] || code != impl.EnOk {
			t.Errorf("%s: %s of %q (%d), want %s of %q", what, e.Views[i].Name, e.Texts[i], code, name, l.views[name])
		}
		checkBag(t, what+": "+name, e.Views[i].Bag, want)
	}
}

func checkAsked(t *testing.T, e impl.Engine, l ledger, text string) {
	t.Helper()
	want, wantCode := l.answer(text)
	b, names, code := impl.Ask(e, text)
	if code != wantCode || code != impl.EnOk && len(names) != 0 {
		t.Errorf("%.200q: %d with %v, want %d", text, code, names, wantCode)
	}
	checkBag(t, text, b, want)
	if wantCode != impl.EnOk {
		return
	}
	q, _ := impl.ParseQuery(text)
	p, wantNames, _ := impl.Bind(l.schemas, q)
	if !slices.Equal(names, wantNames) {
		t.Errorf("%s: names %v, want %v", text, names, wantNames)
	}
	checkBest(t, e, p)
}

// bestByHand wants a plan that fits the tables.
func bestByHand(e impl.Engine, p impl.Plan) impl.Plan {
	all := impl.WithViews(e.Db, e.Views)
	other := impl.Push(e.Db, p)
	list := []impl.Plan{p, other, usedByHand(e.Views, p), usedByHand(e.Views, other)}
	for i := len(list) - 1; i > 0; i-- {
		if !impl.Fits(all, list[i]) {
			list = slices.Delete(list, i, i+1)
		}
	}
	return slices.MinFunc(list, func(a impl.Plan, b impl.Plan) int { return weightByHand(all, a) - weightByHand(all, b) })
}

// checkBest wants an engine that is EngineOk, and a plan that fits its tables.
func checkBest(t *testing.T, e impl.Engine, p impl.Plan) {
	t.Helper()
	got, want := impl.Best(e, p), bestByHand(e, p)
	if !samePlanTree(got, want) {
		t.Errorf("best of %s: %s, want %s", impl.PlanText(p), impl.PlanText(got), impl.PlanText(want))
	}
	checkBag(t, impl.PlanText(got), impl.Answer(impl.WithViews(e.Db, e.Views), got), impl.Answer(e.Db, p))
}

// checkDone wants a step that is done: its entry stands behind the log then, and no more is safe.
func checkDone(t *testing.T, e impl.Engine, s impl.Step) impl.Engine {
	t.Helper()
	next, code := impl.Do(e, s)
	if code != impl.EnOk || next.Log != e.Log+entryOf(s) || next.Safe != e.Safe {
		t.Fatalf("%.200v: %d, log of %d bytes, %d safe", s, code, len(next.Log), next.Safe)
	}
	same, code := impl.Apply(e, s)
	if code != impl.EnOk || !sameContent(same, next) || same.Log != e.Log || same.Safe != e.Safe {
		t.Errorf("%.200v: applied with %d: %v", s, code, same)
	}
	return next
}

func checkRefuses(t *testing.T, e impl.Engine, s impl.Step, want int) {
	t.Helper()
	for name, f := range map[string]func(impl.Engine, impl.Step) (impl.Engine, int){"do": impl.Do, "apply": impl.Apply} {
		if next, code := f(e, s); code != want || !sameEngine(next, e) {
			t.Errorf("%s %.200v: %d, want %d; changed %v", name, s, code, want, !sameEngine(next, e))
		}
	}
}

// doneAll wants steps none of which is refused.
func doneAll(t *testing.T, steps ...impl.Step) impl.Engine {
	t.Helper()
	e := impl.Engine{}
	for _, s := range steps {
		e = checkDone(t, e, s)
	}
	return e
}

// storySteps have each kind, and views over one table and over two, some of them there while these change.
func storySteps() []impl.Step {
	one := func(name string, n int, values ...impl.Value) impl.Step {
		return changeStep(rel(name, bag(len(values), times(n, values...))))
	}
	return []impl.Step{
		tableStep("t", "x y"), one("t", 1, num(1), num(10)), one("t", 2, num(2), num(20)),
		viewStep("v", "select x, count(*), sum(y) from t group by x"), viewStep("u", "select * from t where x < 3"), one("t", 1, num(1), num(7)),
		tableStep("b", "x k"), viewStep("pairs", "select t.x, k, y from t, b where t.x = b.x"), changeStep(rel("b", bag(2, times(1, num(1), text("one")), times(3, num(2), text("two")))), rel("t", bag(2, times(-1, num(1), num(10)), times(1, num(3), num(30))))),
		viewStep("all", "select x from t union all select distinct x from b"), viewStep("kinds", "select distinct k from b"), one("b", -1, num(2), text("two")), one("b", -2, num(2), text("two")), one("t", -2, num(2), num(20)), dropStep("u"),
		tableStep("a", "x"), one("a", 1, text("it's")), viewStep("u", "select k, count(*) from b, t where b.x = t.x group by k"), changeStep(rel("a", bag(1, times(2, null))), rel("b", bag(2, times(5, null, null))), rel("t", bag(2, times(1, num(1), null)))),
		dropStep("v"), dropStep("a"), viewStep("a", "select x\n  from t where y is null"), one("t", -1, num(1), null), one("t", 1, num(5), num(50)), dropStep("all"), dropStep("pairs"), dropStep("u"), dropStep("a"), dropStep("t"), one("b", 1, num(9), yes), dropStep("kinds"), dropStep("b"),
	}
}

// storyQuestions are some that views answer whole or in part, some that none does, and some that are none.
func storyQuestions() []string {
	return []string{
		"select * from t", "select x, y from t", "select distinct x from t where x < 3", "select * from t where x < 3", "select y from t where x < 3 and y > 8", "select y from t where y > 8 and x < 3", "select x, count(*), sum(y) from t group by x", "select distinct x, count(*), sum(y) from t group by x", "select x, count(*) from t group by x", "select y, count(*), sum(x) from t where x < 3 group by y",
		"select t.x, k, y from t, b where t.x = b.x", "select distinct t.x, k, y from t, b where t.x = b.x", "select k, t.y from t, b where t.x = b.x and k = 'one' and y < 100", "select k, count(*) from b, t where b.x = t.x group by k", "select distinct k from b", "select k from b", "select x from t union all select distinct x from b", "select x from t union all select x from b", "select x from t where y is null", "select x from a", "select * from a, b, t", "select a.x from a, t where a.x = t.x or t.x = 1",
		"", "select", "select x", "select zz from t", "select x from t, b", "select * from v", "select x from t union all select * from b", "select count from b", "x\x00\xff",
	}
}

func TestP11AStoryStepByStep(t *testing.T) {
	steps := storySteps()
	list := books(t, steps...)
	e := impl.Engine{}
	if !impl.EngineOk(e) {
		t.Error("the empty one")
	}
	used := 0
	for i, s := range steps {
		e = checkDone(t, e, s)
		checkHolds(t, "done", e, list[i+1])
		if !impl.EngineOk(e) || !impl.Fresh(e.Db, e.Views) {
			t.Errorf("step %d: no right engine", i)
		}
		for _, text := range storyQuestions() {
			checkAsked(t, e, list[i+1], text)
			if q, ok := impl.ParseQuery(text); ok {
				if p, _, code := impl.Bind(e.Schemas, q); code == impl.BindOk && !slices.Equal(impl.Names(impl.Best(e, p)), impl.Names(p)) {
					used++
				}
			}
		}
		if t.Failed() {
			t.Fatalf("step %d: %v", i, s)
		}
	}
	if used < 30 {
		t.Errorf("only %d answers came by views", used)
	}
	if len(e.Db)+len(e.Schemas)+len(e.Views)+len(e.Texts) != 0 || e.Safe != 0 {
		t.Errorf("all was dropped: %v", e)
	}
}

// keeps are numbers around all that is left to keep.
func keeps(left int) []int {
	return []int{math.MinInt, math.MinInt + 1, -1000, -1, 0, 1, 7, 8, 9, left / 2, left - 8, left - 1, left, left + 1, left + 1000, 1 << 32, math.MaxInt - left, math.MaxInt - 1, math.MaxInt}
}

// checkCrash wants the ends of an engine's steps, and the ledger ahead of and behind each of them.
func checkCrash(t *testing.T, e impl.Engine, keep int, ends []int, list []ledger) {
	t.Helper()
	kept := e.Safe
	if keep > 0 {
		kept += min(keep, len(e.Log)-e.Safe)
	}
	count, end := aheadOf(ends, kept)
	got := impl.Crash(e, keep)
	if got.Log != e.Log[:end] || got.Safe != end || end < e.Safe {
		t.Fatalf("%d safe and %d more: a log of %d bytes, %d safe, want %d", e.Safe, keep, len(got.Log), got.Safe, end)
	}
	checkHolds(t, "crash", got, list[count])
	if again := impl.Crash(got, keep); !sameEngine(again, got) {
		t.Errorf("%d safe and %d more: another crash changes it", e.Safe, keep)
	}
}

func TestP11PowerIsCutBehindEachStep(t *testing.T) {
	steps := storySteps()
	list, e := books(t, steps...), impl.Engine{}
	_, ends := mustAppend(t, steps...)
	for i, s := range steps {
		e = checkDone(t, e, s)
		for _, keep := range keeps(len(e.Log)) {
			checkCrash(t, e, keep, ends, list)
		}
		all := impl.Sync(e)
		if all.Safe != len(e.Log) || all.Log != e.Log || !sameContent(all, e) || !impl.EngineOk(all) {
			t.Errorf("step %d: synced: %d", i, all.Safe)
		}
		for _, keep := range keeps(0) {
			checkCrash(t, all, keep, ends, list)
			if !sameEngine(impl.Crash(all, keep), all) {
				t.Errorf("step %d: all was safe, and something is lost", i)
			}
		}
		if t.Failed() {
			t.FailNow()
		}
	}
}

func TestP11PowerIsCutWithEachByteKept(t *testing.T) {
	steps := storySteps()
	list, e := books(t, steps...), doneAll(t, steps...)
	_, ends := mustAppend(t, steps...)
	for keep := -1; keep <= len(e.Log)+1; keep++ {
		checkCrash(t, e, keep, ends, list)
	}
	for safe, at := range ends {
		e.Safe = at
		for _, end := range ends[safe:] {
			for _, keep := range []int{end - at - 1, end - at, end - at + 1} {
				checkCrash(t, e, keep, ends, list)
			}
		}
	}
}

func TestP11WorkGoesOnBehindACrash(t *testing.T) {
	steps := storySteps()
	list := books(t, steps...)
	_, ends := mustAppend(t, steps...)
	e := impl.Engine{}
	for i, s := range steps {
		e = checkDone(t, e, s)
		if i%3 == 0 {
			e = impl.Sync(e)
		}
		// A step of which a byte is lost is done once more.
		keep := ends[i] - e.Safe - 1
		if lost := impl.Crash(e, keep); e.Safe < len(e.Log) {
			count, _ := aheadOf(ends, ends[i]-1)
			checkHolds(t, "lost", lost, list[count])
			lost = checkDone(t, lost, s)
			if !sameContent(lost, e) || lost.Log != e.Log || !impl.EngineOk(lost) {
				t.Fatalf("step %d: not the same as without a crash", i)
			}
			e = lost
		}
	}
	whole, _ := mustAppend(t, steps...)
	if e.Log != whole {
		t.Error("another log")
	}
}

// smallEngine has tables t and b with rows, an empty one, and two views.
func smallEngine(t *testing.T) impl.Engine {
	t.Helper()
	return doneAll(t, tableStep("b", "x k"), tableStep("empty", "z"), tableStep("t", "x y"),
		changeStep(rel("b", bag(2, times(1, num(1), text("one")), times(2, num(2), text("two"))))), changeStep(rel("t", bag(2, times(1, num(1), num(10)), times(2, num(2), num(20))))),
		viewStep("v", "select x, count(*), sum(y) from t group by x"), viewStep("w", "select t.x, k from t, b where t.x = b.x"))
}

func TestP11StepsThatAreNone(t *testing.T) {
	engines := []impl.Engine{{}, smallEngine(t), impl.Sync(smallEngine(t)), fullEngine(t)}
	for _, s := range wrongSteps() {
		for _, e := range engines {
			checkRefuses(t, e, s, impl.EnBad)
		}
	}
	// Ahead of each other code: names that are taken, and no room.
	for _, s := range []impl.Step{{Kind: impl.StTable, Name: "t"}, {Kind: impl.StTable, Name: "ra", Cols: []string{"x", "x"}}, {Kind: impl.StView, Name: "t", Query: "select", Cols: []string{"x"}}, {Kind: impl.StDrop, Name: "zz", Query: " "}, changeStep(), changeStep(rel("zz", bag(1)), rel("t", bag(1))), changeStep(rel("t", bag(2, times(0, num(1), num(1))))), {Kind: 9, Name: "t"}} {
		for _, e := range engines {
			checkRefuses(t, e, s, impl.EnBad)
		}
	}
}

func TestP11NamesThatAreTaken(t *testing.T) {
	e := smallEngine(t)
	for _, name := range []string{"b", "empty", "t", "v", "w"} {
		for _, s := range []impl.Step{tableStep(name, "x y"), tableStep(name, "q"), viewStep(name, "select * from t"), viewStep(name, "select"), viewStep(name, "select zz from t"), viewStep(name, "")} {
			checkRefuses(t, e, s, impl.EnName)
		}
	}
	for _, name := range []string{"a", "bb", "c", "empt", "empty1", "s", "tt", "u", "vv", "z9", "abcdefghij"} {
		for _, s := range []impl.Step{tableStep(name, "x y"), viewStep(name, "select * from t")} {
			next := checkDone(t, e, s)
			if !impl.EngineOk(next) {
				t.Errorf("%s: no right engine", name)
			}
			checkRefuses(t, next, tableStep(name, "x"), impl.EnName)
			checkRefuses(t, next, viewStep(name, "select * from t"), impl.EnName)
			// A name that is dropped is free again, for either kind.
			free := checkDone(t, next, dropStep(name))
			for _, again := range []impl.Step{tableStep(name, "p q r"), viewStep(name, "select y from t")} {
				if last := checkDone(t, free, again); !impl.EngineOk(last) {
					t.Errorf("%s again: no right engine", name)
				}
			}
		}
	}
}

// manyTables are steps for tables with names in no order.
func manyTables(count int) []impl.Step {
	list := []impl.Step{}
	for i := range count {
		list = append(list, tableStep("r"+string(rune('a'+i*7%26)), "x"))
	}
	return list
}

func manyViews(count int, from string) []impl.Step {
	list := []impl.Step{}
	for i := range count {
		list = append(list, viewStep("v"+string(rune('a'+i*7%26)), "select x + "+impl.DecText(i)+" from "+from))
	}
	return list
}

// fullEngine has as many tables and views as there may be, and a row.
func fullEngine(t *testing.T) impl.Engine {
	t.Helper()
	steps := append(manyTables(mostTables), changeStep(rel("ra", bag(1, times(1, num(5))))))
	return doneAll(t, append(steps, manyViews(impl.MaxViews, "ra")...)...)
}

func TestP11AsManyAsThereMayBe(t *testing.T) {
	e := doneAll(t, manyTables(mostTables)...)
	checkRefuses(t, e, tableStep("zz", "x"), impl.EnFull)
	checkRefuses(t, e, tableStep("a", "x"), impl.EnFull)
	checkRefuses(t, e, tableStep("ra", "x"), impl.EnName)
	e = fullEngine(t)
	if len(e.Db) != mostTables || len(e.Views) != impl.MaxViews || !impl.EngineOk(e) || len(impl.WithViews(e.Db, e.Views)) != mostRels {
		t.Errorf("%d tables and %d views", len(e.Db), len(e.Views))
	}
	l := books(t, append(append(manyTables(mostTables), changeStep(rel("ra", bag(1, times(1, num(5)))))), manyViews(impl.MaxViews, "ra")...)...)
	checkHolds(t, "full", e, l[len(l)-1])
	for i := range impl.MaxViews {
		checkAsked(t, e, l[len(l)-1], "select distinct x + "+impl.DecText(i)+" from ra")
	}
	// Room for one kind is none for the other, and each names itself ahead of what it asks.
	for _, query := range []string{"select * from ra", "select", "select zz from ra", "", "select * from zz"} {
		checkRefuses(t, e, viewStep("zz", query), impl.EnFull)
		checkRefuses(t, e, viewStep("va", query), impl.EnName)
		checkRefuses(t, e, viewStep("ra", query), impl.EnName)
	}
	checkRefuses(t, e, tableStep("zz", "x"), impl.EnFull)
	checkRefuses(t, e, tableStep("va", "x"), impl.EnName)
	fewer := checkDone(t, e, dropStep("vh"))
	checkRefuses(t, fewer, tableStep("zz", "x"), impl.EnFull)
	if again := checkDone(t, fewer, viewStep("zz", "select * from rh")); !impl.EngineOk(again) || len(again.Views) != impl.MaxViews {
		t.Error("room for one view")
	}
	fewer = checkDone(t, e, dropStep("rh"))
	checkRefuses(t, fewer, viewStep("zz", "select * from ra"), impl.EnFull)
	if again := checkDone(t, fewer, tableStep("zz", "x")); !impl.EngineOk(again) || len(again.Db) != mostTables {
		t.Error("room for one table")
	}
}

// unions is a question of so many parts.
func unions(count int, part string) string {
	return strings.Join(slices.Repeat([]string{part}, count), " union all ")
}

func TestP11QuestionsThatAreNone(t *testing.T) {
	e := smallEngine(t)
	noQuestions := []string{
		"", " ", "select", "select * from", "select x t", "select x from t where", "x", "\x00", "select * from t;", "select 'a from t", "select x, count(*) from t", "select * from t, t, t, t, t", strings.Repeat("x", impl.MaxQuery),
	}
	bound := []string{"select * from zz", "select * from v", "select zz from t", "select b.y from t, b", "select x from t, b", "select t.x from t, t", "select x from t union all select * from t", "select * from t, b, t, b, t", "select 1,2,3,4,5,6,7,8,9,10,11,12,13 from t", "select * from t union all select y from zz"}
	deep := []string{unions(impl.MaxPlan+2, "select * from t"), unions(impl.MaxPlan+1, "select x from t"), unions(impl.MaxPlan-1, "select distinct x from t where x < 3"), unions(30, "select * from t")}
	for _, text := range slices.Concat(noQuestions, bound, deep) {
		checkRefuses(t, e, viewStep("u", text), impl.EnQuery)
		if b, names, code := impl.Ask(e, text); code != impl.EnQuery || !sameBag(b, bag(0)) || len(names) != 0 {
			t.Errorf("%.100q: %d", text, code)
		}
	}
	// The longest question, and plans that are just as deep as they may be.
	all := "select * from t"
	longest := strings.Repeat(" ", impl.MaxQuery-len(all)) + all
	for _, text := range []string{longest, unions(impl.MaxPlan+1, all), unions(impl.MaxPlan, "select x from t"), unions(impl.MaxPlan-2, "select distinct x from t where x < 3")} {
		if next := checkDone(t, e, viewStep("u", text)); !impl.EngineOk(next) || next.Texts[0] != text {
			t.Errorf("%.100q: no right engine", text)
		}
		if _, _, code := impl.Ask(e, text); code != impl.EnOk {
			t.Errorf("%.100q: %d", text, code)
		}
	}
	checkRefuses(t, e, viewStep("u", " "+longest), impl.EnBad)
	if _, _, code := impl.Ask(e, " "+longest); code != impl.EnQuery {
		t.Errorf("a question of too many bytes: %d", code)
	}
}

func TestP11QuestionsThatDoNotFit(t *testing.T) {
	steps := []impl.Step{tableStep("n", "x"), tableStep("o", "y"), changeStep(rel("n", numbered(0, 20)), rel("o", numbered(0, 21)))}
	e := doneAll(t, steps...)
	for _, text := range []string{"select * from n, o", "select * from n, o where false", "select distinct x from n, o", "select x, count(*) from n, o group by x", "select * from o, n", "select * from n, n union all select * from n, o", "select 1 from n, n, n"} {
		checkRefuses(t, e, viewStep("v", text), impl.EnRows)
		if b, names, code := impl.Ask(e, text); code != impl.EnRows || !sameBag(b, bag(0)) || len(names) != 0 {
			t.Errorf("%s: %d with %v", text, code, names)
		}
	}
	for _, text := range []string{"select * from n, o where zz", "select * from n, n, zz", "select y from n, o, o"} {
		checkRefuses(t, e, viewStep("v", text), impl.EnQuery)
	}
	most := checkDone(t, e, viewStep("v", "select * from n, n"))
	if len(most.Views[0].Bag.Rows) != impl.MaxRows || !impl.EngineOk(most) {
		t.Error("just as many rows")
	}
	// One row more, in a table that a view has.
	more := changeStep(rel("n", numbered(20, 1)))
	checkRefuses(t, most, more, impl.EnRows)
	checkRefuses(t, most, changeStep(rel("n", numbered(20, 1)), rel("o", numbered(30, 1))), impl.EnRows)
	for _, s := range []impl.Step{changeStep(rel("n", bag(1, times(-1, num(0)), times(1, num(20))))), changeStep(rel("o", numbered(30, 1))), changeStep(rel("n", bag(1, times(4, num(0)))))} {
		if next := checkDone(t, most, s); !impl.EngineOk(next) {
			t.Errorf("no right engine: %v", next.Views)
		}
	}
	if next := checkDone(t, checkDone(t, most, dropStep("v")), more); !impl.EngineOk(next) {
		t.Error("without the view")
	}
	// A view fits by its rows, and the one beside it does not by how often one is there.
	often := doneAll(t, tableStep("n", "x"), viewStep("u", "select * from n"), viewStep("v", "select * from n union all select * from n"), changeStep(rel("n", bag(1, times(mostTimes/2, num(1))))))
	checkRefuses(t, often, changeStep(rel("n", bag(1, times(1, num(1))))), impl.EnRows)
	if next := checkDone(t, often, changeStep(rel("n", bag(1, times(1, num(2)))))); !impl.EngineOk(next) {
		t.Error("another row")
	}
}

func TestP11Drops(t *testing.T) {
	e := smallEngine(t)
	for _, name := range []string{"a", "zz", "x", "k", "select"} {
		checkRefuses(t, e, dropStep(name), impl.EnName)
		checkRefuses(t, impl.Engine{}, dropStep(name), impl.EnName)
	}
	checkRefuses(t, e, dropStep("t"), impl.EnUsed)
	checkRefuses(t, e, dropStep("b"), impl.EnUsed)
	next := checkDone(t, e, dropStep("empty"))
	if impl.PlanText(next.Views[0].Plan) != impl.PlanText(e.Views[0].Plan) || len(next.Db) != 2 || len(next.Schemas) != 2 || !impl.EngineOk(next) {
		t.Errorf("a table that no view has: %v", next.Db)
	}
	next = checkDone(t, e, dropStep("w"))
	if len(next.Views) != 1 || next.Views[0].Name != "v" || len(next.Texts) != 1 || next.Texts[0] != e.Texts[0] || !sameDb(next.Db, e.Db) || !impl.EngineOk(next) {
		t.Errorf("a view: %v", next.Views)
	}
	checkRefuses(t, next, dropStep("t"), impl.EnUsed)
	checkRefuses(t, next, dropStep("w"), impl.EnName)
	if last := checkDone(t, next, dropStep("b")); len(last.Db) != 2 || last.Db[0].Name != "empty" || last.Schemas[1].Name != "t" || !impl.EngineOk(last) {
		t.Errorf("a table that a view had: %v", last.Db)
	}
	next = checkDone(t, e, dropStep("v"))
	checkRefuses(t, next, dropStep("t"), impl.EnUsed)
	if next = checkDone(t, next, dropStep("w")); len(next.Views)+len(next.Texts) != 0 {
		t.Errorf("the last view: %v", next.Views)
	}
	if next = checkDone(t, next, dropStep("t")); len(next.Db) != 2 || !impl.EngineOk(next) {
		t.Errorf("a table with rows: %v", next.Db)
	}
	// A table is in use where it stands behind a union, or twice, or where no row of it counts.
	for _, text := range []string{"select x from b union all select z from empty", "select k from b, empty", "select 1 from empty where false", "select k from empty, b, empty"} {
		checkRefuses(t, checkDone(t, e, viewStep("u", text)), dropStep("empty"), impl.EnUsed)
	}
}

func TestP11Changes(t *testing.T) {
	e := smallEngine(t)
	row := bag(2, times(1, num(7), num(70)))
	low := bag(2, times(-1, num(7), num(70)))
	for _, s := range []impl.Step{
		changeStep(rel("zz", row)), changeStep(rel("v", bag(3))), changeStep(rel("v", bag(3, times(1, num(1), num(1), num(1))))), changeStep(rel("w", row)), changeStep(rel("t", row), rel("zz", row)), changeStep(rel("a", bag(1)), rel("t", row)), changeStep(rel("b", bag(2)), rel("v", bag(3)), rel("w", bag(2))),
		// Ahead of rows that are none, wherever these stand.
		changeStep(rel("t", low), rel("zz", row)), changeStep(rel("a", row), rel("t", low)), changeStep(rel("t", bag(1)), rel("v", bag(3))), changeStep(rel("zz", low)),
	} {
		checkRefuses(t, e, s, impl.EnName)
	}
	checkRefuses(t, impl.Engine{}, changeStep(rel("t", row)), impl.EnName)
	for _, s := range []impl.Step{
		changeStep(rel("t", low)), changeStep(rel("t", bag(1))), changeStep(rel("t", bag(0))), changeStep(rel("t", bag(3, times(1, null, null, null)))), changeStep(rel("t", bag(2, times(-3, num(2), num(20))))), changeStep(rel("empty", bag(1, times(-1, null)))), changeStep(rel("b", bag(2, times(1, num(5), no))), rel("t", low)), changeStep(rel("b", low), rel("t", row)), changeStep(rel("t", bag(2, times(mostTimes-1, num(2), num(20))))), changeStep(rel("empty", bag(1)), rel("t", bag(1))),
	} {
		checkRefuses(t, e, s, impl.EnRows)
	}
	if full := checkDone(t, e, changeStep(rel("empty", numbered(0, impl.MaxRows)))); !impl.EngineOk(full) {
		t.Error("as many rows as there may be")
	} else {
		checkRefuses(t, full, changeStep(rel("empty", numbered(400, 1))), impl.EnRows)
		checkRefuses(t, full, changeStep(rel("empty", numbered(400, 1)), rel("zz", row)), impl.EnName)
	}
	for _, s := range []impl.Step{changeStep(rel("t", bag(2))), changeStep(rel("b", bag(2)), rel("empty", bag(1)), rel("t", bag(2))), changeStep(rel("t", row)), changeStep(rel("t", bag(2, times(-2, num(2), num(20)), times(1, num(2), num(21))))), changeStep(rel("b", impl.TimesBag(e.Db[0].Bag, -1)), rel("empty", bag(1, times(9, null))), rel("t", impl.TimesBag(e.Db[2].Bag, -1)))} {
		next := checkDone(t, e, s)
		if !impl.EngineOk(next) || !sameDb(next.Db, changedByHand(e.Db, s.Change)) || !slices.Equal(next.Texts, e.Texts) {
			t.Errorf("%v: %v", s, next.Db)
		}
		if back := checkDone(t, next, changeStep(impl.Negate(s.Change)...)); !sameContent(back, e) {
			t.Errorf("%v, and back: %v", s, back.Db)
		}
	}
}

// A delta that is no bag makes the view anew.
func TestP11AChangeOfVeryManyRows(t *testing.T) {
	both := "select x from f union all select x + 5000 from f"
	e := doneAll(t, tableStep("f", "x"), changeStep(rel("f", numbered(0, 200))), viewStep("v", both))
	d := changeStep(rel("f", bag(1, slices.Concat(impl.TimesBag(numbered(0, 200), -1).Rows, numbered(1000, 200).Rows)...)))
	if impl.BagOk(impl.Delta(e.Db, d.Change, e.Views[0].Plan)) {
		t.Fatal("no such delta")
	}
	if next := checkDone(t, e, d); !impl.EngineOk(next) || len(next.Views[0].Bag.Rows) != impl.MaxRows || impl.CountOf(next.Views[0].Bag, row(num(6199))) != 1 {
		t.Error("not made anew")
	}
}

// roomFor is an engine with tables for stepOfSize, and how many bytes such a step may have there.
func roomFor(t *testing.T) (impl.Engine, int) {
	t.Helper()
	e := doneAll(t, tableStep("a", "x y"), tableStep("b", numberedCols("c", impl.MaxWidth)), viewStep("v", "select x from a"))
	return e, impl.MaxLog - len(e.Log) - entryHead
}

func TestP11ALogThatIsFull(t *testing.T) {
	e, size := roomFor(t)
	for _, more := range []int{1, 2, 100} {
		s := stepOfSize(t, size+more)
		if next, code := impl.Do(e, s); code != impl.EnFull || !sameEngine(next, e) {
			t.Errorf("%d bytes too many: %d", more, code)
		}
		// The step alone is right: it is the log that has no room.
		if next, code := impl.Apply(e, s); code != impl.EnOk || next.Log != e.Log || len(next.Db[1].Bag.Rows) != 75 {
			t.Errorf("%d bytes too many, applied: %d", more, code)
		}
	}
	full := checkDone(t, e, stepOfSize(t, size))
	if len(full.Log) != impl.MaxLog || !impl.EngineOk(full) {
		t.Errorf("a log of %d bytes", len(full.Log))
	}
	for _, s := range []impl.Step{tableStep("c", "x"), viewStep("w", "select * from a"), dropStep("v"), changeStep(rel("a", bag(2)))} {
		if next, code := impl.Do(full, s); code != impl.EnFull || !sameEngine(next, full) {
			t.Errorf("%v: %d", s, code)
		}
	}
	// What a step would be refused for is told ahead of that.
	for s, want := range map[string]int{"a": impl.EnUsed, "zz": impl.EnName, "": impl.EnBad} {
		checkRefuses(t, full, dropStep(s), want)
	}
	checkRefuses(t, full, viewStep("w", "select"), impl.EnQuery)
	checkRefuses(t, full, changeStep(rel("a", bag(1))), impl.EnRows)
	synced := impl.Sync(full)
	if synced.Safe != impl.MaxLog || !impl.EngineOk(synced) || !sameEngine(impl.Crash(synced, 0), synced) {
		t.Error("all of it safe")
	}
	if lost := impl.Crash(full, impl.MaxLog-1); !sameContent(lost, e) || lost.Log != e.Log {
		t.Error("but for its last byte")
	}
	almost := checkDone(t, e, stepOfSize(t, size-len(entryOf(dropStep("v")))))
	if last := checkDone(t, almost, dropStep("v")); len(last.Log) != impl.MaxLog || !impl.EngineOk(last) {
		t.Error("the last step that there is room for")
	}
}

// A log tells what was done, whatever else stands in the engine ahead of it.
func TestP11DoBehindAnyLog(t *testing.T) {
	for _, log := range []string{"x", "\x00", entryOf(dropStep("zz")), strings.Repeat("y", 5000)} {
		for _, safe := range []int{0, 1, -7, math.MaxInt} {
			e, code := impl.Do(impl.Engine{Log: log, Safe: safe}, tableStep("t", "x"))
			if code != impl.EnOk || e.Log != log+entryOf(tableStep("t", "x")) || e.Safe != safe || len(e.Db) != 1 {
				t.Errorf("%.20q: %d with %d bytes, %d safe", log, code, len(e.Log), e.Safe)
			}
		}
	}
	room := impl.MaxLog - len(entryOf(tableStep("t", "x")))
	if e, code := impl.Do(impl.Engine{Log: strings.Repeat("y", room)}, tableStep("t", "x")); code != impl.EnOk || len(e.Log) != impl.MaxLog {
		t.Errorf("just as much room: %d", code)
	}
	for _, size := range []int{room + 1, impl.MaxLog, impl.MaxLog + 1, 3 * impl.MaxLog} {
		full := impl.Engine{Log: strings.Repeat("y", size), Safe: 3}
		if e, code := impl.Do(full, tableStep("t", "x")); code != impl.EnFull || !sameEngine(e, full) {
			t.Errorf("%d bytes: %d", size, code)
		}
	}
}

// mixedSteps are the story with steps in between that are refused, and tell the others alone.
func mixedSteps(t *testing.T) ([]impl.Step, []impl.Step) {
	t.Helper()
	mixed, l := []impl.Step{}, ledger{}
	for _, s := range storySteps() {
		for _, wrong := range []impl.Step{dropStep("zz"), viewStep("nn", "select"), tableStep("t", "q"), changeStep(rel("t", bag(2, times(-9, num(1), num(10))))), viewStep("mm", "select zz from t")} {
			if l.code(wrong) != impl.EnOk {
				mixed = append(mixed, wrong)
			}
		}
		mixed = append(mixed, s)
		l = l.after(s)
	}
	return mixed, storySteps()
}

func TestP11Play(t *testing.T) {
	steps := storySteps()
	list := books(t, steps...)
	whole, ends := mustAppend(t, steps...)
	for i, end := range append([]int{0}, ends...) {
		got := impl.Play(whole[:end])
		checkHolds(t, "played", got, list[i])
		if got.Log != "" || got.Safe != 0 {
			t.Errorf("a log of %d bytes, %d safe", len(got.Log), got.Safe)
		}
	}
	for cut := range len(whole) {
		count, end := aheadOf(ends, cut)
		if got := impl.Play(whole[:cut]); !sameEngine(got, impl.Play(whole[:end])) {
			t.Fatalf("cut at %d", cut)
		} else if cut%10 == 0 {
			checkHolds(t, "cut", got, list[count])
		}
		spoilt := []byte(whole)
		spoilt[cut] ^= 1
		if got := impl.Play(string(spoilt)); cut%7 == 0 && !sameEngine(got, impl.Play(whole[:end])) {
			t.Fatalf("spoilt at %d", cut)
		}
	}
	for _, log := range []string{"", "x", whole[1:], "\x00" + whole, strings.Repeat("x", impl.MaxLog+1), whole + strings.Repeat("\x00", impl.MaxLog)} {
		if got := impl.Play(log); !sameEngine(got, impl.Engine{}) {
			t.Errorf("%.20q: %v", log, got)
		}
	}
	for _, more := range []string{"x", "\x00\x00\x00", entryOf(dropStep("b"))[1:], strings.Repeat("\xff", 100)} {
		checkHolds(t, "more behind", impl.Play(whole+more), list[len(list)-1])
	}
}

func TestP11PlayOfStepsThatAreRefused(t *testing.T) {
	mixed, steps := mixedSteps(t)
	if len(mixed) < 4*len(steps) {
		t.Fatalf("only %d steps", len(mixed))
	}
	list := books(t, steps...)
	log, ends := mustAppend(t, mixed...)
	done := 0
	for i, end := range ends {
		if done < len(steps) && sameStep(mixed[i], steps[done]) {
			done++
		}
		got := impl.Play(log[:end])
		checkHolds(t, "with refused ones", got, list[done])
		got.Log = log[:end]
		if !impl.EngineOk(got) {
			t.Errorf("step %d: no right engine", i)
		}
		lost := impl.Crash(impl.Engine{Log: log, Safe: end - 1}, 1)
		if lost.Log != log[:end] || lost.Safe != end || !sameContent(lost, got) {
			t.Errorf("step %d: another one behind a crash", i)
		}
		if t.Failed() {
			t.FailNow()
		}
	}
	if done != len(steps) {
		t.Errorf("only %d were done", done)
	}
}

func TestP11CrashOfAnyEngine(t *testing.T) {
	steps := storySteps()
	whole, ends := mustAppend(t, steps...)
	list := books(t, steps...)
	// What else stands in an engine does not count: its log alone tells what is left.
	odd := impl.Engine{Schemas: []impl.Schema{schema("zz", "x")}, Db: []impl.Rel{rel("b", bag(2))}, Views: []impl.View{view("t", table("zz"))}, Texts: []string{"a", "b"}, Log: whole}
	for _, x := range []struct{ safe, keep, kept int }{
		{0, 0, 0}, {-1, 0, 0}, {math.MinInt, 0, 0}, {math.MinInt, math.MinInt, 0}, {math.MinInt, 50, 50}, {-10, 50, 50}, {-10, 10, 10}, {0, ends[3], ends[3]}, {ends[2], -1, ends[2]}, {ends[2], math.MinInt, ends[2]}, {ends[2], ends[4] - ends[2], ends[4]}, {ends[2] - 1, 1, ends[2]}, {ends[2] - 1, 0, ends[2] - 1},
		{len(whole), 0, len(whole)}, {len(whole) + 1, 0, len(whole)}, {len(whole) + 1, -1, len(whole)}, {math.MaxInt, 0, len(whole)}, {math.MaxInt, math.MaxInt, len(whole)}, {1, math.MaxInt, len(whole)}, {len(whole), math.MaxInt, len(whole)}, {math.MaxInt, math.MinInt, len(whole)}, {math.MinInt, math.MaxInt, len(whole)},
	} {
		odd.Safe = x.safe
		count, end := aheadOf(ends, x.kept)
		got := impl.Crash(odd, x.keep)
		if got.Log != whole[:end] || got.Safe != end || !impl.EngineOk(got) {
			t.Errorf("%d safe and %d more: %d bytes, want %d", x.safe, x.keep, len(got.Log), end)
		}
		checkHolds(t, "crash", got, list[count])
	}
	for _, log := range []string{"", "x", whole[1:], strings.Repeat("x", impl.MaxLog+1)} {
		for _, keep := range keeps(len(log)) {
			if got := impl.Crash(impl.Engine{Log: log, Safe: 1}, keep); !sameEngine(got, impl.Engine{}) {
				t.Errorf("%.20q and %d: %v", log, keep, got)
			}
		}
	}
	// Of a log that is too long, what is left may be short enough.
	long := whole + strings.Repeat("x", impl.MaxLog)
	for _, x := range []struct{ safe, keep, end int }{{len(whole), 0, len(whole)}, {0, impl.MaxLog, len(whole)}, {0, impl.MaxLog + 1, 0}, {impl.MaxLog + 1, -1, 0}, {len(whole), math.MaxInt, 0}} {
		if got := impl.Crash(impl.Engine{Log: long, Safe: x.safe}, x.keep); got.Log != whole[:x.end] || got.Safe != x.end {
			t.Errorf("%d safe and %d more of too long a log: %d bytes", x.safe, x.keep, len(got.Log))
		}
	}
}

// An otherwise is a change to a copy of a right engine.
type otherwise func(e *impl.Engine)

// wrongFields are each one field other than the log of smallEngine makes it.
func wrongFields(t *testing.T) map[string]otherwise {
	t.Helper()
	small := smallEngine(t)
	log := small.Log
	u := impl.View{Name: "u", Plan: table("t"), Bag: small.Db[2].Bag}
	return map[string]otherwise{
		"no schemas":         func(e *impl.Engine) { e.Schemas = nil },
		"a schema less":      func(e *impl.Engine) { e.Schemas = e.Schemas[1:] },
		"a schema more":      func(e *impl.Engine) { e.Schemas = append(e.Schemas, schema("z", "x")) },
		"a schema's name":    func(e *impl.Engine) { e.Schemas[1].Name = "emptz" },
		"a column's name":    func(e *impl.Engine) { e.Schemas[1].Cols[0] = "zz" },
		"a column's name, 2": func(e *impl.Engine) { e.Schemas[2].Cols[1] = "zz" },
		"a column more":      func(e *impl.Engine) { e.Schemas[1].Cols = append(e.Schemas[1].Cols, "zz") },
		"columns turned":     func(e *impl.Engine) { slices.Reverse(e.Schemas[0].Cols) },
		"schemas turned":     func(e *impl.Engine) { slices.Reverse(e.Schemas) },
		"no name of a schema": func(e *impl.Engine) {
			e.Schemas[1].Name, e.Db[1].Name = "Empty", "Empty"
		},
		"no tables":                 func(e *impl.Engine) { e.Db = nil },
		"a table less":              func(e *impl.Engine) { e.Db = e.Db[1:] },
		"a table more":              func(e *impl.Engine) { e.Db = append(e.Db, rel("z", bag(1))) },
		"a table's name":            func(e *impl.Engine) { e.Db[1].Name = "emptz" },
		"a row of no view":          func(e *impl.Engine) { e.Db[1].Bag = bag(1, times(1, null)) },
		"a row of a view":           func(e *impl.Engine) { e.Db[2].Bag = bag(2, times(1, num(1), num(10))) },
		"a table's width":           func(e *impl.Engine) { e.Db[1].Bag = bag(2) },
		"a table that is not plain": func(e *impl.Engine) { e.Db[1].Bag = bag(1, times(-1, null)) },
		"a table with a schema more": func(e *impl.Engine) {
			e.Db, e.Schemas = append(e.Db, rel("z", bag(1))), append(e.Schemas, schema("z", "x"))
		},
		"a table with its schema less": func(e *impl.Engine) {
			e.Db, e.Schemas = slices.Delete(e.Db, 1, 2), slices.Delete(e.Schemas, 1, 2)
		},
		"no views":                 func(e *impl.Engine) { e.Views = nil },
		"no views and texts":       func(e *impl.Engine) { e.Views, e.Texts = nil, nil },
		"a view less":              func(e *impl.Engine) { e.Views = e.Views[1:] },
		"a view and its text less": func(e *impl.Engine) { e.Views, e.Texts = e.Views[1:], e.Texts[1:] },
		"a view more":              func(e *impl.Engine) { e.Views = append([]impl.View{u}, e.Views...) },
		"a view and a text more": func(e *impl.Engine) {
			e.Views, e.Texts = append([]impl.View{u}, e.Views...), append([]string{"select * from t"}, e.Texts...)
		},
		"a view's name":                     func(e *impl.Engine) { e.Views[0].Name = "u" },
		"a table's name for a view":         func(e *impl.Engine) { e.Views[0].Name = "empty" },
		"views turned":                      func(e *impl.Engine) { slices.Reverse(e.Views) },
		"a view without a row":              func(e *impl.Engine) { e.Views[0].Bag = bag(3) },
		"a view's count":                    func(e *impl.Engine) { e.Views[1].Bag.Rows[0].N++ },
		"a view's value":                    func(e *impl.Engine) { e.Views[0].Bag.Rows[0].Row[1].N++ },
		"a view's width":                    func(e *impl.Engine) { e.Views[0].Bag.Width++ },
		"a view's plan":                     func(e *impl.Engine) { e.Views[0].Plan = distinct(e.Views[0].Plan) },
		"a view's plan that means the same": func(e *impl.Engine) { e.Views[1].Plan = filter(lit(yes), e.Views[1].Plan) },
		"no texts":                          func(e *impl.Engine) { e.Texts = nil },
		"a text less":                       func(e *impl.Engine) { e.Texts = e.Texts[:1] },
		"a text more":                       func(e *impl.Engine) { e.Texts = append(e.Texts, e.Texts[1]) },
		"texts turned":                      func(e *impl.Engine) { slices.Reverse(e.Texts) },
		"a blank more":                      func(e *impl.Engine) { e.Texts[0] += " " },
		"a text of another plan":            func(e *impl.Engine) { e.Texts[0] = "select distinct x, count(*), sum(y) from t group by x" },
		"a text that is none":               func(e *impl.Engine) { e.Texts[1] = "select" },
		"a text of no column":               func(e *impl.Engine) { e.Texts[1] = "select zz from t" },
		"a text and its plan": func(e *impl.Engine) {
			e.Texts[1] = "select distinct t.x, k from t, b where t.x = b.x"
			e.Views[1].Plan = distinct(e.Views[1].Plan)
			e.Views = impl.Refresh(e.Db, e.Views)
		},
		"no log":                   func(e *impl.Engine) { e.Log = "" },
		"a byte less":              func(e *impl.Engine) { e.Log = log[:len(log)-1] },
		"a byte more":              func(e *impl.Engine) { e.Log += "x" },
		"a step less":              func(e *impl.Engine) { e.Log = log[:len(log)-len(entryOf(viewStep("w", small.Texts[1])))] },
		"a step more":              func(e *impl.Engine) { e.Log += entryOf(dropStep("w")) },
		"a step that is none":      func(e *impl.Engine) { e.Log += framed(1, "x") },
		"too long a log":           func(e *impl.Engine) { e.Log += strings.Repeat(entryOf(dropStep("zz")), impl.MaxLog/10) },
		"a log spoilt":             func(e *impl.Engine) { e.Log = log[:30] + "?" + log[31:] },
		"less than nothing safe":   func(e *impl.Engine) { e.Safe = -1 },
		"more than there is safe":  func(e *impl.Engine) { e.Safe = len(log) + 1 },
		"the least number safe":    func(e *impl.Engine) { e.Safe = math.MinInt },
		"the greatest number safe": func(e *impl.Engine) { e.Safe = math.MaxInt },
	}
}

func TestP11EnginesThatAreOther(t *testing.T) {
	for what, alter := range wrongFields(t) {
		e := smallEngine(t)
		alter(&e)
		if impl.EngineOk(e) {
			t.Errorf("right: %s", what)
		}
		// Sync mends what was safe, and nothing else.
		if synced := impl.Sync(e); !sameContent(synced, e) || synced.Log != e.Log || synced.Safe != len(e.Log) || impl.EngineOk(synced) != strings.HasSuffix(what, " safe") {
			t.Errorf("synced: %s", what)
		}
	}
	right := map[string]otherwise{
		"as it is":       func(e *impl.Engine) {},
		"nothing safe":   func(e *impl.Engine) { e.Safe = 0 },
		"a part safe":    func(e *impl.Engine) { e.Safe = 5 },
		"all safe":       func(e *impl.Engine) { e.Safe = len(e.Log) },
		"empty lists":    func(e *impl.Engine) { e.Db[1].Bag.Rows = []impl.Counted{} },
		"a step refused": func(e *impl.Engine) { e.Log += entryOf(dropStep("zz")) },
		"steps and back": func(e *impl.Engine) { e.Log += entryOf(tableStep("zz", "x")) + entryOf(dropStep("zz")) },
		"refused, ahead": func(e *impl.Engine) { e.Log = entryOf(dropStep("t")) + entryOf(viewStep("t", "select")) + e.Log },
		"a log of more":  func(e *impl.Engine) { e.Log += strings.Repeat(entryOf(dropStep("zz")), 1000) },
	}
	for what, alter := range right {
		e := smallEngine(t)
		alter(&e)
		if !impl.EngineOk(e) {
			t.Errorf("not right: %s", what)
		}
	}
	if !impl.EngineOk(impl.Engine{Schemas: []impl.Schema{}, Db: []impl.Rel{}, Views: []impl.View{}, Texts: []string{}}) {
		t.Error("empty lists")
	}
}

type bestCase struct {
	p    impl.Plan
	want string
}

func checkBests(t *testing.T, e impl.Engine, list []bestCase) {
	t.Helper()
	if !impl.EngineOk(e) {
		t.Fatal("no right engine")
	}
	for _, x := range list {
		if got := impl.PlanText(impl.Best(e, x.p)); got != x.want {
			t.Errorf("best of %s: %s, want %s", impl.PlanText(x.p), got, x.want)
		}
		checkBest(t, e, x.p)
	}
}

func TestP11Best(t *testing.T) {
	small := func(p impl.Plan) impl.Plan { return filter(op("<", col(0), lit(num(2))), p) }
	trades, kinds, none := table("t"), table("b"), table("empty")
	plain := doneAll(t, tableStep("b", "x k"), tableStep("empty", "z"), tableStep("t", "x y"), changeStep(rel("b", bag(2, times(1, num(1), text("one")), times(2, num(2), text("two")), times(1, num(3), null))), rel("t", bag(2, times(1, num(1), num(10)), times(1, num(1), num(20)), times(5, num(2), num(20)), times(1, num(4), null)))))
	pairs := join(lit(yes), trades, kinds)
	checkBests(t, plain, []bestCase{
		{trades, "t"}, {distinct(trades), "distinct(t)"},
		// Push makes these lighter.
		{distinct(distinct(trades)), "distinct(t)"}, {filter(lit(yes), trades), "t"}, {small(pairs), "join(true, filter((c0 < 2), t), b)"}, {small(small(trades)), "filter(((c0 < 2) and (c0 < 2)), t)"}, {small(distinct(trades)), "distinct(filter((c0 < 2), t))"}, {small(group(1, nil, trades)), "group(1, [], filter((c0 < 2), t))"},
		// These weigh the same without a row: the first one.
		{distinct(distinct(none)), "distinct(distinct(empty))"}, {filter(lit(yes), none), "filter(true, empty)"}, {small(union(none, none)), "filter((c0 < 2), union(empty, empty))"},
		// Pushed it would be heavier: as many rows again for each side of the union.
		{filter(not(isNull(col(0))), union(trades, trades)), "filter(not(isnull(c0)), union(t, t))"}, {small(union(trades, trades)), "filter((c0 < 2), union(t, t))"},
	})
	e := plain
	for _, s := range []impl.Step{viewStep("f", "select * from t where x < 2"), viewStep("g", "select x, count(*) from t group by x"), viewStep("same", "select * from t"), viewStep("z", "select * from empty where z < 2")} {
		e = checkDone(t, e, s)
	}
	byKey := group(1, nil, project(exps(col(0)), trades))
	checkBests(t, e, []bestCase{
		// A view makes these lighter.
		{byKey, "g"}, {distinct(byKey), "distinct(g)"}, {small(trades), "f"}, {filter(op("and", is(1, 10), op("<", col(0), lit(num(2)))), trades), "filter((c1 = 10), f)"},
		// As many rows in a view as in its table: the plan itself.
		{trades, "t"}, {distinct(trades), "distinct(t)"}, {none, "empty"}, {small(none), "filter((c0 < 2), empty)"}, {distinct(small(none)), "distinct(filter((c0 < 2), empty))"},
		// Pushed, then with a view: lighter than either of these alone.
		{small(pairs), "join(true, f, b)"}, {small(distinct(trades)), "distinct(f)"}, {filter(lit(yes), byKey), "g"}, {distinct(distinct(byKey)), "distinct(g)"},
		// A filter that no rule pushes into the group.
		{filter(op("<", col(1), lit(num(2))), byKey), "filter((c1 < 2), g)"},
	})
	// Of two views that weigh the same the first one that is told.
	two := checkDone(t, checkDone(t, plain, viewStep("f", "select distinct x from t")), viewStep("g", "select distinct x from t"))
	checkBests(t, two, []bestCase{{distinct(project(exps(col(0)), trades)), "f"}})
}

func TestP11BestOfPlansThatDoNotFit(t *testing.T) {
	e := doneAll(t, tableStep("n", "x"), tableStep("o", "x"), changeStep(rel("n", numbered(0, 20)), rel("o", numbered(0, 21))), viewStep("v", "select distinct x from n"), viewStep("w", "select * from n where x < 3"))
	tooMuch := join(lit(yes), table("n"), table("o"))
	list := []impl.Plan{tooMuch, distinct(distinct(tooMuch)), filter(is(0, 1), tooMuch), filter(lit(yes), tooMuch), join(lit(no), tooMuch, distinct(project(exps(col(0)), table("n"))))}
	for _, p := range []impl.Plan{table("v"), table("zz"), distinct(table("w")), under(impl.MaxPlan+1, table("n")), distinct(distinct(distinct(table("zz"))))} {
		list = append(list, p, filter(lit(yes), p))
	}
	for _, p := range append(list, wrongShapes()...) {
		if got := impl.Best(e, p); !samePlanTree(got, p) {
			t.Errorf("does not fit: %s, not %s", impl.PlanText(got), impl.PlanText(p))
		}
	}
	for _, db := range wrongDbs() {
		p := distinct(distinct(table("a")))
		if got := impl.Best(impl.Engine{Db: db}, p); !samePlanTree(got, p) {
			t.Errorf("no database: %s", impl.PlanText(got))
		}
	}
	// It fits once it is pushed, but not over the tables as it stands.
	filtered := filter(op("and", is(0, 1), is(1, 1)), tooMuch)
	if !impl.Fits(e.Db, impl.Push(e.Db, filtered)) || !samePlanTree(impl.Best(e, filtered), filtered) {
		t.Error("fits when it is pushed")
	}
}

// Views that are not fresh are taken as they stand, as Use and WithViews take them.
func TestP11BestWithViewsOfAnyBag(t *testing.T) {
	db := []impl.Rel{rel("a", bag(1, times(1, num(1)), times(1, num(2))))}
	p := distinct(table("a"))
	for _, b := range allBags() {
		e := impl.Engine{Schemas: []impl.Schema{schema("a", "x")}, Db: db, Views: []impl.View{{Name: "v", Plan: p, Bag: b}}}
		all := impl.WithViews(e.Db, e.Views)
		want := "distinct(a)"
		if impl.Fits(all, table("v")) && impl.Weight(all, table("v")) < impl.Weight(all, p) {
			want = "v"
		}
		if got := impl.PlanText(impl.Best(e, p)); got != want {
			t.Errorf("%.100v: %s, want %s", b, got, want)
		}
		got, names, code := impl.Ask(e, "select distinct * from a")
		if code != impl.EnOk || !slices.Equal(names, []string{"x"}) {
			t.Errorf("%.100v: %d with %v", b, code, names)
		}
		checkBag(t, want, got, impl.Answer(all, impl.Best(e, p)))
	}
	// With more than 20 together there are none but the tables.
	many := impl.Engine{Db: manyRels(mostRels)}
	many.Views = impl.Refresh(many.Db, []impl.View{view("v", distinct(table("ra")))})
	if got := impl.PlanText(impl.Best(many, distinct(table("ra")))); got != "distinct(ra)" {
		t.Errorf("too many together: %s", got)
	}
}

func TestP11Ask(t *testing.T) {
	e := smallEngine(t)
	for _, x := range []struct{ text, names, want string }{
		{"select * from t", "x,y", "1x 1,10;2x 2,20"}, {"select y from t where x < 2", "y", "1x 10"}, {"select x, count(*), sum(y) from t group by x", "x,count,sum", "1x 1,1,10;1x 2,2,40"}, {"select t.x, k from t, b where t.x = b.x", "x,k", "1x 1,'one';4x 2,'two'"}, {"select x + 1, k from b", "c0,k", "1x 2,'one';2x 3,'two'"}, {"select z from empty", "z", ""}, {"select distinct 7 from t union all select z from empty", "c0", "1x 7"},
	} {
		b, names, code := impl.Ask(e, x.text)
		if code != impl.EnOk || strings.Join(names, ",") != x.names || tell(b) != x.want {
			t.Errorf("%s: %s with %v, code %d", x.text, tell(b), names, code)
		}
	}
	if _, _, code := impl.Ask(impl.Engine{}, "select * from t"); code != impl.EnQuery {
		t.Errorf("no tables: %d", code)
	}
	// The tables may be other than the schemas say: a plan over these that is not right, or does not fit.
	list := []impl.Schema{schema("a", "x y")}
	for _, x := range []struct {
		db   []impl.Rel
		text string
		want int
	}{
		{nil, "select * from a", impl.EnQuery}, {[]impl.Rel{rel("b", bag(2))}, "select x from a", impl.EnQuery}, {[]impl.Rel{rel("a", bag(1))}, "select y from a", impl.EnQuery}, {[]impl.Rel{rel("a", bag(1, times(1, num(1))))}, "select x from a", impl.EnOk}, {[]impl.Rel{rel("a", bag(2, times(-1, null, null)))}, "select * from a", impl.EnRows}, {[]impl.Rel{rel("a", bag(2)), rel("A", bag(2))}, "select * from a", impl.EnRows}, {[]impl.Rel{rel("a", bag(2)), rel("a", bag(2))}, "select * from a", impl.EnRows}, {[]impl.Rel{rel("a", bag(13))}, "select * from a", impl.EnQuery},
	} {
		e := impl.Engine{Schemas: list, Db: x.db}
		if b, names, code := impl.Ask(e, x.text); code != x.want || code != impl.EnOk && (len(names) != 0 || !sameBag(b, bag(0))) {
			t.Errorf("%s of %v: %d, want %d", x.text, x.db, code, x.want)
		}
		if _, code := impl.Apply(e, viewStep("v", x.text)); code != x.want {
			t.Errorf("a view of %s of %v: %d, want %d", x.text, x.db, code, x.want)
		}
	}
	// A table without a name is not what a question that is none, or is not bound, asks for.
	nameless := impl.Engine{Schemas: list, Db: []impl.Rel{rel("", bag(2)), rel("a", bag(2))}}
	for text, want := range map[string]int{"": impl.EnQuery, "select": impl.EnQuery, "select zz from a": impl.EnQuery, "select * from zz": impl.EnQuery, "select * from a": impl.EnRows} {
		if _, _, code := impl.Ask(nameless, text); code != want {
			t.Errorf("%q beside a table without a name: %d, want %d", text, code, want)
		}
	}
	for _, wrong := range wrongSchemas() {
		if _, _, code := impl.Ask(impl.Engine{Schemas: wrong, Db: e.Db}, "select * from t"); code != impl.EnQuery {
			t.Errorf("%.100v: %d", wrong, code)
		}
	}
}

// marketStep is one of any kind over the market's names, mostly right.
func marketStep(r *rand.Rand, l ledger) impl.Step {
	views := []string{"v", "w", "u", "a0", "bb", "z"}
	switch kind := r.Intn(20); {
	case kind < 3:
		s := pick(r, marketSchemas())
		if r.Intn(10) == 0 {
			s = schema(pick(r, append(views, s.Name)), "x y")
		}
		return impl.Step{Kind: impl.StTable, Name: s.Name, Cols: s.Cols}
	case kind < 8:
		name := pick(r, views)
		if r.Intn(10) == 0 {
			name = pick(r, marketSchemas()).Name
		}
		return viewStep(name, marketText(r, l))
	case kind < 10:
		return dropStep(pick(r, append(views, "a", "b", "p", "t", "t")))
	case kind == 10:
		return anyStep(r)
	}
	d := slices.DeleteFunc(randomChange(r, l.db), func(x impl.Rel) bool { return r.Intn(2) == 0 })
	if len(l.db) > 0 && (len(d) == 0 || r.Intn(8) == 0) {
		d = change(rel(pick(r, l.db).Name, pick(r, []impl.Bag{randomBag(r, 2), randomBag(r, 1), numbered(r.Intn(5), 30)})))
	}
	return changeStep(d...)
}

// marketText is a question that can be read, and mostly one that is bound.
func marketText(r *rand.Rand, l ledger) string {
	for range 30 {
		text := impl.ShowQuery(marketQuestion(r, 1+r.Intn(3), 2))
		q, ok := impl.ParseQuery(text)
		if !ok {
			continue
		}
		if _, code := codeByHand(l.schemas, q); code == impl.BindOk && len(q.From) < 4 {
			return text
		}
	}
	return pick(r, append(storyQuestions(), "select * from t", "select * from a", "select x from a, zz"))
}

// filteredText is a question over what a view has, with less of it, so that the view may serve.
func filteredText(r *rand.Rand, l ledger) string {
	if len(l.views) == 0 {
		return marketText(r, l)
	}
	q, _ := impl.ParseQuery(l.views[pick(r, slices.Sorted(maps.Keys(l.views)))])
	switch {
	case len(q.Where) == 1 && r.Intn(2) == 0:
		q.Where = asts(aop("and", pick(r, []impl.Ast{avalue(yes), anull(avalue(null)), q.Where[0]}), q.Where[0]))
	case len(q.Group) == 0:
		q.Distinct = true
	}
	return impl.ShowQuery(q)
}

// A session is an engine with what was done to it: the ledgers ahead of and behind each step, and where its entry ends.
type session struct {
	e     impl.Engine
	books []ledger
	ends  []int
}

func (x *session) now() ledger { return x.books[len(x.books)-1] }

func (x *session) do(t *testing.T, s impl.Step) int {
	t.Helper()
	want := x.now().code(s)
	if want != impl.EnOk {
		checkRefuses(t, x.e, s, want)
		return want
	}
	x.e = checkDone(t, x.e, s)
	x.books, x.ends = append(x.books, x.now().after(s)), append(x.ends, len(x.e.Log))
	return want
}

func (x *session) crash(t *testing.T, keep int) {
	t.Helper()
	checkCrash(t, x.e, keep, x.ends, x.books)
	x.e = impl.Crash(x.e, keep)
	count, _ := aheadOf(x.ends, len(x.e.Log))
	x.books, x.ends = x.books[:count+1], x.ends[:count]
}

func TestP11WhateverIsDone(t *testing.T) {
	r := rand.New(rand.NewSource(111))
	codes, asked, byViews, crashes := map[int]int{}, 0, 0, 0
	for range 100 {
		x := session{books: []ledger{{}}}
		for range 50 {
			codes[x.do(t, marketStep(r, x.now()))]++
			checkHolds(t, "done", x.e, x.now())
			for _, text := range []string{marketText(r, x.now()), filteredText(r, x.now())} {
				checkAsked(t, x.e, x.now(), text)
				if q, ok := impl.ParseQuery(text); ok {
					p, _, _ := impl.Bind(x.e.Schemas, q)
					if !slices.Equal(impl.Names(impl.Best(x.e, p)), impl.Names(p)) {
						byViews++
					}
				}
				asked++
			}
			switch r.Intn(15) {
			case 0:
				x.e = impl.Sync(x.e)
			case 1:
				x.crash(t, r.Intn(len(x.e.Log)-x.e.Safe+20)-10)
				crashes++
			case 2:
				if !impl.EngineOk(x.e) {
					t.Errorf("no right engine: %v", x.e)
				}
			}
			if t.Failed() {
				t.FailNow()
			}
		}
	}
	for code, least := range map[int]int{impl.EnOk: 2000, impl.EnName: 500, impl.EnQuery: 200, impl.EnUsed: 50, impl.EnRows: 200, impl.EnBad: 100} {
		if codes[code] < least {
			t.Errorf("only %v", codes)
		}
	}
	if asked < 6000 || byViews < 1000 || crashes < 200 {
		t.Errorf("only %d asked, %d by views, %d crashes", asked, byViews, crashes)
	}
}

// roomyEngine lays an engine out with spare room behind each list, filled with marks.
func roomyEngine(e impl.Engine) impl.Engine {
	texts := append(append(make([]string, 0, len(e.Texts)+2), e.Texts...), "mark", "mark")
	return impl.Engine{Schemas: roomySchemas(e.Schemas), Db: roomyDb(e.Db), Views: roomyViews(e.Views), Texts: texts[:len(e.Texts)], Log: e.Log, Safe: e.Safe}
}

func seenEngine(e impl.Engine) impl.Engine {
	return impl.Engine{Schemas: seenSchemas(e.Schemas), Db: seenDb(e.Db), Views: seenViews(e.Views), Texts: slices.Clone(e.Texts[:cap(e.Texts)]), Log: e.Log, Safe: e.Safe}
}

// checkEngineApart wants an answer that shares no memory, neither with an argument nor within itself, and spoils it.
func checkEngineApart(t *testing.T, answer impl.Engine, e impl.Engine, s impl.Step) {
	t.Helper()
	bags := slices.Concat(bagsOf(e.Db), viewBags(e.Views), bagsOf(s.Change))
	own := append(bagsOf(answer.Db), viewBags(answer.Views)...)
	for i, b := range own {
		checkApart(t, "an engine's bag", b, append(slices.Clone(bags), slices.Delete(slices.Clone(own), i, i+1)...)...)
	}
	for i, v := range answer.Views {
		others := slices.Delete(slices.Clone(answer.Views), i, i+1)
		checkPlanApart(t, "an engine's plan", v.Plan, append(plansOf(e.Views), plansOf(others)...)...)
	}
	for i, x := range answer.Schemas {
		for k := range x.Cols[:cap(x.Cols)] {
			x.Cols[:cap(x.Cols)][k] = impl.DecText(i)
		}
	}
	for i, x := range answer.Schemas {
		if slices.ContainsFunc(x.Cols, func(name string) bool { return name != impl.DecText(i) }) {
			t.Fatal("two schemas of an answer share columns")
		}
	}
	clear(answer.Schemas[:cap(answer.Schemas)])
	clear(answer.Db[:cap(answer.Db)])
	clear(answer.Views[:cap(answer.Views)])
	clear(answer.Texts[:cap(answer.Texts)])
}

// checkEngineLeavesAsItIs calls each function and spoils what it answers: no argument may show it.
func checkEngineLeavesAsItIs(t *testing.T, given impl.Engine, givenStep impl.Step, p impl.Plan, text string, keep int) {
	t.Helper()
	e, s, plan := roomyEngine(given), roomyStep(givenStep), roomyPlan(p)
	want, wantStep, wantPlan := seenEngine(e), seenStep(s), seenPlan(plan)
	impl.EngineOk(e)
	applied, code := impl.Apply(e, s)
	if other, otherCode := impl.Apply(given, givenStep); code != otherCode || !sameEngine(applied, other) || code != impl.EnOk && !sameEngine(applied, given) || applied.Log != given.Log || applied.Safe != given.Safe {
		t.Errorf("%.200v: applied with %d and %d", s, code, otherCode)
	}
	checkEngineApart(t, applied, e, s)
	done, doneCode := impl.Do(e, s)
	if doneCode != impl.EnOk && !sameEngine(done, given) || code != impl.EnOk && code != doneCode || code == impl.EnOk && doneCode != impl.EnOk && doneCode != impl.EnFull {
		t.Errorf("%.200v: done with %d, applied with %d", s, doneCode, code)
	}
	checkEngineApart(t, done, e, s)
	synced := impl.Sync(e)
	if !sameContent(synced, given) || synced.Safe != len(given.Log) || synced.Log != given.Log {
		t.Error("synced")
	}
	checkEngineApart(t, synced, e, s)
	checkEngineApart(t, impl.Crash(e, keep), e, s)
	checkEngineApart(t, impl.Play(e.Log), e, s)
	checkPlanApart(t, impl.PlanText(p), impl.Best(e, plan), append(plansOf(e.Views), plan)...)
	b, names, _ := impl.Ask(e, text)
	checkApart(t, text, b, append(bagsOf(e.Db), viewBags(e.Views)...)...)
	clear(names[:cap(names)])
	if !reflect.DeepEqual(seenEngine(e), want) || !reflect.DeepEqual(seenStep(s), wantStep) || !reflect.DeepEqual(seenPlan(plan), wantPlan) {
		t.Errorf("an argument was written into: %.200v", s)
	}
}

// stepsForAny are some of each kind and code over smallEngine.
func stepsForAny() []impl.Step {
	return []impl.Step{
		{}, {Kind: 9}, tableStep("a", "x y z"), tableStep("t", "x"), tableStep("zz", "x"), viewStep("a", "select * from t"), viewStep("zz", "select x, count(*), sum(y) from t group by x"), viewStep("v", "select"), viewStep("u", "select zz from t"), dropStep("v"), dropStep("w"), dropStep("t"), dropStep("empty"), dropStep("b"), dropStep("zz"),
		changeStep(rel("t", bag(2, times(1, num(1), num(11))))), changeStep(rel("b", bag(2, times(-1, num(1), text("one")))), rel("empty", bag(1, times(1, null))), rel("t", bag(2, times(1, num(5), null)))), changeStep(rel("t", bag(1))), changeStep(rel("v", bag(1))), changeStep(rel("a", bag(1, times(1, num(1))))),
	}
}

func TestP13EnginesThatAreRightStayAsTheyAre(t *testing.T) {
	shared := filter(is(0, 1), table("t"))
	plans := []impl.Plan{table("t"), distinct(table("t")), union(shared, shared), group(1, nil, project(exps(col(0)), table("t"))), filter(lit(yes), join(lit(yes), table("b"), table("t"))), table("zz"), {Kind: 9}, {}}
	engines := []impl.Engine{{}, smallEngine(t), impl.Sync(smallEngine(t)), fullEngine(t)}
	for i, s := range stepsForAny() {
		for _, e := range engines {
			checkEngineLeavesAsItIs(t, e, s, plans[i%len(plans)], storyQuestions()[i], i*7-20)
			checkEngineLeavesAsItIs(t, e, s, plans[(i+3)%len(plans)], "select x, count(*), sum(y) from t group by x", math.MaxInt)
		}
	}
	e := impl.Engine{}
	for i, s := range storySteps() {
		checkEngineLeavesAsItIs(t, e, s, plans[i%len(plans)], storyQuestions()[i%len(storyQuestions())], i)
		e = checkDone(t, e, s)
	}
}

// anyEngines have fields of any content.
func anyEngines(t *testing.T) []impl.Engine {
	t.Helper()
	small := smallEngine(t)
	list := []impl.Engine{{Texts: []string{"a", "b"}}, {Safe: -1}, {Log: "x", Safe: 100}, {Log: strings.Repeat("x", impl.MaxLog+5)}, {Views: []impl.View{view("v", table("t"))}}, {Schemas: small.Schemas}, {Db: small.Db}, {Views: small.Views, Texts: small.Texts}}
	for _, what := range slices.Sorted(maps.Keys(wrongFields(t))) {
		e := smallEngine(t)
		wrongFields(t)[what](&e)
		list = append(list, e)
	}
	for i, views := range wrongViews() {
		if i%4 == 0 {
			list = append(list, impl.Engine{Schemas: marketSchemas(), Db: shopDb(), Views: views, Texts: []string{"select * from t"}, Log: small.Log, Safe: i})
		}
	}
	for _, db := range wrongDbs() {
		list = append(list, impl.Engine{Schemas: []impl.Schema{schema("a", "x")}, Db: db, Views: []impl.View{view("v", table("a"))}, Texts: []string{"select * from a"}})
	}
	for _, wrong := range wrongSchemas() {
		list = append(list, impl.Engine{Schemas: wrong, Db: small.Db, Views: small.Views, Texts: []string{"x"}, Log: "y", Safe: 1})
	}
	for _, b := range allBags() {
		list = append(list, impl.Engine{Schemas: small.Schemas, Db: small.Db, Views: []impl.View{{Name: "v", Plan: table("t"), Bag: b}}, Texts: []string{"select * from t"}, Log: small.Log})
	}
	return append(list, impl.Engine{Schemas: manySchemas(30), Db: manyRels(30), Views: namedViews(30, table("ra")), Texts: slices.Repeat([]string{"select * from ra"}, 5), Log: small.Log, Safe: 7})
}

func TestP13EnginesOfAnyContent(t *testing.T) {
	for i, e := range anyEngines(t) {
		if impl.EngineOk(e) {
			t.Errorf("engine %d is right", i)
		}
		for k, s := range stepsForAny() {
			if (i+k)%4 == 0 {
				checkEngineLeavesAsItIs(t, e, s, distinct(table("t")), storyQuestions()[k], i-20)
			}
		}
		if t.Failed() {
			t.Fatalf("engine %d", i)
		}
	}
}

// An engine that is not right is changed by what each sentence says of it, with its lists as they are.
func TestP13StepsOverEnginesThatAreNotRight(t *testing.T) {
	small := smallEngine(t)
	short := small
	short.Texts = nil
	if next, code := impl.Apply(short, viewStep("zz", "select * from t")); code != impl.EnOk || len(next.Views) != 3 || next.Views[2].Name != "zz" || !slices.Equal(next.Texts, []string{"select * from t"}) {
		t.Errorf("fewer texts than views: %d, %v", code, next.Texts)
	}
	if next, code := impl.Apply(short, dropStep("w")); code != impl.EnOk || len(next.Views) != 1 || len(next.Texts) != 0 {
		t.Errorf("a drop with fewer texts than views: %d, %v", code, next.Texts)
	}
	bare := impl.Engine{Db: small.Db}
	if next, code := impl.Apply(bare, dropStep("t")); code != impl.EnOk || len(next.Db) != 2 || len(next.Schemas) != 0 {
		t.Errorf("a drop without schemas: %d", code)
	}
	if next, code := impl.Apply(bare, tableStep("c", "x")); code != impl.EnOk || len(next.Db) != 4 || next.Db[1].Name != "c" || len(next.Schemas) != 1 {
		t.Errorf("a table without schemas: %d", code)
	}
	stale := small
	stale.Views = []impl.View{{Name: "v", Plan: table("zz"), Bag: bag(1)}}
	checkRefuses(t, stale, changeStep(rel("t", bag(2))), impl.EnRows)
	checkRefuses(t, impl.Engine{Db: manyRels(11), Schemas: manySchemas(11)}, tableStep("a", "x"), impl.EnFull)
	checkRefuses(t, impl.Engine{Db: small.Db, Schemas: small.Schemas, Views: namedViews(11, table("t"))}, viewStep("a", "select * from t"), impl.EnFull)
	for _, db := range wrongDbs() {
		if slices.ContainsFunc(db, func(r impl.Rel) bool { return r.Name == "a" }) {
			checkRefuses(t, impl.Engine{Db: db}, changeStep(rel("a", bag(1))), impl.EnRows)
		}
	}
}

func TestP13EnginesWithPlansWithoutEnd(t *testing.T) {
	small := smallEngine(t)
	shared := table("t")
	for range 100 {
		shared = union(shared, shared)
	}
	for _, p := range []impl.Plan{ringPlan(1), ringPlan(3), shared, under(200000, table("t")), filter(ringExp(2), table("t")), project(exps(ringExp(1)), table("t"))} {
		e := small
		e.Views = append([]impl.View{view("u", p)}, small.Views...)
		if impl.EngineOk(e) || !impl.SamePlan(impl.Best(e, p), p) || !impl.SamePlan(impl.Best(small, p), p) || impl.PlanText(impl.Best(e, table("t"))) != "t" {
			t.Error("not right, and best")
		}
		for _, s := range stepsForAny() {
			next, code := impl.Do(e, s)
			if code != impl.EnOk && (len(next.Views) != 3 || !impl.SamePlan(next.Views[0].Plan, p) || next.Log != e.Log) {
				t.Errorf("%v: %d", s, code)
			}
		}
		if synced := impl.Sync(e); len(synced.Views) != 3 || !impl.SamePlan(synced.Views[0].Plan, p) {
			t.Error("synced")
		}
		if b, _, code := impl.Ask(e, "select x, count(*), sum(y) from t group by x"); code != impl.EnOk || tell(b) != "1x 1,1,10;1x 2,2,40" {
			t.Errorf("asked: %d", code)
		}
	}
}

func TestP13EnginesOfVeryMuch(t *testing.T) {
	much := strings.Repeat("select ", 1000000)
	e := impl.Engine{Schemas: slices.Repeat([]impl.Schema{schema("a", "x")}, 100000), Db: slices.Repeat([]impl.Rel{rel("a", numbered(0, 3))}, 100000), Views: slices.Repeat([]impl.View{view("v", distinct(table("a")))}, 10000), Texts: slices.Repeat([]string{much}, 1000), Log: much, Safe: 1 << 40}
	if impl.EngineOk(e) || impl.Sync(e).Safe != len(much) || len(impl.Crash(e, 1).Log) != 0 || len(impl.Play(much).Db) != 0 {
		t.Error("very much")
	}
	for s, want := range map[string]int{"a": impl.EnUsed, "zz": impl.EnName, much: impl.EnBad} {
		if next, code := impl.Do(e, dropStep(s)); code != want || len(next.Db) != len(e.Db) {
			t.Errorf("%.20s: %d", s, code)
		}
	}
	if next, code := impl.Do(e, dropStep("v")); code != impl.EnFull || len(next.Views) != len(e.Views) {
		t.Errorf("a drop with a log that is too long: %d", code)
	}
	if _, code := impl.Apply(e, tableStep("zz", "x")); code != impl.EnFull {
		t.Errorf("a table more: %d", code)
	}
	if _, _, code := impl.Ask(e, much); code != impl.EnQuery {
		t.Errorf("very much asked: %d", code)
	}
	if p := distinct(distinct(table("a"))); !samePlanTree(impl.Best(e, p), p) {
		t.Error("best of very much")
	}
}

func TestP13EngineIsTheSameEachTime(t *testing.T) {
	e := smallEngine(t)
	for _, s := range stepsForAny() {
		want, wantCode := impl.Do(e, s)
		for range 5 {
			if next, code := impl.Do(e, s); code != wantCode || !sameEngine(next, want) {
				t.Errorf("%v: %d, then %d", s, wantCode, code)
			}
		}
	}
	whole, _ := mustAppend(t, storySteps()[:15]...)
	want := impl.Play(whole)
	for range 20 {
		if !sameEngine(impl.Play(whole), want) {
			t.Error("played")
		}
	}
}
