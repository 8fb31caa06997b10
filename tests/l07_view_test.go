package tests

import (
	"math/rand"
	"reflect"
	"slices"
	"testing"

	"loop.example/g00312/impl"
)

func view(name string, p impl.Plan) impl.View { return impl.View{Name: name, Plan: p} }

// freshViews have the plans in order, under names that no relation of a test has.
func freshViews(db []impl.Rel, plans ...impl.Plan) []impl.View {
	views := []impl.View{}
	for i, p := range plans {
		views = append(views, view("v"+string(rune('a'+i)), p))
	}
	return impl.Refresh(db, views)
}

func sameView(a impl.View, b impl.View) bool {
	return a.Name == b.Name && sameBag(a.Bag, b.Bag) && impl.SamePlan(a.Plan, b.Plan)
}

func sameViews(a []impl.View, b []impl.View) bool { return slices.EqualFunc(a, b, sameView) }

// checkUse wants views that are fresh: it asks for that text, and for the same answer over the database with the views.
func checkUse(t *testing.T, db []impl.Rel, views []impl.View, p impl.Plan, want string) {
	t.Helper()
	if got := impl.PlanText(impl.Use(db, views, p)); got != want {
		t.Errorf("%s: %s, want %s", impl.PlanText(p), got, want)
	}
	checkUsedAnswersTheSame(t, db, views, p)
}

func checkUsedAnswersTheSame(t *testing.T, db []impl.Rel, views []impl.View, p impl.Plan) {
	t.Helper()
	if !impl.Fresh(db, views) {
		t.Fatalf("not fresh: %v", views)
	}
	all, q := impl.WithViews(db, views), impl.Use(db, views, p)
	if impl.Width(db, p) != impl.Width(all, q) || impl.Fits(db, p) != impl.Fits(all, q) {
		t.Errorf("%s: width %d and %d, fits %v and %v", impl.PlanText(q), impl.Width(db, p), impl.Width(all, q), impl.Fits(db, p), impl.Fits(all, q))
	}
	checkBag(t, impl.PlanText(q), impl.Answer(all, q), impl.Answer(db, p))
}

type useCase struct {
	p    impl.Plan
	want string
}

func checkUses(t *testing.T, views []impl.View, list []useCase) {
	t.Helper()
	for _, x := range list {
		checkUse(t, shopDb(), views, x.p, x.want)
		for _, d := range shopChanges() {
			after := impl.Changed(shopDb(), d)
			checkUse(t, after, impl.Refresh(after, views), x.p, x.want)
			checkUse(t, after, impl.Maintain(shopDb(), d, views), x.p, x.want)
		}
	}
}

func TestP7ViewsOfEachKindAtTheTopAndFurtherDown(t *testing.T) {
	for _, x := range ordinaryPlans() {
		views := freshViews(shopDb(), x.p)
		if len(views) != 1 || views[0].Name != "va" || !impl.SamePlan(views[0].Plan, x.p) || !impl.ViewsOk(shopDb(), views) {
			t.Errorf("view of %s: %v", impl.PlanText(x.p), views)
		}
		checkBag(t, impl.PlanText(x.p), views[0].Bag, x.want)
		checkUses(t, views, []useCase{
			{x.p, "va"}, {distinct(x.p), "distinct(va)"}, {union(x.p, x.p), "union(va, va)"}, {filter(lit(no), x.p), "filter(false, va)"}, {project(exps(lit(yes)), x.p), "project([true], va)"}, {group(0, nil, x.p), "group(0, [], va)"}, {join(lit(yes), x.p, distinct(x.p)), "join(true, va, distinct(va))"}, {group(0, exps(lit(num(2))), union(distinct(x.p), x.p)), "group(0, [2], union(distinct(va), va))"}, {filter(lit(yes), filter(lit(yes), distinct(distinct(x.p)))), "filter(true, filter(true, distinct(distinct(va))))"},
			{under(impl.MaxPlan-4, distinct(x.p)), impl.PlanText(under(impl.MaxPlan-4, distinct(table("va"))))},
		})
	}
}

func TestP7SomeViewsTogether(t *testing.T) {
	a, people, trades := table("a"), table("p"), table("t")
	small, byKey := filter(op("<", col(0), lit(num(3))), trades), group(1, exps(col(1)), trades)
	pairs := join(op("=", col(0), col(1)), a, trades)
	views := freshViews(shopDb(), small, byKey, pairs, distinct(people), project(exps(col(0)), people), union(a, a))
	checkUses(t, views, []useCase{
		{a, "a"}, {trades, "t"}, {people, "p"}, {table("o"), "o"}, {distinct(trades), "distinct(t)"}, {distinct(pairs), "distinct(vc)"}, {union(byKey, pairs), "union(vb, vc)"}, {union(project(exps(col(0)), people), union(a, a)), "union(ve, vf)"}, {union(union(a, a), a), "union(vf, a)"}, {join(lit(yes), small, distinct(people)), "join(true, va, vd)"},
		{group(1, nil, small), "group(1, [], va)"}, {group(1, nil, trades), "group(1, [], t)"}, {group(1, exps(col(0)), trades), "group(1, [c0], t)"}, {group(2, exps(col(1)), trades), "group(2, [c1], t)"}, {join(op("=", col(1), col(0)), a, trades), "join((c1 = c0), a, t)"}, {join(op("=", col(0), col(1)), trades, a), "join((c0 = c1), t, a)"}, {project(exps(col(1)), people), "project([c1], p)"}, {project(exps(col(0), col(0)), people), "project([c0, c0], p)"}, {union(a, distinct(a)), "union(a, distinct(a))"},
		{project(exps(col(0)), distinct(people)), "project([c0], vd)"}, {distinct(project(exps(col(0)), people)), "distinct(ve)"}, {filter(is(0, 1), pairs), "filter((c0 = 1), vc)"}, {filter(is(0, 1), union(small, trades)), "filter((c0 = 1), union(va, t))"},
		{join(op("=", col(0), col(1)), filter(is(0, 1), union(a, a)), group(1, exps(col(1)), filter(is(1, 30), trades))), "join((c0 = c1), filter((c0 = 1), vf), group(1, [c1], filter((c1 = 30), t)))"},
	})
	checkUses(t, nil, []useCase{{pairs, impl.PlanText(pairs)}, {a, "a"}, {distinct(small), impl.PlanText(distinct(small))}})
}

func TestP7AViewThatIsAFilterOfTheSame(t *testing.T) {
	trades := table("t")
	x, y, z := op("<", col(0), lit(num(3))), op("<", lit(num(5)), col(1)), is(1, 20)
	and := func(first impl.Exp, more ...impl.Exp) impl.Plan { return filter(leftChain(first, more...), trades) }
	only := func(p impl.Plan) []impl.View { return freshViews(shopDb(), p) }
	checkUses(t, only(and(x)), []useCase{
		{and(x), "va"}, {and(x, y), "filter((5 < c1), va)"}, {and(y, x), "filter((5 < c1), va)"}, {and(y, x, z), "filter(((5 < c1) and (c1 = 20)), va)"}, {and(x, x), "va"}, {and(x, y, x), "filter((5 < c1), va)"}, {and(x, y, y), "filter(((5 < c1) and (5 < c1)), va)"}, {filter(op("and", z, op("and", op("and", x, y), y)), trades), "filter((((c1 = 20) and (5 < c1)) and (5 < c1)), va)"}, {filter(op("and", y, op("and", x, z)), trades), "filter(((5 < c1) and (c1 = 20)), va)"},
		{and(y), "filter((5 < c1), t)"}, {and(y, z), "filter(((5 < c1) and (c1 = 20)), t)"}, {filter(op("or", x, y), trades), "filter(((c0 < 3) or (5 < c1)), t)"}, {filter(not(x), trades), "filter(not((c0 < 3)), t)"}, {and(op("or", x, y), x), "filter(((c0 < 3) or (5 < c1)), va)"}, {filter(op("<", col(0), lit(num(4))), trades), "filter((c0 < 4), t)"}, {and(lit(yes), x), "filter(true, va)"}, {and(lit(null), x), "filter(null, va)"},
		{filter(x, table("e")), "filter((c0 < 3), e)"}, {filter(op("and", x, y), distinct(trades)), "filter(((c0 < 3) and (5 < c1)), distinct(t))"}, {filter(y, and(x)), "filter((5 < c1), va)"}, {filter(x, and(y)), "filter((c0 < 3), filter((5 < c1), t))"}, {filter(x, and(x, y)), "filter((c0 < 3), filter((5 < c1), va))"}, {distinct(and(z, x)), "distinct(filter((c1 = 20), va))"}, {union(and(x, y), and(y)), "union(filter((5 < c1), va), filter((5 < c1), t))"}, {group(1, nil, and(x, y)), "group(1, [], filter((5 < c1), va))"},
	})
	checkUses(t, only(and(x, y)), []useCase{
		{and(x, y), "va"}, {and(y, x), "va"}, {and(y, x, z), "filter((c1 = 20), va)"}, {and(x), "filter((c0 < 3), t)"}, {and(y), "filter((5 < c1), t)"}, {and(x, z), "filter(((c0 < 3) and (c1 = 20)), t)"}, {and(y, x, y, x), "va"}, {and(z, z), "filter(((c1 = 20) and (c1 = 20)), t)"}, {trades, "t"},
	})
	checkUses(t, only(and(x, x)), []useCase{
		{and(x, x), "va"}, {and(x), "va"}, {and(x, y), "filter((5 < c1), va)"}, {and(x, x, x), "va"}, {and(y, x, x), "filter((5 < c1), va)"}, {and(y), "filter((5 < c1), t)"},
	})
	checkUses(t, only(filter(op("and", y, op("and", x, z)), trades)), []useCase{
		{and(y, x, z), "va"}, {and(z, y, x), "va"}, {and(x, y), "filter(((c0 < 3) and (5 < c1)), t)"}, {and(x, y, lit(no), z), "filter(false, va)"},
	})
	checkUses(t, only(and(lit(yes))), []useCase{
		{and(lit(yes)), "va"}, {trades, "t"}, {and(x), "filter((c0 < 3), t)"}, {and(x, lit(yes)), "filter((c0 < 3), va)"}, {and(lit(yes), lit(yes)), "va"},
	})
	checkUses(t, only(filter(x, distinct(union(trades, table("e"))))), []useCase{
		{filter(op("and", x, y), distinct(union(trades, table("e")))), "filter((5 < c1), va)"}, {filter(op("and", x, y), distinct(union(table("e"), trades))), "filter(((c0 < 3) and (5 < c1)), distinct(union(e, t)))"}, {filter(op("and", x, y), union(trades, table("e"))), "filter(((c0 < 3) and (5 < c1)), union(t, e))"},
	})
}

func TestP7ConditionsThatLookAlike(t *testing.T) {
	alike := []impl.Exp{
		col(0), lit(text("c0")), lit(num(1)), lit(text("1")), lit(yes), lit(text("true")), lit(null), lit(text("null")), lit(no), lit(num(0)), lit(text("")), lit(text("'")), lit(text("''")), lit(num(-1)), lit(text("a'b")), lit(text("a''b")), not(col(0)), lit(text("not(c0)")), isNull(col(0)), col(1), not(not(col(0))), op("or", col(0), col(1)), op("or", col(1), col(0)), op("-", col(0), lit(num(1))), op("-", col(0), lit(num(-1))), op("=", lit(text("a")), lit(text("a = 'a'"))), op("=", op("=", lit(text("a")), lit(text("a"))), lit(text("a"))), op("=", lit(text("a' = 'a")), lit(text("a"))), op("or", op("or", col(0), col(0)), col(0)), op("or", col(0), op("or", col(0), col(0))),
	}
	last := is(1, 10)
	for _, x := range alike {
		views := freshViews(shopDb(), filter(x, table("t")))
		for _, y := range alike {
			p := filter(op("and", last, y), table("t"))
			want := impl.PlanText(p)
			if impl.SameExp(x, y) {
				want = "filter((c1 = 10), va)"
			}
			checkUse(t, shopDb(), views, p, want)
		}
	}
}

func TestP7TheFirstViewByName(t *testing.T) {
	a, trades := table("a"), table("t")
	x, y, z := op("<", col(0), lit(num(3))), op("<", lit(num(5)), col(1)), is(1, 20)
	both := filter(op("and", x, y), trades)
	checkUses(t, freshViews(shopDb(), distinct(a), distinct(a), distinct(a)), []useCase{{distinct(a), "va"}, {union(distinct(a), distinct(distinct(a))), "union(va, distinct(va))"}})
	checkUses(t, freshViews(shopDb(), group(1, nil, a), distinct(a), distinct(a)), []useCase{{distinct(a), "vb"}, {group(1, nil, a), "va"}})
	checkUses(t, freshViews(shopDb(), filter(x, trades), both, both), []useCase{{both, "vb"}, {filter(op("and", y, x), trades), "filter((5 < c1), va)"}, {filter(op("and", op("and", x, y), z), trades), "filter(((5 < c1) and (c1 = 20)), va)"}})
	checkUses(t, freshViews(shopDb(), both, filter(x, trades)), []useCase{{filter(x, trades), "vb"}, {filter(op("and", y, x), trades), "va"}, {filter(op("and", x, z), trades), "filter((c1 = 20), vb)"}, {filter(op("and", z, op("and", x, y)), trades), "filter((c1 = 20), va)"}})
	checkUses(t, freshViews(shopDb(), filter(z, trades), filter(y, trades), filter(x, trades)), []useCase{{both, "filter((c0 < 3), vb)"}, {filter(op("and", x, op("and", y, z)), trades), "filter(((c0 < 3) and (5 < c1)), va)"}, {filter(x, trades), "vc"}})
	// The kid is looked at only where the filter itself is none.
	checkUses(t, freshViews(shopDb(), trades, filter(x, trades)), []useCase{{both, "filter((5 < c1), vb)"}, {filter(y, trades), "filter((5 < c1), va)"}, {filter(x, trades), "vb"}})
	checkUses(t, freshViews(shopDb(), distinct(trades), filter(x, distinct(trades))), []useCase{{filter(op("and", x, y), distinct(trades)), "filter((5 < c1), vb)"}, {filter(op("and", z, y), distinct(trades)), "filter(((c1 = 20) and (5 < c1)), va)"}})
	names := []impl.View{view("b9", distinct(a)), view("ba", distinct(a)), view("u", filter(x, trades)), view("u0", filter(y, trades)), view("z", both)}
	checkUses(t, impl.Refresh(shopDb(), names), []useCase{{distinct(a), "b9"}, {both, "z"}, {filter(op("and", op("and", x, y), z), trades), "filter(((5 < c1) and (c1 = 20)), u)"}})
}

// rightChain is a chain of and to the right, so that its first part stands no deeper however many there are.
func rightChain(first impl.Exp, more ...impl.Exp) impl.Exp {
	list := append([]impl.Exp{first}, more...)
	e := list[len(list)-1]
	for i := len(list) - 2; i >= 0; i-- {
		e = op("and", list[i], e)
	}
	return e
}

func TestP7WhatIsLeftIsTooDeep(t *testing.T) {
	trades := table("t")
	deep := below(impl.MaxDepth-2, is(0, 1))
	x, y, z := op("<", col(0), lit(num(3))), op("<", lit(num(5)), col(1)), is(1, 20)
	p := filter(rightChain(deep, x, y, z), trades)
	of := func(plans ...impl.Plan) []impl.View { return freshViews(shopDb(), plans...) }
	whole := impl.PlanText(p)
	checkUses(t, of(filter(z, trades)), []useCase{{p, whole}, {distinct(p), "distinct(" + whole + ")"}, {filter(rightChain(deep, x, z), trades), "filter((" + impl.ExpText(deep) + " and (c0 < 3)), va)"}, {filter(rightChain(deep, z), trades), "filter(" + impl.ExpText(deep) + ", va)"}})
	checkUses(t, of(filter(deep, trades)), []useCase{{p, "filter((((c0 < 3) and (5 < c1)) and (c1 = 20)), va)"}})
	checkUses(t, of(filter(op("and", z, y), trades)), []useCase{{p, "filter((" + impl.ExpText(deep) + " and (c0 < 3)), va)"}})
	// A view that leaves too much is none: another one is taken, or the kid's.
	checkUses(t, of(filter(z, trades), filter(deep, trades)), []useCase{{p, "filter((((c0 < 3) and (5 < c1)) and (c1 = 20)), vb)"}})
	checkUses(t, of(filter(z, trades), trades), []useCase{{p, "filter(" + impl.ExpText(p.Exp) + ", vb)"}})
	checkUses(t, of(p, filter(z, trades)), []useCase{{p, "va"}})
	many := []impl.Exp{}
	for i := range impl.MaxDepth {
		many = append(many, is(1, 10*i))
	}
	wide := rightChain(col(0), many[:impl.MaxDepth-1]...)
	checkUses(t, of(filter(col(0), trades)), []useCase{{filter(wide, trades), "filter(" + impl.ExpText(leftChain(many[0], many[1:impl.MaxDepth-1]...)) + ", va)"}})
}

func TestP7AViewOfATable(t *testing.T) {
	a, people := table("a"), table("p")
	checkUses(t, freshViews(shopDb(), a), []useCase{{a, "va"}, {people, "p"}, {join(lit(yes), a, a), "join(true, va, va)"}, {filter(is(0, 1), distinct(union(a, a))), "filter((c0 = 1), distinct(union(va, va)))"}, {filter(is(0, 1), a), "filter((c0 = 1), va)"}, {join(lit(yes), a, people), "join(true, va, p)"}})
	checkUses(t, freshViews(shopDb(), a, filter(is(0, 1), a)), []useCase{{filter(is(0, 1), a), "vb"}, {filter(is(0, 2), a), "filter((c0 = 2), va)"}, {filter(op("and", is(0, 1), is(0, 2)), a), "filter((c0 = 2), vb)"}})
	checkUses(t, freshViews(shopDb(), table("o"), table("e")), []useCase{{table("o"), "va"}, {union(table("e"), table("t")), "union(vb, t)"}, {join(lit(yes), table("o"), table("o")), "join(true, va, va)"}})
}

func TestP7RightAndWrongViews(t *testing.T) {
	a := table("a")
	for i, views := range [][]impl.View{
		nil, {}, {view("b", a)}, {view("aa", a)}, {view("a0", a), view("aa", a)}, {view("b", a), view("c", a), view("zz", table("t"))}, {view("abcdefghij", a)}, {view("u", under(impl.MaxPlan, a))}, {view("u", filter(lit(yes), a)), view("v", table("o"))}, {{Name: "u", Plan: a, Bag: bag(7, times(0))}}, {{Name: "u", Plan: a, Bag: bag(-1)}},
	} {
		if !impl.ViewsOk(shopDb(), views) {
			t.Errorf("right: %d", i)
		}
	}
	for i, views := range wrongViews() {
		checkNoViews(t, shopDb(), impl.Refresh(shopDb(), views))
		checkNoViews(t, shopDb(), views)
		if t.Failed() {
			t.Fatalf("wrong: %d: %v", i, views)
		}
	}
	for _, db := range wrongDbs() {
		checkNoViews(t, db, nil)
		checkNoViews(t, db, []impl.View{view("v", a)})
	}
	if !impl.ViewsOk(nil, nil) || !impl.Fresh(nil, nil) || impl.ViewsOk(nil, []impl.View{view("v", a)}) {
		t.Error("without tables")
	}
}

// wrongViews are of shopDb.
func wrongViews() [][]impl.View {
	a := table("a")
	list := [][]impl.View{
		{view("a", a)}, {view("t", table("t"))}, {view("b", a), view("e", a)}, {view("o", a), view("u", a)}, {view("v", a), view("v", a)}, {view("v", a), view("v", table("t"))}, {view("v", a), view("u", a)}, {view("b", a), view("d", a), view("c", a)}, {view("v", a), view("w", a), view("v", a)}, {view("aa", a), view("a0", a)},
		{view("v", table("v"))}, {view("v", a), view("w", distinct(table("v")))}, {view("v", under(impl.MaxPlan+1, a))}, {view("u", a), view("v", table("zz"))}, {view("u", table("zz")), view("v", a)},
	}
	for _, name := range []string{"", "A", "1a", "a b", "a.b", "abcdefghijk", "\u00e9", "v\x00", "_", "v "} {
		list = append(list, []impl.View{view(name, a)})
	}
	for _, p := range wrongShapes() {
		list = append(list, []impl.View{view("v", p)})
	}
	return list
}

// checkNoViews wants the fixed answers of views that are not ViewsOk.
func checkNoViews(t *testing.T, db []impl.Rel, views []impl.View) {
	t.Helper()
	if impl.ViewsOk(db, views) || impl.Fresh(db, views) || !sameDb(impl.WithViews(db, views), db) {
		t.Errorf("no views: %v", views)
	}
	for _, p := range []impl.Plan{table("a"), distinct(table("a")), filter(lit(yes), table("zz"))} {
		if !samePlanTree(impl.Use(db, views, p), p) {
			t.Errorf("used: %v", views)
		}
	}
	for _, v := range views {
		if !samePlanTree(impl.Use(db, views, v.Plan), v.Plan) {
			t.Errorf("used: %v", views)
		}
	}
	for _, d := range [][]impl.Rel{nil, shopChanges()[4], wrongChanges()[0]} {
		if !sameViews(impl.Maintain(db, d, views), views) {
			t.Errorf("maintained: %v", views)
		}
	}
}

func namedViews(count int, p impl.Plan) []impl.View {
	views := []impl.View{}
	for i := range count {
		views = append(views, view("v"+string(rune('a'+i)), p))
	}
	return views
}

func TestP7MostViews(t *testing.T) {
	db, a := shopDb(), table("a")
	most := impl.Refresh(db, namedViews(impl.MaxViews, distinct(a)))
	if len(most) != impl.MaxViews || !impl.ViewsOk(db, most) || !impl.Fresh(db, most) || len(impl.WithViews(db, most)) != len(db)+impl.MaxViews {
		t.Error("as many as there may be")
	}
	checkUses(t, most, []useCase{{union(a, distinct(a)), "union(a, va)"}})
	more := impl.Refresh(db, namedViews(impl.MaxViews+1, distinct(a)))
	if len(more) != impl.MaxViews+1 || !sameBag(more[impl.MaxViews].Bag, most[0].Bag) {
		t.Error("refreshed, however many there are")
	}
	checkNoViews(t, db, more)
	checkNoViews(t, db, namedViews(1000, a))
}

func TestP7TwentyTogether(t *testing.T) {
	for _, views := range []int{1, 4, impl.MaxViews} {
		db := manyRels(mostRels - views)
		list := impl.Refresh(db, namedViews(views, distinct(table("ra"))))
		all := impl.WithViews(db, list)
		if len(all) != mostRels || !impl.DbOk(all) || !impl.Fresh(db, list) {
			t.Errorf("%d views: %d together", views, len(all))
		}
		checkUse(t, db, list, union(distinct(table("ra")), table("rb")), "union(va, rb)")
		db = manyRels(mostRels - views + 1)
		list = impl.Refresh(db, list)
		if !impl.ViewsOk(db, list) || !impl.Fresh(db, list) || !sameDb(impl.WithViews(db, list), db) {
			t.Errorf("%d views and one relation more", views)
		}
		if got := impl.PlanText(impl.Use(db, list, distinct(table("ra")))); got != "va" {
			t.Errorf("used all the same: %s", got)
		}
	}
	if db := manyRels(mostRels); !sameDb(impl.WithViews(db, nil), db) || !impl.Fresh(db, nil) {
		t.Error("no views")
	}
}

func TestP7RelationsAndViewsAscending(t *testing.T) {
	a, once := table("a"), bag(1, times(1, num(1)), times(1, num(2)))
	db := shopDb()
	views := impl.Refresh(db, []impl.View{view("a0", distinct(a)), view("b", a), view("f", group(0, nil, a)), view("oo", table("o")), view("s9", table("e")), view("z", filter(lit(no), a))})
	want := []impl.Rel{db[0], rel("a0", once), rel("b", db[0].Bag), db[1], rel("f", bag(1, times(1, num(3)))), db[2], rel("oo", db[2].Bag), db[3], rel("s9", bag(2)), db[4], rel("z", bag(1))}
	if got := impl.WithViews(db, views); !sameDb(got, want) || !impl.DbOk(got) {
		t.Errorf("together: %v", got)
	}
	if got := impl.WithViews(nil, nil); len(got) != 0 {
		t.Errorf("none: %v", got)
	}
	// The bags stand as they are, whatever they are.
	for _, b := range allBags() {
		got := impl.WithViews(db, []impl.View{{Name: "b", Plan: a, Bag: b}})
		if len(got) != len(db)+1 || got[1].Name != "b" || !sameBag(got[1].Bag, b) || !sameBag(got[5].Bag, db[4].Bag) {
			t.Errorf("a bag as it is: %v", got)
		}
	}
}

func TestP7Fresh(t *testing.T) {
	db := shopDb()
	twice := union(table("a"), table("a"))
	right := freshViews(db, table("e"), twice, table("o"))
	if !impl.Fresh(db, right) || !impl.Fresh(db, right[:1]) || !impl.Fresh(db, right[1:]) {
		t.Error("fresh ones")
	}
	for _, b := range []impl.Bag{bag(1), bag(2), bag(0), {}, bag(1, times(4, num(1))), bag(1, times(4, num(1)), times(1, num(2))), bag(1, times(4, num(1)), times(3, num(2))), bag(1, times(2, num(2)), times(4, num(1))), bag(1, times(4, num(1)), times(2, num(2)), times(1, num(3))), bag(2, times(4, num(1)), times(2, num(2))), bag(1, times(4, num(1)), times(2, num(3))), bag(1, times(4, num(1)), times(2, text("2"))), bag(1, times(4, num(1)), times(0, num(1)), times(2, num(2))), bag(1, times(4, num(1)), times(2, num(2), num(2))), bag(1, times(2, num(1)), times(2, num(1)), times(2, num(2)))} {
		views := slices.Clone(right)
		views[1].Bag = b
		if impl.Fresh(db, views) || !impl.ViewsOk(db, views) || impl.Fresh(db, views[:2]) || !impl.Fresh(db, views[:1]) || !impl.Fresh(db, impl.Refresh(db, views)) {
			t.Errorf("not what it answers: %v", b)
		}
	}
	for _, b := range []impl.Bag{bag(1), bag(0), bag(2, times(0, num(1), num(1))), bag(2, times(1, null, null))} {
		if impl.Fresh(db, []impl.View{{Name: "v", Plan: table("e"), Bag: b}}) {
			t.Errorf("not the empty one: %v", b)
		}
	}
	if !impl.Fresh(db, []impl.View{{Name: "v", Plan: table("e"), Bag: impl.Bag{Width: 2, Rows: []impl.Counted{}}}, {Name: "w", Plan: table("o"), Bag: bag(0, times(3, []impl.Value{}...))}}) {
		t.Error("no list and an empty list")
	}
	for _, d := range shopChanges()[4:] {
		for _, x := range ordinaryPlans() {
			views, after := freshViews(db, x.p), impl.Changed(db, d)
			if impl.Fresh(after, views) != sameBag(impl.Answer(after, x.p), x.want) {
				t.Errorf("fresh behind a change: %s", impl.PlanText(x.p))
			}
		}
	}
}

func TestP7PlansThatDoNotFit(t *testing.T) {
	db := []impl.Rel{rel("n", numbered(0, 20)), rel("x", numbered(0, 21))}
	pairs, more := join(lit(yes), table("n"), table("n")), join(lit(yes), table("n"), table("x"))
	if views := freshViews(db, pairs); !impl.Fresh(db, views) || len(views[0].Bag.Rows) != impl.MaxRows {
		t.Error("just as many rows")
	}
	for _, p := range []impl.Plan{more, distinct(more), filter(lit(no), more)} {
		views := freshViews(db, pairs, p)
		checkBag(t, "refreshed", views[1].Bag, bag(2))
		if !impl.ViewsOk(db, views) || impl.Fresh(db, views) || !impl.Fresh(db, views[:1]) || len(impl.WithViews(db, views)) != 4 {
			t.Errorf("does not fit: %s", impl.PlanText(p))
		}
		if impl.Fresh(db, []impl.View{view("v", p)}) || impl.Fresh(db, []impl.View{{Name: "v", Plan: p, Bag: bag(2)}}) {
			t.Errorf("does not fit, and is fresh without a row: %s", impl.PlanText(p))
		}
		if got := impl.PlanText(impl.Use(db, views, distinct(p))); got != "distinct(vb)" {
			t.Errorf("used: %s", got)
		}
	}
	// A plan that does not fit is one with views that are fresh too.
	checkUse(t, db, freshViews(db, filter(is(0, 1), table("n"))), join(lit(yes), more, filter(is(0, 1), table("n"))), "join(true, join(true, n, x), va)")
	full := change(rel("n", numbered(20, 1)))
	views := freshViews(db, pairs, table("n"))
	kept := impl.Maintain(db, full, views)
	checkBag(t, "fits no more", kept[0].Bag, views[0].Bag)
	checkBag(t, "the other one", kept[1].Bag, numbered(0, 21))
	if after := impl.Changed(db, full); impl.Fresh(after, kept) || !impl.Fresh(after, kept[1:]) {
		t.Error("fits no more, and is fresh")
	}
	// A bag that was there ahead of a plan that did not fit stays, too, where it fits behind the change.
	back := impl.Changed(db, full)
	old := []impl.View{{Name: "v", Plan: pairs, Bag: bag(2, times(1, num(0), num(0)))}}
	if got := impl.Maintain(back, impl.Negate(full), old); !sameViews(got, old) {
		t.Errorf("did not fit: %v", got)
	}
}

func TestP7Refresh(t *testing.T) {
	db := shopDb()
	for _, x := range ordinaryPlans() {
		for _, name := range []string{"v", "a", "", "No name"} {
			got := impl.Refresh(db, []impl.View{{Name: name, Plan: x.p, Bag: bag(9, times(0))}, {Name: name, Plan: distinct(x.p)}})
			if len(got) != 2 || got[0].Name != name || got[1].Name != name || !impl.SamePlan(got[0].Plan, x.p) || !impl.SamePlan(got[1].Plan, distinct(x.p)) {
				t.Errorf("refreshed: %v", got)
			}
			checkBag(t, impl.PlanText(x.p), got[0].Bag, x.want)
			checkBag(t, impl.PlanText(x.p), got[1].Bag, impl.Answer(db, distinct(x.p)))
		}
	}
	for _, p := range wrongShapes() {
		got := impl.Refresh(db, []impl.View{{Name: "v", Plan: p, Bag: bag(1, times(1, num(1)))}, view("w", table("a"))})
		checkBag(t, "not right", got[0].Bag, bag(0))
		checkBag(t, "right", got[1].Bag, db[0].Bag)
		if !samePlanTree(got[0].Plan, p) {
			t.Errorf("another plan: %v", got[0].Plan)
		}
	}
	for _, wrong := range wrongDbs() {
		if got := impl.Refresh(wrong, []impl.View{{Name: "v", Plan: table("a"), Bag: bag(1)}}); len(got) != 1 || got[0].Name != "v" || !sameBag(got[0].Bag, bag(0)) {
			t.Errorf("no database: %v", got)
		}
	}
	if len(impl.Refresh(db, nil)) != 0 {
		t.Error("of none")
	}
}

func TestP7ViewsAreFreshBehindAChange(t *testing.T) {
	plans := []impl.Plan{}
	for _, x := range ordinaryPlans() {
		plans = append(plans, x.p)
	}
	for from := 0; from < len(plans); from += impl.MaxViews {
		views := freshViews(shopDb(), plans[from:min(from+impl.MaxViews, len(plans))]...)
		for i, d := range shopChanges() {
			after := impl.Changed(shopDb(), d)
			kept := impl.Maintain(shopDb(), d, views)
			if !impl.Fresh(after, kept) || !sameViews(kept, impl.Refresh(after, views)) {
				t.Errorf("change %d: %v", i, kept)
			}
			if back := impl.Maintain(after, impl.Negate(d), kept); !sameViews(back, views) {
				t.Errorf("change %d, and back: %v", i, back)
			}
		}
	}
	if len(impl.Maintain(shopDb(), shopChanges()[4], nil)) != 0 {
		t.Error("of none")
	}
}

func TestP7MaintainAddsTheDelta(t *testing.T) {
	db, a := shopDb(), table("a")
	d := change(rel("a", bag(1, times(-1, num(1)), times(4, num(7)))))
	of := func(b impl.Bag) []impl.View { return []impl.View{{Name: "v", Plan: a, Bag: b}} }
	for _, x := range []struct {
		b    impl.Bag
		want impl.Bag
	}{
		{bag(1), bag(1, times(-1, num(1)), times(4, num(7)))}, {bag(1, times(1, num(1)), times(9, num(5))), bag(1, times(9, num(5)), times(4, num(7)))}, {bag(1, times(-4, num(7))), bag(1, times(-1, num(1)))}, {db[0].Bag, bag(1, times(1, num(1)), times(1, num(2)), times(4, num(7)))},
		{bag(2), bag(2)}, {bag(0, times(1)), bag(0, times(1))}, {bag(1, times(mostTimes-3, num(7))), bag(1, times(mostTimes-3, num(7)))}, {bag(1, times(mostTimes-4, num(7))), bag(1, times(-1, num(1)), times(mostTimes, num(7)))}, {numbered(1000, impl.MaxRows), numbered(1000, impl.MaxRows)},
	} {
		if got := impl.Maintain(db, d, of(x.b)); !sameViews(got, of(x.want)) {
			t.Errorf("%v: %v, want %v", x.b, got, x.want)
		}
	}
	for _, b := range wrongBags() {
		if got := impl.Maintain(db, d, of(b)); !sameViews(got, of(b)) {
			t.Errorf("no bag: %v: %v", b, got)
		}
	}
}

func TestP7ADeltaThatIsNoBag(t *testing.T) {
	f := table("f")
	db := []impl.Rel{rel("f", numbered(0, 200))}
	d := change(rel("f", bag(1, slices.Concat(impl.TimesBag(numbered(0, 200), -1).Rows, numbered(1000, 200).Rows)...)))
	both := union(f, project(exps(op("+", col(0), lit(num(5000)))), f))
	counted := join(lit(yes), group(0, nil, f), f)
	views, after := freshViews(db, both, f, counted), impl.Changed(db, d)
	if impl.BagOk(impl.Delta(db, d, both)) || !impl.BagOk(impl.Delta(db, d, f)) {
		t.Fatal("no such delta")
	}
	kept := impl.Maintain(db, d, views)
	if !impl.Fresh(after, kept) || len(kept[0].Bag.Rows) != impl.MaxRows || len(kept[2].Bag.Rows) != 200 {
		t.Error("not fresh")
	}
	if back := impl.Maintain(after, impl.Negate(d), kept); !sameViews(back, views) {
		t.Error("not back")
	}
	// The answer stands there then, whatever was there ahead; of another view its own bag stays.
	for i := range views {
		views[i].Bag = bag(1, times(3, text("x")))
	}
	kept = impl.Maintain(db, d, views)
	checkBag(t, "anew", kept[0].Bag, impl.Answer(after, both))
	checkBag(t, "too many rows with it", kept[1].Bag, views[1].Bag)
	checkBag(t, "of another width", kept[2].Bag, views[2].Bag)
	more := change(rel("f", numbered(200, 1)))
	for _, v := range impl.Maintain(db, more, freshViews(db, counted)) {
		checkBag(t, "each row another one", v.Bag, impl.Answer(impl.Changed(db, more), counted))
	}
}

func TestP7WrongInputs(t *testing.T) {
	db, a := shopDb(), table("a")
	views := freshViews(db, a, distinct(a), filter(is(0, 1), a))
	for _, p := range wrongShapes() {
		for _, q := range []impl.Plan{p, distinct(p), union(a, p), filter(is(0, 1), p), filter(op("and", is(0, 1), is(0, 2)), union(p, distinct(a)))} {
			if !samePlanTree(impl.Use(db, views, q), q) {
				t.Errorf("not right, and used: %+v", q)
			}
		}
	}
	for _, p := range []impl.Plan{table("va"), distinct(table("va")), union(a, table("vb")), under(impl.MaxPlan+1, a), union(distinct(a), under(impl.MaxPlan, a))} {
		if !samePlanTree(impl.Use(db, views, p), p) {
			t.Errorf("not right over db, and used: %s", impl.PlanText(p))
		}
	}
	for i, d := range wrongChanges() {
		if !sameViews(impl.Maintain(db, d, views), views) {
			t.Errorf("no change: %d", i)
		}
	}
	for i, wrong := range wrongDbs() {
		for _, d := range [][]impl.Rel{nil, wrong} {
			if !sameViews(impl.Maintain(wrong, d, views), views) || !sameDb(impl.WithViews(wrong, views), wrong) || !samePlanTree(impl.Use(wrong, views, distinct(a)), distinct(a)) || impl.Fresh(wrong, views) {
				t.Errorf("database %d", i)
			}
		}
	}
	// Views that are not fresh are used all the same: their names and plans alone count.
	for _, b := range allBags() {
		stale := []impl.View{{Name: "v", Plan: distinct(a), Bag: b}}
		if got := impl.PlanText(impl.Use(db, stale, union(a, distinct(a)))); got != "union(a, v)" {
			t.Errorf("stale: %s", got)
		}
	}
}

// usedByHand is what Use has to tell of right arguments, told by other means.
func usedByHand(views []impl.View, p impl.Plan) impl.Plan {
	for _, v := range views {
		if impl.SamePlan(v.Plan, p) {
			return table(v.Name)
		}
	}
	for _, v := range views {
		if p.Kind != impl.PlFilter || v.Plan.Kind != impl.PlFilter || !impl.SamePlan(v.Plan.Kids[0], p.Kids[0]) {
			continue
		}
		own, done := impl.Conj(p.Exp), impl.Conj(v.Plan.Exp)
		among := func(list []impl.Exp, e impl.Exp) bool {
			return slices.ContainsFunc(list, func(x impl.Exp) bool { return impl.SameExp(x, e) })
		}
		if slices.ContainsFunc(done, func(e impl.Exp) bool { return !among(own, e) }) {
			continue
		}
		left := slices.DeleteFunc(own, func(e impl.Exp) bool { return among(done, e) })
		if len(left) == 0 {
			return table(v.Name)
		}
		if chain := leftChain(left[0], left[1:]...); impl.ExpOk(chain) {
			return filter(chain, table(v.Name))
		}
	}
	kids := []impl.Plan{}
	for _, kid := range p.Kids {
		kids = append(kids, usedByHand(views, kid))
	}
	p.Kids = kids
	return p
}

// within lists the plans within p, itself too.
func within(p impl.Plan) []impl.Plan {
	list := []impl.Plan{p}
	for _, kid := range p.Kids {
		list = append(list, within(kid)...)
	}
	return list
}

// someParts are some of the parts of a condition, in any order, a few of them twice, and now and then another one.
func someParts(r *rand.Rand, e impl.Exp) impl.Exp {
	parts := impl.Conj(e)
	r.Shuffle(len(parts), func(i int, k int) { parts[i], parts[k] = parts[k], parts[i] })
	parts = parts[:1+r.Intn(len(parts))]
	if r.Intn(4) == 0 {
		parts = append(parts, parts[r.Intn(len(parts))])
	}
	if r.Intn(6) == 0 {
		parts = append(parts, lit(yes))
	}
	return leftChain(parts[0], parts[1:]...)
}

// randomViews are of plans within p, of filters with some of their parts, and of others; those that do not fit are left out.
func randomViews(r *rand.Rand, db []impl.Rel, p impl.Plan) []impl.View {
	plans, inner := []impl.Plan{}, within(p)
	for range r.Intn(impl.MaxViews + 1) {
		q := inner[r.Intn(len(inner))]
		if q.Kind == impl.PlFilter && r.Intn(4) > 0 {
			q = filter(someParts(r, q.Exp), q.Kids[0])
		}
		if r.Intn(6) == 0 {
			q = randomPlan(r, db, r.Intn(3))
		}
		if impl.Fits(db, q) {
			plans = append(plans, q)
		}
	}
	return freshViews(db, plans...)
}

func TestP7AnyViewsOfAnyPlan(t *testing.T) {
	r := rand.New(rand.NewSource(14))
	used, parts, fit, rows := 0, 0, 0, 0
	for range 5000 {
		db := randomDb(r)
		p := randomNested(r, db, 1+r.Intn(impl.MaxPlan-1))
		if r.Intn(3) == 0 {
			p = randomPlan(r, db, 1+r.Intn(4))
		}
		if impl.Width(db, p) < 0 {
			continue
		}
		views := randomViews(r, db, p)
		q := impl.Use(db, views, p)
		if want := usedByHand(views, p); !impl.SamePlan(q, want) {
			t.Fatalf("%s: %s, want %s", impl.PlanText(p), impl.PlanText(q), impl.PlanText(want))
		}
		checkUsedAnswersTheSame(t, db, views, p)
		if t.Failed() {
			t.Fatalf("of %v with %v", db, views)
		}
		if !impl.SamePlan(p, q) {
			used++
		}
		for _, part := range within(q) {
			if part.Kind == impl.PlFilter && part.Kids[0].Kind == impl.PlTable && part.Kids[0].Name[0] == 'v' {
				parts++
			}
		}
		if impl.Fits(db, p) {
			fit++
			want, _ := meant(db, p)
			checkBag(t, impl.PlanText(q), impl.Answer(impl.WithViews(db, views), q), want.bag(impl.Width(db, p)))
			rows += len(want)
		}
	}
	if used < 2000 || parts < 500 || fit < 2500 || rows < 5000 {
		t.Errorf("only %d used, %d with parts left, %d fit, with %d rows", used, parts, fit, rows)
	}
}

func TestP7ChangesOneAfterTheOther(t *testing.T) {
	r := rand.New(rand.NewSource(15))
	kept, moved := 0, 0
	for range 300 {
		db := randomDb(r)
		views := randomViews(r, db, randomNested(r, db, 1+r.Intn(5)))
		for range 8 {
			d := randomChange(r, db)
			after := impl.Changed(db, d)
			if slices.ContainsFunc(views, func(v impl.View) bool { return !impl.Fits(after, v.Plan) }) {
				continue
			}
			next := impl.Maintain(db, d, views)
			if !impl.Fresh(after, next) || !sameViews(next, impl.Refresh(after, views)) {
				t.Fatalf("%v by %v: %v", db, d, next)
			}
			kept += len(next)
			if !sameViews(next, views) {
				moved++
			}
			db, views = after, next
		}
	}
	if kept < 2000 || moved < 500 {
		t.Errorf("only %d kept, %d moved", kept, moved)
	}
}

// roomyViews lay views out with spare room behind each list, filled with marks.
func roomyViews(views []impl.View) []impl.View {
	out := make([]impl.View, 0, len(views)+2)
	for _, v := range views {
		out = append(out, impl.View{Name: v.Name, Plan: roomyPlan(v.Plan), Bag: roomy(v.Bag)})
	}
	return append(out, view("mark", table("mark")), view("mark", table("mark")))[:len(views)]
}

func seenViews(views []impl.View) []impl.View {
	out := []impl.View{}
	for _, v := range views[:cap(views)] {
		out = append(out, impl.View{Name: v.Name, Plan: seenPlan(v.Plan), Bag: seen(v.Bag)})
	}
	return out
}

func plansOf(views []impl.View) []impl.Plan {
	out := []impl.Plan{}
	for _, v := range views {
		out = append(out, v.Plan)
	}
	return out
}

func viewBags(views []impl.View) []impl.Bag {
	out := []impl.Bag{}
	for _, v := range views {
		out = append(out, v.Bag)
	}
	return out
}

// checkViewsApart wants views whose lists share no memory, neither with each other nor with an argument.
func checkViewsApart(t *testing.T, answer []impl.View, plans []impl.Plan, bags []impl.Bag) {
	t.Helper()
	for i, v := range answer {
		others := slices.Delete(slices.Clone(answer), i, i+1)
		checkPlanApart(t, "a view's plan", v.Plan, append(slices.Clone(plans), plansOf(others)...)...)
		checkApart(t, "a view's bag", v.Bag, append(slices.Clone(bags), viewBags(others)...)...)
	}
	clear(answer[:cap(answer)])
}

func checkViewsLeaveAsItIs(t *testing.T, given []impl.Rel, givenChange []impl.Rel, givenViews []impl.View, p impl.Plan) {
	t.Helper()
	db, d, views, plan := roomyDb(given), roomyDb(givenChange), roomyViews(givenViews), roomyPlan(p)
	wantDb, wantD, wantViews, wantPlan := seenDb(db), seenDb(d), seenViews(views), seenPlan(plan)
	plans := append(plansOf(views), plan)
	bags := slices.Concat(bagsOf(db), bagsOf(d), viewBags(views))
	impl.ViewsOk(db, views)
	impl.Fresh(db, views)
	checkPlanApart(t, impl.PlanText(p), impl.Use(db, views, plan), plans...)
	checkViewsApart(t, impl.Refresh(db, views), plans, bags)
	checkViewsApart(t, impl.Maintain(db, d, views), plans, bags)
	all := impl.WithViews(db, views)
	for i, r := range all {
		checkApart(t, "a relation", r.Bag, append(slices.Clone(bags), slices.Delete(bagsOf(all), i, i+1)...)...)
	}
	clear(all[:cap(all)])
	if !reflect.DeepEqual(seenDb(db), wantDb) || !reflect.DeepEqual(seenDb(d), wantD) || !reflect.DeepEqual(seenViews(views), wantViews) || !reflect.DeepEqual(seenPlan(plan), wantPlan) {
		t.Errorf("an argument was written into: %s", impl.PlanText(p))
	}
}

func TestP13ViewsAnswerAtAnyArguments(t *testing.T) {
	e := op("and", is(0, 1), op("and", is(1, 2), op("=", col(0), col(1))))
	shared := filter(e, table("t"))
	plans := []impl.Plan{shared, filter(op("and", e, e), table("t")), union(shared, shared), filter(op("and", e, is(1, 3)), table("t")), filter(is(0, 1), table("a")), distinct(table("a"))}
	for _, x := range ordinaryPlans() {
		plans = append(plans, x.p)
	}
	for i, p := range plans {
		for _, d := range shopChanges()[12:] {
			checkViewsLeaveAsItIs(t, shopDb(), d, freshViews(shopDb(), plans[i:min(i+3, len(plans))]...), p)
			checkViewsLeaveAsItIs(t, shopDb(), d, freshViews(shopDb(), shared, shared, shared), p)
		}
		checkViewsLeaveAsItIs(t, shopDb(), nil, nil, p)
		checkViewsLeaveAsItIs(t, nil, nil, freshViews(shopDb(), p), p)
	}
	for _, views := range wrongViews() {
		checkViewsLeaveAsItIs(t, shopDb(), shopChanges()[4], views, distinct(table("a")))
		checkViewsLeaveAsItIs(t, shopDb(), wrongChanges()[1], views, views[0].Plan)
	}
	for _, d := range wrongChanges() {
		checkViewsLeaveAsItIs(t, shopDb(), d, freshViews(shopDb(), plans[:4]...), plans[2])
	}
	for _, db := range wrongDbs() {
		checkViewsLeaveAsItIs(t, db, db, freshViews(shopDb(), plans[:4]...), table("a"))
		checkViewsLeaveAsItIs(t, db, nil, []impl.View{view("v", table("a"))}, table("a"))
	}
	for _, b := range allBags() {
		checkViewsLeaveAsItIs(t, shopDb(), shopChanges()[5], []impl.View{{Name: "v", Plan: table("a"), Bag: b}, {Name: "w", Plan: distinct(table("a")), Bag: b}}, table("a"))
	}
	f := []impl.Rel{rel("f", numbered(0, impl.MaxRows))}
	checkViewsLeaveAsItIs(t, f, change(rel("f", numbered(7, 1))), freshViews(f, join(lit(yes), group(0, nil, table("f")), table("f"))), table("f"))
	checkViewsLeaveAsItIs(t, manyRels(mostRels), nil, freshViews(manyRels(mostRels), table("ra")), table("ra"))
}

func TestP13ViewsOfPlansWithoutEnd(t *testing.T) {
	db, d := shopDb(), shopChanges()[4]
	shared := table("a")
	for range 100 {
		shared = union(shared, shared)
	}
	right := freshViews(db, distinct(table("a")))
	for _, p := range []impl.Plan{ringPlan(1), ringPlan(3), shared, under(200000, table("a")), filter(ringExp(2), table("a")), project(exps(ringExp(1), ringExp(3)), table("a")), union(ringPlan(2), filter(ringExp(1), ringPlan(1)))} {
		views := []impl.View{view("v", p), view("w", table("a"))}
		if impl.ViewsOk(db, views) || impl.Fresh(db, views) || !sameDb(impl.WithViews(db, views), db) || !sameViews(impl.Maintain(db, d, views), views) {
			t.Error("not right, and views")
		}
		if got := impl.Refresh(db, views); len(got) != 2 || !impl.SamePlan(got[0].Plan, p) || !sameBag(got[0].Bag, bag(0)) || !sameBag(got[1].Bag, db[0].Bag) {
			t.Error("not right, and refreshed")
		}
		if !impl.SamePlan(impl.Use(db, views, table("a")), table("a")) || !impl.SamePlan(impl.Use(db, right, p), p) || !impl.SamePlan(impl.Use(db, views, p), p) {
			t.Error("not right, and used")
		}
	}
}

// partsTree is a chain of and with 2 to the depth parts, each another number, on both sides.
func partsTree(depth int, first int, step int) impl.Exp {
	if depth == 0 {
		return lit(num(first))
	}
	return op("and", partsTree(depth-1, first, step), partsTree(depth-1, first+step*(1<<(depth-1)), step))
}

func TestP13VeryManyConditions(t *testing.T) {
	db, most := shopDb(), 1<<impl.MaxDepth
	up, down := filter(partsTree(impl.MaxDepth, 1, 1), table("a")), filter(partsTree(impl.MaxDepth, most, -1), table("a"))
	views := impl.Refresh(db, namedViews(impl.MaxViews, down))
	checkUse(t, db, views, distinct(union(up, up)), "distinct(union(va, va))")
	few := filter(partsTree(impl.MaxDepth-1, 1, 1), table("a"))
	checkUse(t, db, views, few, impl.PlanText(few))
	checkUse(t, db, freshViews(db, few), up, impl.PlanText(up))
}

func TestP13ViewsAreTheSameEachTime(t *testing.T) {
	r := rand.New(rand.NewSource(16))
	for range 100 {
		db := randomDb(r)
		p := randomNested(r, db, 5)
		views, d := randomViews(r, db, p), randomChange(r, db)
		want, kept := impl.Use(db, views, p), impl.Maintain(db, d, views)
		for range 5 {
			if !impl.SamePlan(impl.Use(db, views, p), want) || !sameViews(impl.Maintain(db, d, views), kept) {
				t.Fatal(impl.PlanText(p))
			}
		}
	}
}
