package tests

import (
	"math/rand"
	"reflect"
	"slices"
	"testing"

	"loop.example/g00312/impl"
)

func change(list ...impl.Rel) []impl.Rel { return list }

// shopChanges are right ones of shopDb: rows come, go, are there more and less often, and come to 0.
func shopChanges() [][]impl.Rel {
	more, less, gone := rel("a", bag(1, times(1, num(1)))), rel("a", bag(1, times(-1, num(1)))), rel("a", bag(1, times(-2, num(1)), times(-1, num(2))))
	trades := rel("t", bag(2, times(1, num(1), num(5)), times(-1, num(1), num(20)), times(-4, num(2), num(30)), times(3, num(4), num(1))))
	people := rel("p", bag(3, times(1, num(0), text("cyd"), yes), times(-1, num(2), text("bob"), num(30)), times(-1, num(3), text("bob"), yes)))
	empty := rel("e", bag(2, times(1, null, null), times(2, num(1), num(10))))
	return [][]impl.Rel{
		nil, {}, change(rel("a", bag(1))), change(rel("a", bag(1)), rel("e", bag(2)), rel("o", bag(0)), rel("p", bag(3)), rel("t", bag(2))),
		change(more), change(less), change(gone), change(rel("a", bag(1, times(-2, num(1)), times(2, num(3))))), change(rel("a", bag(1, times(1, null), times(-1, num(1)), times(4, text("x"))))),
		change(empty), change(rel("o", bag(0, times(1)))), change(rel("o", bag(0, times(-1)))), change(rel("o", bag(0, times(-3)))), change(people), change(trades),
		change(gone, trades), change(more, rel("t", bag(2))), change(less, empty, rel("o", bag(0, times(-3))), people, trades), change(more, rel("o", bag(0, times(5))), trades), change(empty, trades),
	}
}

func TestP5RightAndWrongChanges(t *testing.T) {
	for i, d := range shopChanges() {
		if !impl.ChangeOk(shopDb(), d) {
			t.Errorf("right: %d", i)
		}
	}
	for i, d := range wrongChanges() {
		if impl.ChangeOk(shopDb(), d) {
			t.Errorf("wrong: %d: %v", i, d)
		}
	}
	for i, db := range wrongDbs() {
		if impl.ChangeOk(db, nil) || impl.ChangeOk(db, db) || len(db) > 0 && impl.ChangeOk(db, db[:1]) {
			t.Errorf("database %d", i)
		}
	}
	many := manyRels(mostRels)
	if !impl.ChangeOk(many, many) || !impl.ChangeOk(many, impl.Negate(many)) || !impl.ChangeOk(nil, nil) || impl.ChangeOk(nil, many[:1]) {
		t.Error("as many as there may be, and none")
	}
}

// wrongChanges are of shopDb.
func wrongChanges() [][]impl.Rel {
	a, t := rel("a", bag(1, times(1, num(1)))), rel("t", bag(2))
	list := [][]impl.Rel{
		{t, a}, {a, a}, {a, t, a}, {rel("a", bag(1)), rel("a", bag(1))}, {a, rel("p", bag(3)), rel("e", bag(2))}, {rel("zz", bag(1))}, {rel("", bag(1))}, {rel("A", bag(1))}, {a, rel("b", bag(1))}, {rel("a ", bag(1))},
		{rel("a", bag(0))}, {rel("a", bag(2))}, {rel("a", bag(2, times(1, num(1), num(1))))}, {a, rel("t", bag(1))}, {rel("o", bag(1))},
		{rel("a", bag(1, times(-3, num(1))))}, {rel("a", bag(1, times(-1, num(9))))}, {rel("a", bag(1, times(5, num(1)), times(-2, num(2))))}, {rel("o", bag(0, times(-4)))}, {rel("e", bag(2, times(-1, num(1), num(1))))}, {a, rel("e", bag(2, times(-1, num(1), num(1))))},
		{rel("a", bag(1, times(mostTimes-1, num(1))))}, {rel("a", numbered(2, impl.MaxRows))},
	}
	for _, b := range wrongBags() {
		list = append(list, []impl.Rel{rel("a", b)}, []impl.Rel{rel("a", bag(1)), rel("t", b)})
	}
	return list
}

func TestP5ChangesAtTheLimits(t *testing.T) {
	full := []impl.Rel{rel("f", numbered(0, impl.MaxRows)), rel("most", bag(1, times(mostTimes, num(1)))), rel("n", numbered(0, impl.MaxRows-1))}
	for _, x := range []struct {
		d     impl.Rel
		right bool
	}{
		{rel("n", numbered(500, 1)), true}, {rel("n", numbered(500, 2)), false}, {rel("n", numbered(-1, 2)), true}, {rel("f", numbered(0, impl.MaxRows)), true}, {rel("f", numbered(400, 1)), false}, {rel("f", bag(1, times(-1, num(0)), times(1, num(400)))), true},
		{rel("f", impl.TimesBag(numbered(0, impl.MaxRows), -1)), true}, {rel("f", impl.TimesBag(numbered(0, impl.MaxRows), -2)), false}, {rel("f", impl.TimesBag(numbered(0, impl.MaxRows), mostTimes-1)), true}, {rel("f", impl.TimesBag(numbered(0, impl.MaxRows), mostTimes)), false},
		{rel("most", bag(1, times(1, num(1)))), false}, {rel("most", bag(1, times(mostTimes, num(2)))), true}, {rel("most", bag(1, times(-mostTimes, num(1)))), true}, {rel("most", bag(1, times(-mostTimes, num(2)))), false},
	} {
		if got := impl.ChangeOk(full, change(x.d)); got != x.right {
			t.Errorf("%s with %d rows from %v: %v", x.d.Name, len(x.d.Bag.Rows), x.d.Bag.Rows[0], got)
		}
		after := impl.Changed(full, change(x.d))
		if !x.right && impl.DbOk(after) && !sameDb(after, full) {
			t.Errorf("%s: changed, and no change", x.d.Name)
		}
	}
}

func sameDb(a []impl.Rel, b []impl.Rel) bool {
	return slices.EqualFunc(a, b, func(x impl.Rel, y impl.Rel) bool { return x.Name == y.Name && sameBag(x.Bag, y.Bag) })
}

// changedByHand wants a right change.
func changedByHand(db []impl.Rel, d []impl.Rel) []impl.Rel {
	out := []impl.Rel{}
	for _, r := range db {
		rows := counts{}
		for _, x := range append(slices.Clone(d), r) {
			for _, c := range x.Bag.Rows {
				if x.Name == r.Name {
					rows.add(c.Row, c.N)
				}
			}
		}
		out = append(out, rel(r.Name, rows.withoutNone(r.Bag.Width)))
	}
	return out
}

func (c counts) withoutNone(width int) impl.Bag {
	b := c.bag(width)
	b.Rows = slices.DeleteFunc(b.Rows, func(x impl.Counted) bool { return x.N == 0 })
	return b
}

func checkChanged(t *testing.T, db []impl.Rel, d []impl.Rel, want []impl.Rel) {
	t.Helper()
	if got := impl.Changed(db, d); !sameDb(got, want) {
		t.Errorf("%v by %v: %v, want %v", db, d, got, want)
	}
}

func TestP5Changed(t *testing.T) {
	for _, d := range shopChanges() {
		checkChanged(t, shopDb(), d, changedByHand(shopDb(), d))
	}
	one, low := bag(1, times(1, num(1))), bag(1, times(-1, num(1)))
	db := []impl.Rel{rel("a", one), rel("b", bag(2))}
	for _, d := range [][]impl.Rel{nil, change(rel("zz", one)), change(rel("a", bag(1))), change(rel("a", bag(0))), change(rel("a", bag(2, times(1, num(1), num(1))))), change(rel("b", one)), change(rel("a", numbered(2, impl.MaxRows))), change(rel("a", bag(1, times(mostTimes, num(1)))))} {
		checkChanged(t, db, d, db)
	}
	for _, b := range wrongBags() {
		checkChanged(t, db, change(rel("a", b)), db)
		checkChanged(t, change(rel("a", b)), change(rel("a", one)), change(rel("a", b)))
		checkChanged(t, change(rel("a", b)), nil, change(rel("a", b)))
		checkChanged(t, change(rel("a", b), rel("a", one)), change(rel("a", one)), change(rel("a", b), rel("a", impl.TimesBag(one, 2))))
	}
	checkChanged(t, nil, change(rel("a", one)), nil)
	checkChanged(t, db, change(rel("a", impl.TimesBag(one, -3))), change(rel("a", bag(1, times(-2, num(1)))), db[1]))
	checkChanged(t, change(rel("B", low), rel("a", one)), change(rel("a", low), rel("B", low)), change(rel("B", impl.TimesBag(low, 2)), rel("a", bag(1))))
	checkChanged(t, db, change(rel("a", one), rel("b", bag(2)), rel("a", bag(1, times(3, num(2))))), change(rel("a", bag(1, times(2, num(1)), times(3, num(2)))), db[1]))
	checkChanged(t, db, change(rel("a", bag(1, times(mostTimes, num(1)))), rel("a", bag(1, times(-5, num(1))))), change(rel("a", bag(1, times(mostTimes-4, num(1)))), db[1]))
	checkChanged(t, db, change(rel("a", one), rel("a", bag(2))), db)
}

// moreByHand is by what an answer is more behind a right change, told by other means; false where it does not fit.
func moreByHand(db []impl.Rel, d []impl.Rel, p impl.Plan) (impl.Bag, bool) {
	before, first := meant(db, p)
	after, second := meant(changedByHand(db, d), p)
	more := counts{}
	for _, c := range after {
		more.add(c.Row, c.N)
	}
	for _, c := range before {
		more.add(c.Row, -c.N)
	}
	return more.withoutNone(impl.Width(db, p)), first && second
}

// checkMoves wants a right change and a right plan: it tells whether the plan fits on both sides of it.
func checkMoves(t *testing.T, db []impl.Rel, d []impl.Rel, p impl.Plan) bool {
	t.Helper()
	want, fits := moreByHand(db, d, p)
	if !fits {
		checkBag(t, impl.PlanText(p), impl.Delta(db, d, p), bag(impl.Width(db, p)))
		return false
	}
	got, after := impl.Delta(db, d, p), impl.Changed(db, d)
	checkBag(t, impl.PlanText(p), got, want)
	if impl.DeltaSize(db, d, p) != len(want.Rows) {
		t.Errorf("%s: %d rows, not %d", impl.PlanText(p), impl.DeltaSize(db, d, p), len(want.Rows))
	}
	back := impl.Delta(after, impl.Negate(d), p)
	if impl.BagOk(got) {
		checkBag(t, "together: "+impl.PlanText(p), impl.AddBag(impl.Answer(db, p), got), impl.Answer(after, p))
		checkBag(t, "back: "+impl.PlanText(p), impl.AddBag(got, back), bag(got.Width))
	}
	if impl.DeltaSize(after, impl.Negate(d), p) != len(want.Rows) {
		t.Errorf("back: %s", impl.PlanText(p))
	}
	if !impl.Touches(d, p) && len(got.Rows) > 0 {
		t.Errorf("not touched: %s", impl.PlanText(p))
	}
	return true
}

func TestP5WhatWasAndTheChangeAreWhatIs(t *testing.T) {
	for _, d := range shopChanges() {
		for _, x := range ordinaryPlans() {
			if !checkMoves(t, shopDb(), d, x.p) {
				t.Errorf("does not fit: %s", impl.PlanText(x.p))
			}
		}
	}
}

type moveCase struct {
	p    impl.Plan
	want impl.Bag
}

func checkDeltas(t *testing.T, d []impl.Rel, list []moveCase) {
	t.Helper()
	for _, x := range list {
		checkBag(t, impl.PlanText(x.p), impl.Delta(shopDb(), d, x.p), x.want)
		checkMoves(t, shopDb(), d, x.p)
	}
}

func TestP5DeltasOfEachKind(t *testing.T) {
	a, tt := table("a"), table("t")
	aMore := bag(1, times(-1, num(1)), times(-1, num(2)), times(3, num(5)))
	tMore := bag(2, times(1, num(1), num(5)), times(-3, num(2), num(30)), times(-1, num(3), num(-40)), times(1, num(5), num(30)))
	pairs := join(op("=", col(0), col(1)), a, tt)
	checkDeltas(t, change(rel("a", aMore), rel("t", tMore)), []moveCase{
		{a, aMore}, {tt, tMore}, {table("p"), bag(3)}, {filter(op("<", col(0), lit(num(3))), a), bag(1, times(-1, num(1)), times(-1, num(2)))}, {filter(lit(no), a), bag(1)}, {filter(lit(null), tt), bag(2)},
		{project(exps(col(1)), tt), bag(1, times(-1, num(-40)), times(1, num(5)), times(-2, num(30)))}, {project(exps(lit(yes)), a), bag(1, times(1, yes))}, {project(exps(op("=", col(0), lit(num(5)))), a), bag(1, times(-2, no), times(3, yes))}, {project(exps(lit(null), lit(num(1))), tt), bag(2, times(-2, null, num(1)))},
		{union(a, a), impl.TimesBag(aMore, 2)}, {union(a, project(exps(col(0)), tt)), bag(1, times(-4, num(2)), times(-1, num(3)), times(4, num(5)))}, {union(table("e"), tt), tMore}, {union(tt, table("e")), tMore}, {union(project(exps(op("-", lit(num(7)), col(0))), a), a), bag(1, times(-1, num(1)), times(2, num(2)), times(2, num(5)), times(-1, num(6)))},
		{pairs, bag(3, times(1, num(1), num(1), num(5)), times(-1, num(1), num(1), num(10)), times(-1, num(1), num(1), num(20)), times(-4, num(2), num(2), num(30)), times(3, num(5), num(5), num(30)))},
		{distinct(a), bag(1, times(-1, num(2)), times(1, num(5)))}, {distinct(tt), bag(2, times(1, num(1), num(5)), times(-1, num(3), num(-40)), times(1, num(5), num(30)))}, {distinct(project(exps(col(1)), tt)), bag(1, times(-1, num(-40)), times(1, num(5)))},
		{group(1, nil, tt), bag(2, times(-1, num(1), num(2)), times(1, num(1), num(3)), times(1, num(2), num(1)), times(-1, num(2), num(4)), times(-1, num(3), num(1)), times(1, num(5), num(1)))}, {group(0, nil, tt), bag(1, times(1, num(5)), times(-1, num(7)))}, {group(0, exps(col(0)), a), bag(2, times(-1, num(3), num(4)), times(1, num(4), num(16)))},
		{group(1, exps(col(0)), project(exps(op("<", col(0), lit(num(3)))), a)), bag(3, times(1, no, num(3), null), times(1, yes, num(1), null), times(-1, yes, num(3), null))},
		{filter(op("<", lit(num(2)), col(1)), group(1, nil, tt)), bag(2, times(1, num(1), num(3)), times(-1, num(2), num(4)))}, {distinct(project(exps(col(0)), pairs)), bag(1, times(-1, num(2)), times(1, num(5)))},
	})
}

func TestP5ATableThatStandsTwice(t *testing.T) {
	a := table("a")
	all, same, less := join(lit(yes), a, a), join(op("=", col(0), col(1)), a, a), join(op("<", col(0), col(1)), a, a)
	checkDeltas(t, change(rel("a", bag(1, times(-1, num(1)), times(1, num(3))))), []moveCase{
		{all, bag(2, times(-3, num(1), num(1)), times(-1, num(1), num(2)), times(1, num(1), num(3)), times(-1, num(2), num(1)), times(1, num(2), num(3)), times(1, num(3), num(1)), times(1, num(3), num(2)), times(1, num(3), num(3)))},
		{same, bag(2, times(-3, num(1), num(1)), times(1, num(3), num(3)))}, {less, bag(2, times(-1, num(1), num(2)), times(1, num(1), num(3)), times(1, num(2), num(3)))}, {union(a, a), bag(1, times(-2, num(1)), times(2, num(3)))}, {union(a, distinct(a)), bag(1, times(-1, num(1)), times(2, num(3)))},
		{distinct(union(a, a)), bag(1, times(1, num(3)))}, {group(0, nil, all), bag(1)}, {group(1, nil, same), bag(2, times(1, num(1), num(1)), times(-1, num(1), num(4)), times(1, num(3), num(1)))}, {union(all, same), bag(2, times(-6, num(1), num(1)), times(-1, num(1), num(2)), times(1, num(1), num(3)), times(-1, num(2), num(1)), times(1, num(2), num(3)), times(1, num(3), num(1)), times(1, num(3), num(2)), times(2, num(3), num(3)))},
		{join(lit(yes), same, a), bag(3, times(-7, num(1), num(1), num(1)), times(-3, num(1), num(1), num(2)), times(1, num(1), num(1), num(3)), times(-1, num(2), num(2), num(1)), times(1, num(2), num(2), num(3)), times(1, num(3), num(3), num(1)), times(1, num(3), num(3), num(2)), times(1, num(3), num(3), num(3)))},
	})
	checkDeltas(t, change(rel("a", bag(1, times(-2, num(1)), times(-1, num(2))))), []moveCase{
		{all, bag(2, times(-4, num(1), num(1)), times(-2, num(1), num(2)), times(-2, num(2), num(1)), times(-1, num(2), num(2)))}, {same, bag(2, times(-4, num(1), num(1)), times(-1, num(2), num(2)))}, {union(a, a), bag(1, times(-4, num(1)), times(-2, num(2)))},
	})
}

func TestP5DistinctRows(t *testing.T) {
	one := func(n int) []impl.Rel { return change(rel("a", bag(1, times(n, num(1))))) }
	a := table("a")
	checkDeltas(t, one(-1), []moveCase{{distinct(a), bag(1)}, {distinct(distinct(a)), bag(1)}, {distinct(filter(lit(yes), a)), bag(1)}, {union(distinct(a), a), bag(1, times(-1, num(1)))}})
	checkDeltas(t, one(-2), []moveCase{{distinct(a), bag(1, times(-1, num(1)))}, {distinct(distinct(a)), bag(1, times(-1, num(1)))}, {distinct(project(exps(lit(yes)), a)), bag(1)}, {union(distinct(a), a), bag(1, times(-3, num(1)))}})
	checkDeltas(t, one(5), []moveCase{{distinct(a), bag(1)}, {group(0, nil, distinct(a)), bag(1)}})
	checkDeltas(t, change(rel("a", bag(1, times(7, num(0)), times(1, num(3))))), []moveCase{{distinct(a), bag(1, times(1, num(0)), times(1, num(3)))}, {distinct(project(exps(op("*", col(0), lit(num(0)))), a)), bag(1)}})
	checkDeltas(t, change(rel("o", bag(0, times(-2)))), []moveCase{{distinct(table("o")), bag(0)}})
	checkDeltas(t, change(rel("o", bag(0, times(-3)))), []moveCase{{distinct(table("o")), bag(0, times(-1))}})
	checkDeltas(t, change(rel("e", bag(2, times(9, null, null)))), []moveCase{{distinct(table("e")), bag(2, times(1, null, null))}})
}

func TestP5GroupsThatComeAndGo(t *testing.T) {
	trades := func(rows ...impl.Counted) []impl.Rel { return change(rel("t", bag(2, rows...))) }
	counted, summed, all, total := group(1, nil, table("t")), group(1, exps(col(1)), table("t")), group(0, nil, table("t")), group(0, exps(col(1)), table("t"))
	checkDeltas(t, trades(times(2, num(0), num(7))), []moveCase{
		{counted, bag(2, times(1, num(0), num(2)))}, {summed, bag(3, times(1, num(0), num(2), num(14)))}, {all, bag(1, times(-1, num(7)), times(1, num(9)))}, {total, bag(2, times(-1, num(7), num(110)), times(1, num(9), num(124)))},
	})
	checkDeltas(t, trades(times(-1, num(1), num(10)), times(-1, num(1), num(20))), []moveCase{
		{counted, bag(2, times(-1, num(1), num(2)))}, {summed, bag(3, times(-1, num(1), num(2), num(30)))}, {all, bag(1, times(1, num(5)), times(-1, num(7)))}, {total, bag(2, times(1, num(5), num(80)), times(-1, num(7), num(110)))},
	})
	checkDeltas(t, trades(times(1, num(1), num(0))), []moveCase{
		{counted, bag(2, times(-1, num(1), num(2)), times(1, num(1), num(3)))}, {summed, bag(3, times(-1, num(1), num(2), num(30)), times(1, num(1), num(3), num(30)))}, {all, bag(1, times(-1, num(7)), times(1, num(8)))}, {total, bag(2, times(-1, num(7), num(110)), times(1, num(8), num(110)))},
	})
	checkDeltas(t, trades(times(-1, num(1), num(10)), times(1, num(1), num(11))), []moveCase{
		{counted, bag(2)}, {summed, bag(3, times(-1, num(1), num(2), num(30)), times(1, num(1), num(2), num(31)))}, {all, bag(1)}, {total, bag(2, times(-1, num(7), num(110)), times(1, num(7), num(111)))},
	})
	checkDeltas(t, trades(times(-1, num(1), num(10)), times(1, num(1), num(12)), times(2, num(1), num(18)), times(-1, num(1), num(20))), []moveCase{
		{counted, bag(2, times(-1, num(1), num(2)), times(1, num(1), num(3)))}, {summed, bag(3, times(-1, num(1), num(2), num(30)), times(1, num(1), num(3), num(48)))},
	})
	checkDeltas(t, trades(times(-1, num(1), num(10)), times(1, num(1), num(14)), times(1, num(1), num(16)), times(-1, num(1), num(20))), []moveCase{{counted, bag(2)}, {summed, bag(3)}, {all, bag(1)}, {total, bag(2)}})
	checkDeltas(t, trades(times(-1, num(1), num(10)), times(-1, num(1), num(20)), times(-4, num(2), num(30)), times(-1, num(3), num(-40))), []moveCase{{all, bag(1, times(-1, num(7)))}, {total, bag(2, times(-1, num(7), num(110)))}, {counted, impl.TimesBag(impl.Answer(shopDb(), counted), -1)}})
	checkDeltas(t, trades(times(1, num(3), null), times(-1, num(3), num(-40))), []moveCase{{summed, bag(3, times(1, num(3), num(1), null), times(-1, num(3), num(1), num(-40)))}, {counted, bag(2)}})
	fromNone := change(rel("e", bag(2, times(2, num(1), text("x")), times(1, num(2), num(5)))))
	e := table("e")
	checkDeltas(t, fromNone, []moveCase{{group(0, nil, e), bag(1, times(1, num(3)))}, {group(0, exps(col(1)), e), bag(2, times(1, num(3), num(5)))}, {group(1, exps(col(1)), e), bag(3, times(1, num(1), num(2), null), times(1, num(2), num(1), num(5)))}, {group(2, nil, e), bag(3, times(1, num(1), text("x"), num(2)), times(1, num(2), num(5), num(1)))}})
	checkDeltas(t, change(rel("o", bag(0, times(-3)))), []moveCase{{group(0, nil, table("o")), bag(1, times(-1, num(3)))}})
	counts2 := group(1, exps(col(0)), project(exps(col(1), col(0)), counted))
	checkDeltas(t, trades(times(1, num(3), num(1))), []moveCase{{counts2, bag(3, times(-1, num(1), num(1), num(1)), times(-1, num(2), num(1), num(2)), times(1, num(2), num(2), num(4)))}})
}

func TestP5MostRowsOfADelta(t *testing.T) {
	moveTo := func(gone int, come int) ([]impl.Rel, []impl.Rel) {
		d := slices.Concat(impl.TimesBag(numbered(0, gone), -1).Rows, numbered(1000, come).Rows)
		return []impl.Rel{rel("f", numbered(0, gone)), rel("g", numbered(0, 200))}, change(rel("f", bag(1, d...)))
	}
	f, g := table("f"), table("g")
	db, d := moveTo(200, 200)
	for _, p := range []impl.Plan{f, filter(lit(yes), f), distinct(f), union(f, f), group(1, nil, f), join(op("or", op("=", col(0), col(1)), op("=", col(0), op("+", col(1), lit(num(1000))))), f, g)} {
		if got := impl.Delta(db, d, p); len(got.Rows) != impl.MaxRows || !impl.BagOk(got) || impl.DeltaSize(db, d, p) != impl.MaxRows {
			t.Errorf("just as many: %s has %d", impl.PlanText(p), len(got.Rows))
		}
		checkMoves(t, db, d, p)
	}
	both := union(f, project(exps(op("+", col(0), lit(num(5000)))), f))
	if got := impl.Delta(db, d, both); len(got.Rows) != 2*impl.MaxRows || impl.BagOk(got) || got.Width != 1 || impl.DeltaSize(db, d, both) != 2*impl.MaxRows {
		t.Errorf("twice as many: %d", len(got.Rows))
	}
	for _, p := range []impl.Plan{both, distinct(both), filter(op("<", lit(num(-1)), col(0)), both), group(1, nil, both), join(lit(yes), group(0, nil, both), f), group(0, exps(col(0)), both), filter(op("<", col(0), lit(num(3))), both), distinct(project(exps(lit(yes)), both)), group(0, nil, group(1, nil, f)), join(op("=", col(0), op("-", col(1), lit(num(1000)))), g, f)} {
		if !checkMoves(t, db, d, p) {
			t.Errorf("does not fit: %s", impl.PlanText(p))
		}
	}
	db = []impl.Rel{rel("f", numbered(0, 201)), rel("g", numbered(0, 200))}
	d = change(rel("f", bag(1, times(-1, num(200)))))
	one := group(0, nil, f)
	more := join(lit(yes), one, f)
	if got := impl.Delta(db, d, more); len(got.Rows) != impl.MaxRows+1 || impl.BagOk(got) || got.Width != 2 {
		t.Errorf("one more: %d", len(got.Rows))
	}
	full, once := []impl.Rel{rel("f", numbered(0, impl.MaxRows))}, change(rel("f", numbered(7, 1)))
	if got := impl.Delta(full, once, more); len(got.Rows) != 2*impl.MaxRows || !checkMoves(t, full, once, more) {
		t.Errorf("each row another one: %d", len(got.Rows))
	}
	for _, p := range []impl.Plan{more, distinct(more), group(1, exps(col(1)), more), filter(op("<", col(1), lit(num(100))), more), project(exps(col(1)), more)} {
		if !checkMoves(t, db, d, p) {
			t.Errorf("does not fit: %s", impl.PlanText(p))
		}
	}
}

func TestP5FitsAheadOrBehindAlone(t *testing.T) {
	db := []impl.Rel{rel("half", bag(1, times(mostTimes/2, num(1)))), rel("n", numbered(0, 20)), rel("two", bag(2, times(1, num(1), num(1)), times(mostTimes, num(1), num(2))))}
	n, half := table("n"), table("half")
	pairs := join(lit(yes), n, n)
	more, fewer := change(rel("n", numbered(20, 1))), change(rel("n", bag(1, times(-1, num(3)))))
	for _, p := range []impl.Plan{pairs, distinct(pairs), filter(lit(no), pairs), project(exps(lit(yes), lit(no)), pairs), union(pairs, pairs)} {
		if len(impl.Delta(db, more, p).Rows) != 0 || impl.Delta(db, more, p).Width != 2 || impl.DeltaSize(db, more, p) != 0 {
			t.Errorf("too much behind: %s", impl.PlanText(p))
		}
		after := impl.Changed(db, more)
		back := impl.Negate(more)
		if len(impl.Delta(after, back, p).Rows) != 0 || impl.Delta(after, back, p).Width != 2 {
			t.Errorf("too much ahead: %s", impl.PlanText(p))
		}
		if !checkMoves(t, db, fewer, p) || checkMoves(t, db, more, p) || checkMoves(t, after, back, p) {
			t.Errorf("fits otherwise: %s", impl.PlanText(p))
		}
	}
	once := change(rel("half", bag(1, times(1, num(1)))))
	for _, p := range []impl.Plan{union(half, half), distinct(union(half, half)), group(0, nil, union(half, half))} {
		if checkMoves(t, db, once, p) || !checkMoves(t, db, impl.Negate(once), p) || checkMoves(t, impl.Changed(db, once), impl.Negate(once), p) {
			t.Errorf("too often: %s", impl.PlanText(p))
		}
	}
	first := project(exps(col(0)), table("two"))
	less := change(rel("two", bag(2, times(-1, num(1), num(1)))))
	if checkMoves(t, db, less, first) || impl.Delta(db, less, first).Width != 1 || !checkMoves(t, db, less, table("two")) {
		t.Error("too often ahead alone")
	}
}

func TestP5LargeCountsOfAJoin(t *testing.T) {
	db := []impl.Rel{rel("a", bag(1, times(mostTimes, num(1)), times(mostTimes, num(2)), times(1, num(3)))), rel("b", bag(1, times(mostTimes, num(4)), times(mostTimes, num(5)), times(1, num(6))))}
	d := change(rel("a", bag(1, times(-mostTimes, num(1)), times(-mostTimes, num(2)), times(mostTimes-1, num(3)), times(mostTimes, num(7)))), rel("b", bag(1, times(-mostTimes, num(4)), times(-mostTimes, num(5)), times(mostTimes, num(8)))))
	last := join(op("and", op("=", col(0), lit(num(3))), op("=", col(1), lit(num(6)))), table("a"), table("b"))
	checkBag(t, "large", impl.Delta(db, d, last), bag(2, times(mostTimes-1, num(3), num(6))))
	checkMoves(t, db, d, last)
	other := op("or", op("and", op("=", col(0), lit(num(1))), op("=", col(1), lit(num(8)))), op("and", op("=", col(0), lit(num(7))), op("=", col(1), lit(num(4)))))
	checkBag(t, "in neither", impl.Delta(db, d, join(other, table("a"), table("b"))), bag(2))
	checkMoves(t, db, d, join(other, table("a"), table("b")))
}

func TestP5ManyPairsThatNeitherAnswerHas(t *testing.T) {
	oldWithNew := join(op("and", op("<", col(0), lit(num(500))), op("<", lit(num(500)), col(1))), table("a"), table("b"))
	mixed := union(join(op("=", col(0), col(1)), table("a"), table("b")), oldWithNew)
	db := []impl.Rel{rel("a", numbered(0, 200)), rel("b", numbered(0, 200))}
	swap := bag(1, slices.Concat(impl.TimesBag(numbered(0, 200), -1).Rows, numbered(1000, 200).Rows)...)
	d := change(rel("a", swap), rel("b", swap))
	if got := impl.Delta(db, d, oldWithNew); len(got.Rows) != 0 {
		t.Errorf("rows that neither answer has: %d", len(got.Rows))
	}
	if !checkMoves(t, db, d, mixed) || !checkMoves(t, db, change(rel("a", impl.TimesBag(numbered(0, 200), -1))), mixed) {
		t.Error("does not fit")
	}
}

func TestP5WrongInputsHaveNoDelta(t *testing.T) {
	db, ok := shopDb(), shopChanges()[4]
	for _, d := range wrongChanges() {
		for _, x := range ordinaryPlans() {
			checkBag(t, "no change", impl.Delta(db, d, x.p), bag(x.want.Width))
			if impl.DeltaSize(db, d, x.p) != 0 {
				t.Error("no change, and rows")
			}
		}
		checkBag(t, "no change, no plan", impl.Delta(db, d, table("zz")), bag(0))
	}
	for _, p := range wrongShapes() {
		checkBag(t, "not right", impl.Delta(db, ok, p), bag(0))
		checkBag(t, "not right, no change", impl.Delta(db, nil, distinct(p)), bag(0))
		if impl.DeltaSize(db, ok, p) != 0 {
			t.Error("not right, and rows")
		}
	}
	for i, wrong := range wrongDbs() {
		for _, r := range wrong {
			if got := impl.Delta(wrong, nil, table(r.Name)); len(got.Rows) != 0 || got.Width != max(impl.Width(wrong, table(r.Name)), 0) {
				t.Errorf("database %d: %v", i, got)
			}
			if got := impl.Delta(wrong, change(rel(r.Name, r.Bag)), distinct(table(r.Name))); len(got.Rows) != 0 {
				t.Errorf("database %d: %v", i, got)
			}
		}
	}
	checkBag(t, "one too deep", impl.Delta(db, ok, under(impl.MaxPlan+1, table("a"))), bag(0))
	checkBag(t, "just so deep", impl.Delta(db, change(rel("a", bag(1, times(1, num(9))))), under(impl.MaxPlan, table("a"))), bag(1, times(1, num(9))))
}

func TestP5Negate(t *testing.T) {
	for i, d := range shopChanges() {
		back := impl.Negate(d)
		if len(back) != len(d) {
			t.Fatalf("change %d: %v", i, back)
		}
		for k, r := range d {
			if back[k].Name != r.Name || len(impl.AddBag(r.Bag, back[k].Bag).Rows) != 0 || len(back[k].Bag.Rows) != len(r.Bag.Rows) {
				t.Errorf("change %d: %v", i, back[k])
			}
			checkBag(t, "twice", impl.Negate(back)[k].Bag, r.Bag)
		}
		after := impl.Changed(shopDb(), d)
		if !impl.ChangeOk(after, back) || !sameDb(impl.Changed(after, back), shopDb()) {
			t.Errorf("change %d: not back", i)
		}
	}
	for _, b := range allBags() {
		got := impl.Negate(change(rel("No name", b), rel("", b)))
		checkBag(t, "negative", got[0].Bag, impl.TimesBag(b, -1))
		if len(got) != 2 || got[0].Name != "No name" || got[1].Name != "" || !sameBag(got[0].Bag, got[1].Bag) {
			t.Errorf("negative: %v", got)
		}
	}
	if len(impl.Negate(nil)) != 0 {
		t.Error("of none")
	}
}

func TestP5Touches(t *testing.T) {
	one, wrong := bag(1, times(1, num(1))), bag(5, times(0, num(1)))
	a, b := table("a"), table("b")
	for i, x := range []struct {
		d    []impl.Rel
		p    impl.Plan
		want bool
	}{
		{nil, a, false}, {change(rel("a", one)), a, true}, {change(rel("a", bag(1, times(-1, num(1))))), a, true}, {change(rel("a", bag(1))), a, false}, {change(rel("b", one)), a, false}, {change(rel("a", bag(1)), rel("b", one)), a, false}, {change(rel("a", one), rel("b", bag(1))), b, false}, {change(rel("a", bag(1)), rel("b", one)), b, true},
		{change(rel("b", one)), union(a, distinct(filter(lit(no), b))), true}, {change(rel("c", one)), union(a, join(lit(yes), b, b)), false}, {change(rel("a", one), rel("c", one)), group(0, nil, project(exps(col(0)), table("c"))), true},
		{change(rel("b", one), rel("a", one), rel("a", bag(1))), a, true}, {change(rel("a", bag(1)), rel("a", one)), a, true}, {change(rel("a", wrong)), a, true}, {change(rel("", one)), impl.Plan{}, true}, {change(rel("", one)), distinct(), false}, {change(rel("No name", one)), table("No name"), true},
		{change(rel("a", one)), impl.Plan{Kind: 9, Name: "a"}, false}, {change(rel("a", one)), under(100, a), true}, {change(rel("a", one)), ringPlan(3), false}, {change(rel("a", one)), union(ringPlan(2), a), true},
	} {
		if impl.Touches(x.d, x.p) != x.want {
			t.Errorf("case %d: %v", i, !x.want)
		}
	}
}

// randomChange is of some relations: rows that go, that are there more or less often, and that come.
func randomChange(r *rand.Rand, db []impl.Rel) []impl.Rel {
	d := []impl.Rel{}
	for _, x := range db {
		if r.Intn(3) == 0 {
			continue
		}
		rows := counts{}
		for _, c := range x.Bag.Rows {
			switch r.Intn(5) {
			case 0:
				rows.add(c.Row, -c.N)
			case 1:
				rows.add(c.Row, -1-r.Intn(c.N))
			case 2:
				rows.add(c.Row, min(1+r.Intn(3), mostTimes-c.N))
			}
		}
		for range r.Intn(4) {
			next := randomRow(r, x.Bag.Width)
			if impl.CountOf(x.Bag, next) == 0 {
				rows.add(next, 1+r.Intn(3))
			}
		}
		d = append(d, rel(x.Name, rows.withoutNone(x.Bag.Width)))
	}
	return d
}

func TestP5AnyChangeOfAnyPlan(t *testing.T) {
	r := rand.New(rand.NewSource(9))
	fit, not, moved := 0, 0, 0
	for range 3000 {
		db := randomDb(r)
		p := randomPlan(r, db, 1+r.Intn(4))
		d := randomChange(r, db)
		if !impl.ChangeOk(db, d) {
			t.Fatalf("no change: %v of %v", d, db)
		}
		if impl.Width(db, p) < 0 {
			checkBag(t, "not right", impl.Delta(db, d, p), bag(0))
			continue
		}
		checkChanged(t, db, d, changedByHand(db, d))
		if !checkMoves(t, db, d, p) {
			not++
			continue
		}
		fit++
		if impl.DeltaSize(db, d, p) > 0 {
			moved++
		}
		if t.Failed() {
			t.Fatalf("%v by %v", db, d)
		}
	}
	if fit < 1500 || not < 50 || moved < 900 {
		t.Errorf("only %d fit, %d do not, %d have rows", fit, not, moved)
	}
}

func TestP5ChangesOneAfterTheOther(t *testing.T) {
	r := rand.New(rand.NewSource(10))
	for range 150 {
		db := randomDb(r)
		p := randomPlan(r, db, 1+r.Intn(4))
		if !impl.Fits(db, p) {
			continue
		}
		kept := impl.Answer(db, p)
		for range 8 {
			d := randomChange(r, db)
			if after := impl.Changed(db, d); impl.Fits(after, p) {
				kept = impl.AddBag(kept, impl.Delta(db, d, p))
				db = after
			}
			checkBag(t, impl.PlanText(p), kept, impl.Answer(db, p))
		}
	}
}

func checkChangeIsLeftAsItIs(t *testing.T, given []impl.Rel, givenChange []impl.Rel, p impl.Plan) {
	t.Helper()
	db, d, plan := roomyDb(given), roomyDb(givenChange), roomyPlan(p)
	wantDb, wantD, wantPlan := seenDb(db), seenDb(d), seenPlan(plan)
	bags := append(bagsOf(db), bagsOf(d)...)
	impl.ChangeOk(db, d)
	impl.DeltaSize(db, d, plan)
	impl.Touches(d, plan)
	checkApart(t, "delta", impl.Delta(db, d, plan), bags...)
	for _, list := range [][]impl.Rel{impl.Changed(db, d), impl.Negate(d), impl.Changed(d, db)} {
		for i, r := range list {
			checkApart(t, "a relation", r.Bag, append(slices.Clone(bags), slices.Delete(bagsOf(list), i, i+1)...)...)
		}
		clear(list[:cap(list)])
	}
	if !reflect.DeepEqual(seenDb(db), wantDb) || !reflect.DeepEqual(seenDb(d), wantD) || !reflect.DeepEqual(seenPlan(plan), wantPlan) {
		t.Errorf("an argument was written into: %s", impl.PlanText(p))
	}
}

func TestP13ChangesAnswerAtAnyArguments(t *testing.T) {
	plans := []impl.Plan{table("a"), table("b"), {}, {Kind: 9}, union(table("a"), table("a")), join(lit(yes), table("a"), table("t")), distinct(table("t")), group(1, exps(col(0)), table("a")), filter(col(7), table("a"))}
	for _, x := range ordinaryPlans() {
		plans = append(plans, x.p)
	}
	for _, d := range shopChanges() {
		for _, p := range plans {
			checkChangeIsLeftAsItIs(t, shopDb(), d, p)
		}
	}
	for _, d := range wrongChanges() {
		for _, p := range plans[:6] {
			checkChangeIsLeftAsItIs(t, shopDb(), d, p)
		}
	}
	for _, db := range wrongDbs() {
		for _, d := range [][]impl.Rel{nil, db, shopChanges()[4], wrongChanges()[1]} {
			for _, p := range plans[:6] {
				checkChangeIsLeftAsItIs(t, db, d, p)
			}
		}
	}
	for _, p := range wrongShapes() {
		checkChangeIsLeftAsItIs(t, shopDb(), shopChanges()[4], p)
	}
}

func TestP13DeltasOfPlansWithoutEnd(t *testing.T) {
	d := shopChanges()[4]
	shared := table("a")
	for range 100 {
		shared = union(shared, shared)
	}
	for _, p := range []impl.Plan{ringPlan(1), ringPlan(3), shared, under(200000, table("a")), filter(ringExp(2), table("a"))} {
		if got := impl.Delta(shopDb(), d, p); got.Width != 0 || len(got.Rows) != 0 || impl.DeltaSize(shopDb(), d, p) != 0 {
			t.Error("not right, and rows")
		}
		impl.Touches(d, p)
	}
}
