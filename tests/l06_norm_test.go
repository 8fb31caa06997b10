package tests

import (
	"math/rand"
	"reflect"
	"slices"
	"testing"

	"loop.example/g00312/impl"
)

const mostPushes = 6

type pushCase struct {
	p    impl.Plan
	want string
}

// is is the condition that a column is a number.
func is(column int, n int) impl.Exp { return op("=", col(column), lit(num(n))) }

// tall has p just so deep below its top, under plans of which no rule is so.
func tall(depth int, p impl.Plan, beside impl.Plan) impl.Plan {
	for i := range depth {
		if i%2 == 0 {
			p = distinct(p)
		} else {
			p = union(p, beside)
		}
	}
	return p
}

// checkPush wants that text of what is pushed, and that it answers the same, and fits where it did.
func checkPush(t *testing.T, db []impl.Rel, p impl.Plan, want string) {
	t.Helper()
	q := impl.Push(db, p)
	if got := impl.PlanText(q); got != want {
		t.Errorf("%s: %s, want %s", impl.PlanText(p), got, want)
	}
	checkMeansTheSame(t, db, p, q)
}

func checkMeansTheSame(t *testing.T, db []impl.Rel, p impl.Plan, q impl.Plan) {
	t.Helper()
	if impl.Width(db, p) != impl.Width(db, q) || impl.Fits(db, p) && !impl.Fits(db, q) {
		t.Errorf("%s: width %d and %d, fits %v and %v", impl.PlanText(p), impl.Width(db, p), impl.Width(db, q), impl.Fits(db, p), impl.Fits(db, q))
	}
	if impl.Fits(db, p) {
		checkBag(t, impl.PlanText(q), impl.Answer(db, q), impl.Answer(db, p))
	}
}

func checkPushes(t *testing.T, list []pushCase) {
	t.Helper()
	for _, x := range list {
		checkPush(t, shopDb(), x.p, x.want)
		for i, d := range shopChanges() {
			checkMeansTheSame(t, impl.Changed(shopDb(), d), x.p, impl.Push(shopDb(), x.p))
			if i%7 == 0 {
				checkPush(t, impl.Changed(shopDb(), d), x.p, x.want)
			}
		}
	}
}

func TestP6EachRule(t *testing.T) {
	a, people, trades := table("a"), table("p"), table("t")
	one := is(0, 1)
	checkPushes(t, []pushCase{
		{a, "a"}, {filter(one, a), "filter((c0 = 1), a)"}, {filter(lit(yes), a), "a"}, {filter(lit(no), a), "filter(false, a)"}, {filter(lit(null), a), "filter(null, a)"}, {filter(lit(num(1)), a), "filter(1, a)"}, {filter(lit(text("true")), a), "filter('true', a)"}, {filter(not(lit(no)), a), "filter(not(false), a)"},
		{filter(one, filter(col(0), a)), "filter((c0 and (c0 = 1)), a)"}, {filter(op("and", is(0, 1), is(0, 2)), filter(op("and", is(0, 3), op("and", is(0, 4), is(0, 5))), a)), "filter((((((c0 = 3) and (c0 = 4)) and (c0 = 5)) and (c0 = 1)) and (c0 = 2)), a)"}, {filter(lit(null), filter(lit(null), a)), "filter((null and null), a)"},
		{filter(one, filter(op("or", is(0, 1), is(0, 2)), a)), "filter((((c0 = 1) or (c0 = 2)) and (c0 = 1)), a)"},
		{filter(one, project(exps(op("+", col(1), lit(num(2)))), trades)), "project([(c1 + 2)], filter(((c1 + 2) = 1), t))"}, {filter(op("=", col(1), col(0)), project(exps(col(1), lit(num(10)), col(0)), trades)), "project([c1, 10, c0], filter((10 = c1), t))"}, {filter(lit(no), project(exps(col(1)), trades)), "project([c1], filter(false, t))"},
		{filter(one, union(a, a)), "union(filter((c0 = 1), a), filter((c0 = 1), a))"}, {filter(is(1, 10), union(trades, table("e"))), "union(filter((c1 = 10), t), filter((c1 = 10), e))"},
		{filter(one, distinct(a)), "distinct(filter((c0 = 1), a))"}, {filter(lit(no), distinct(table("o"))), "distinct(filter(false, o))"},
		{project(exps(op("*", col(0), col(0))), project(exps(col(1)), trades)), "project([(c1 * c1)], t)"}, {project(exps(col(1), lit(yes), op("-", col(0), col(1))), project(exps(op("+", col(0), col(1)), lit(num(4))), trades)), "project([4, true, ((c0 + c1) - 4)], t)"}, {project(exps(col(0)), project(exps(col(0)), a)), "project([c0], a)"},
		{distinct(distinct(a)), "distinct(a)"}, {distinct(distinct(distinct(distinct(trades)))), "distinct(t)"},
		{distinct(union(a, a)), "distinct(union(a, a))"}, {project(exps(col(0)), distinct(a)), "project([c0], distinct(a))"}, {distinct(project(exps(col(0)), people)), "distinct(project([c0], p))"}, {union(a, a), "union(a, a)"}, {group(1, exps(col(0)), distinct(a)), "group(1, [c0], distinct(a))"}, {join(is(0, 1), a, filter(one, trades)), "join((c0 = 1), a, filter((c0 = 1), t))"}, {group(1, nil, group(1, nil, trades)), "group(1, [], group(1, [], t))"}, {project(exps(col(0)), filter(one, trades)), "project([c0], filter((c0 = 1), t))"},
	})
}

func TestP6FiltersOfJoins(t *testing.T) {
	first, second, both := is(0, 1), op("<", col(2), lit(num(15))), op("=", col(0), col(1))
	pairs := join(lit(yes), table("a"), table("t"))
	on := join(op("<", col(0), col(2)), table("t"), table("a"))
	checkPushes(t, []pushCase{
		{filter(first, pairs), "join(true, filter((c0 = 1), a), t)"}, {filter(second, pairs), "join(true, a, filter((c1 < 15), t))"}, {filter(both, pairs), "filter((c0 = c1), join(true, a, t))"},
		{filter(op("and", op("and", first, both), second), pairs), "filter((c0 = c1), join(true, filter((c0 = 1), a), filter((c1 < 15), t)))"}, {filter(op("and", second, op("and", both, first)), pairs), "filter((c0 = c1), join(true, filter((c0 = 1), a), filter((c1 < 15), t)))"},
		{filter(op("and", first, second), pairs), "join(true, filter((c0 = 1), a), filter((c1 < 15), t))"}, {filter(op("and", both, second), pairs), "filter((c0 = c1), join(true, a, filter((c1 < 15), t)))"}, {filter(op("and", both, first), pairs), "filter((c0 = c1), join(true, filter((c0 = 1), a), t))"},
		{filter(op("and", op("and", both, is(0, 2)), op("and", op("<", col(0), col(2)), first)), pairs), "filter(((c0 = c1) and (c0 < c2)), join(true, filter(((c0 = 2) and (c0 = 1)), a), t))"}, {filter(op("and", second, op("and", is(1, 2), op("<", col(1), col(2)))), pairs), "join(true, a, filter((((c1 < 15) and (c0 = 2)) and (c0 < c1)), t))"},
		{filter(op("or", first, second), pairs), "filter(((c0 = 1) or (c2 < 15)), join(true, a, t))"}, {filter(not(op("and", first, second)), pairs), "filter(not(((c0 = 1) and (c2 < 15))), join(true, a, t))"},
		{filter(lit(num(5)), pairs), "join(true, filter(5, a), t)"}, {filter(lit(null), pairs), "join(true, filter(null, a), t)"}, {filter(op("=", lit(num(1)), lit(num(1))), pairs), "join(true, filter((1 = 1), a), t)"}, {filter(op("and", lit(num(5)), both), pairs), "filter((c0 = c1), join(true, filter(5, a), t))"}, {filter(op("and", second, lit(no)), pairs), "join(true, filter(false, a), filter((c1 < 15), t))"}, {filter(op("and", lit(yes), second), pairs), "join(true, a, filter((c1 < 15), t))"}, {filter(op("and", lit(yes), lit(yes)), pairs), "join(true, filter((true and true), a), t)"},
		{filter(is(0, 1), on), "join((c0 < c2), filter((c0 = 1), t), a)"}, {filter(is(1, 20), on), "join((c0 < c2), filter((c1 = 20), t), a)"}, {filter(is(2, 2), on), "join((c0 < c2), t, filter((c0 = 2), a))"}, {filter(op("=", col(0), col(1)), on), "join((c0 < c2), filter((c0 = c1), t), a)"}, {filter(op("=", col(1), col(2)), on), "filter((c1 = c2), join((c0 < c2), t, a))"},
		{filter(is(0, 1), join(lit(yes), table("o"), table("a"))), "join(true, o, filter((c0 = 1), a))"}, {filter(is(0, 1), join(lit(yes), table("a"), table("o"))), "join(true, filter((c0 = 1), a), o)"}, {filter(lit(no), join(lit(yes), table("o"), table("o"))), "join(true, filter(false, o), o)"}, {filter(op("and", lit(no), is(0, 1)), join(lit(yes), table("o"), table("a"))), "join(true, filter(false, o), filter((c0 = 1), a))"},
		{filter(op("and", first, second), join(lit(yes), filter(is(0, 2), table("a")), distinct(table("t")))), "join(true, filter(((c0 = 2) and (c0 = 1)), a), distinct(filter((c1 < 15), t)))"},
		{filter(op("and", is(0, 1), op("and", is(3, 1), is(5, 30))), join(lit(yes), join(lit(yes), table("a"), table("t")), join(lit(yes), table("a"), table("t")))), "join(true, join(true, filter((c0 = 1), a), t), join(true, filter((c0 = 1), a), filter((c1 = 30), t)))"},
		{filter(op("and", op("=", col(0), col(1)), op("=", col(0), col(3))), join(lit(yes), join(lit(yes), table("a"), table("t")), table("a"))), "filter((c0 = c3), join(true, filter((c0 = c1), join(true, a, t)), a))"},
	})
}

func TestP6FiltersOfGroups(t *testing.T) {
	key, count, sum := is(0, 1), op("<", col(1), lit(num(3))), op("<", lit(num(20)), col(2))
	counted, summed := group(1, nil, table("t")), group(1, exps(col(1)), table("t"))
	all, byBoth := group(0, exps(col(0)), table("t")), group(2, nil, table("t"))
	checkPushes(t, []pushCase{
		{filter(key, counted), "group(1, [], filter((c0 = 1), t))"}, {filter(count, counted), "filter((c1 < 3), group(1, [], t))"}, {filter(op("and", key, count), counted), "filter((c1 < 3), group(1, [], filter((c0 = 1), t)))"}, {filter(op("and", count, key), counted), "filter((c1 < 3), group(1, [], filter((c0 = 1), t)))"},
		{filter(sum, summed), "filter((20 < c2), group(1, [c1], t))"}, {filter(op("and", op("and", sum, key), count), summed), "filter(((20 < c2) and (c1 < 3)), group(1, [c1], filter((c0 = 1), t)))"}, {filter(op("and", op("and", key, op("<", col(0), lit(num(9)))), sum), summed), "filter((20 < c2), group(1, [c1], filter(((c0 = 1) and (c0 < 9)), t)))"},
		{filter(op("=", col(0), col(1)), counted), "filter((c0 = c1), group(1, [], t))"}, {filter(op("or", key, count), counted), "filter(((c0 = 1) or (c1 < 3)), group(1, [], t))"}, {filter(op("and", key, op("=", col(0), col(1))), counted), "filter((c0 = c1), group(1, [], filter((c0 = 1), t)))"},
		{filter(lit(num(5)), counted), "filter(5, group(1, [], t))"}, {filter(lit(no), counted), "filter(false, group(1, [], t))"}, {filter(op("and", lit(no), key), counted), "filter(false, group(1, [], filter((c0 = 1), t)))"}, {filter(op("and", key, op("=", lit(num(1)), lit(num(1)))), counted), "filter((1 = 1), group(1, [], filter((c0 = 1), t)))"}, {filter(lit(yes), counted), "group(1, [], t)"},
		{filter(is(0, 7), all), "filter((c0 = 7), group(0, [c0], t))"}, {filter(lit(no), all), "filter(false, group(0, [c0], t))"}, {filter(is(1, 9), all), "filter((c1 = 9), group(0, [c0], t))"},
		{filter(op("=", col(0), col(1)), byBoth), "group(2, [], filter((c0 = c1), t))"}, {filter(op("and", is(1, 30), op("and", is(2, 4), is(0, 2))), byBoth), "filter((c2 = 4), group(2, [], filter(((c1 = 30) and (c0 = 2)), t)))"},
		{filter(op("and", key, count), group(1, nil, union(table("t"), table("e")))), "filter((c1 < 3), group(1, [], union(filter((c0 = 1), t), filter((c0 = 1), e))))"}, {filter(op("and", key, count), group(1, nil, counted)), "filter((c1 < 3), group(1, [], group(1, [], filter((c0 = 1), t))))"}, {filter(op("and", key, count), group(1, nil, filter(count, counted))), "filter((c1 < 3), group(1, [], filter((c1 < 3), group(1, [], filter((c0 = 1), t)))))"},
	})
}

func TestP6RulesWithinRules(t *testing.T) {
	a, trades := table("a"), table("t")
	one := is(0, 1)
	checkPushes(t, []pushCase{
		{filter(lit(yes), filter(lit(yes), filter(lit(yes), a))), "a"}, {filter(one, filter(lit(yes), a)), "filter((c0 = 1), a)"}, {filter(lit(yes), filter(one, a)), "filter((c0 = 1), a)"}, {distinct(filter(lit(yes), distinct(a))), "distinct(a)"}, {distinct(filter(one, distinct(a))), "distinct(filter((c0 = 1), a))"},
		{filter(is(0, 1), filter(is(0, 2), filter(is(0, 3), a))), "filter((((c0 = 3) and (c0 = 2)) and (c0 = 1)), a)"}, {filter(one, distinct(filter(is(0, 2), distinct(a)))), "distinct(filter(((c0 = 2) and (c0 = 1)), a))"},
		{project(exps(col(0)), filter(one, project(exps(col(1)), trades))), "project([c1], filter((c1 = 1), t))"}, {project(exps(op("+", col(0), lit(num(1)))), project(exps(op("+", col(0), lit(num(1)))), project(exps(op("+", col(0), lit(num(1)))), a))), "project([(((c0 + 1) + 1) + 1)], a)"},
		{filter(one, project(exps(col(1)), distinct(union(trades, table("e"))))), "project([c1], distinct(union(filter((c1 = 1), t), filter((c1 = 1), e))))"}, {union(filter(lit(yes), a), distinct(distinct(a))), "union(a, distinct(a))"},
		{group(0, nil, filter(one, union(filter(is(0, 2), a), a))), "group(0, [], union(filter(((c0 = 2) and (c0 = 1)), a), filter((c0 = 1), a)))"}, {filter(is(1, 4), project(exps(col(1), col(0)), group(1, nil, trades))), "project([c1, c0], group(1, [], filter((c0 = 4), t)))"},
		{filter(op("and", is(0, 2), is(1, 2)), project(exps(col(1), col(0)), group(1, nil, trades))), "project([c1, c0], filter((c1 = 2), group(1, [], filter((c0 = 2), t))))"}, {filter(op("=", col(0), lit(yes)), project(exps(lit(yes)), a)), "project([true], filter((true = true), a))"}, {filter(col(0), project(exps(lit(yes)), a)), "project([true], a)"}, {filter(col(0), project(exps(op("and", is(0, 1), is(2, 10))), join(lit(yes), a, trades))), "project([((c0 = 1) and (c2 = 10))], join(true, filter((c0 = 1), a), filter((c1 = 10), t)))"},
		{join(op("=", col(0), col(1)), filter(one, distinct(a)), filter(one, union(a, a))), "join((c0 = c1), distinct(filter((c0 = 1), a)), union(filter((c0 = 1), a), filter((c0 = 1), a)))"},
	})
}

func TestP6ChainsThatAreTooDeepAreNoRule(t *testing.T) {
	a, trades := table("a"), table("t")
	pairs := join(lit(yes), a, trades)
	top := func(depth int, e impl.Exp) impl.Exp { return below(depth, e) }
	deepest := impl.MaxDepth
	just := func(p impl.Plan, moves bool) {
		t.Helper()
		q := impl.Push(shopDb(), p)
		if impl.SamePlan(p, q) == moves {
			t.Errorf("%s: %s", impl.PlanText(p), impl.PlanText(q))
		}
		checkMeansTheSame(t, shopDb(), p, q)
	}
	just(filter(top(deepest-1, is(0, 1)), filter(is(0, 2), a)), false)
	just(filter(top(deepest-2, is(0, 1)), filter(is(0, 2), a)), true)
	just(filter(is(0, 2), filter(top(deepest-1, is(0, 1)), a)), false)
	just(filter(is(0, 2), filter(top(deepest-2, is(0, 1)), a)), true)
	just(filter(top(deepest, col(0)), filter(lit(yes), a)), true)
	just(filter(top(deepest, col(0)), filter(top(deepest, col(0)), a)), false)
	rightwards := func(deep impl.Exp, more ...impl.Exp) impl.Exp {
		e := more[len(more)-1]
		for i := len(more) - 2; i >= 0; i-- {
			e = op("and", more[i], e)
		}
		return op("and", deep, e)
	}
	ofFirst, ofSecond, ofBoth := top(deepest-2, is(0, 1)), top(deepest-2, is(1, 1)), top(deepest-2, op("=", col(0), col(1)))
	just(filter(rightwards(ofFirst, is(0, 2)), pairs), true)
	just(filter(rightwards(ofFirst, is(0, 2), is(0, 3)), pairs), false)
	just(filter(rightwards(ofFirst, is(0, 2), is(1, 3)), pairs), true)
	just(filter(rightwards(ofFirst, is(0, 2), lit(no)), pairs), false)
	just(filter(rightwards(ofSecond, is(1, 2), is(2, 3)), pairs), false)
	just(filter(rightwards(ofSecond, is(0, 2), is(2, 3)), pairs), true)
	just(filter(rightwards(ofBoth, op("<", col(0), col(1)), op("<", col(0), col(2)), is(0, 2)), pairs), false)
	just(filter(rightwards(ofBoth, op("<", col(0), col(1)), is(0, 2)), pairs), true)
	byKey, count := group(1, nil, trades), top(deepest-2, is(1, 1))
	just(filter(rightwards(ofFirst, is(0, 2), is(0, 3)), byKey), false)
	just(filter(rightwards(ofFirst, is(0, 2), is(1, 3)), byKey), true)
	just(filter(rightwards(count, is(1, 2), is(1, 3), is(0, 4)), byKey), false)
	just(filter(rightwards(count, is(1, 2), is(0, 4)), byKey), true)
	sum := op("+", col(0), lit(num(1)))
	just(filter(top(deepest, col(0)), project(exps(sum), a)), false)
	just(filter(top(deepest-1, col(0)), project(exps(sum), a)), true)
	just(filter(top(deepest, col(0)), project(exps(col(0), sum), a)), true)
	just(filter(top(deepest, col(1)), project(exps(col(0), sum), a)), false)
	just(filter(top(deepest, lit(no)), project(exps(sum), a)), true)
	just(project(exps(top(deepest, col(0))), project(exps(sum), a)), false)
	just(project(exps(top(deepest-1, col(0))), project(exps(sum), a)), true)
	just(project(exps(col(0), top(deepest, col(0))), project(exps(sum), a)), false)
	just(project(exps(top(deepest, col(0)), col(0)), project(exps(sum), a)), false)
	just(project(exps(top(deepest, col(1)), col(0)), project(exps(sum, col(0)), a)), true)
	just(filter(top(deepest, col(0)), union(a, a)), true)
	just(filter(top(deepest, col(0)), distinct(a)), true)
}

func TestP6RulesThatMakeAPlanTooDeep(t *testing.T) {
	trades, db := table("t"), shopDb()
	both := op("and", is(0, 1), op("<", col(1), lit(num(3))))
	at := func(depth int) impl.Plan { return filter(both, group(1, nil, tall(depth-2, trades, table("e")))) }
	deepest := at(impl.MaxPlan)
	checkPush(t, db, deepest, impl.PlanText(deepest))
	checkPush(t, db, at(impl.MaxPlan-1), impl.PlanText(filter(both.Kids[1], group(1, nil, pushedInto(tall(impl.MaxPlan-3, trades, table("e")), is(0, 1), mostPushes-1)))))
	beside := filter(both, group(1, nil, union(tall(impl.MaxPlan-3, trades, table("e")), filter(lit(yes), trades))))
	checkPush(t, db, beside, impl.PlanText(filter(both, group(1, nil, union(tall(impl.MaxPlan-3, trades, table("e")), trades)))))
	// Here the rule makes what is right by itself, but not where it stands: so all stays, a rule beside it too.
	whole := union(project(exps(col(0), col(1)), at(impl.MaxPlan-2)), filter(lit(yes), trades))
	checkPush(t, db, whole, impl.PlanText(whole))
	shallow := union(at(impl.MaxPlan-2), filter(lit(yes), trades))
	if got := impl.PlanText(impl.Push(db, shallow)); got == impl.PlanText(shallow) {
		t.Errorf("just so deep: %s", got)
	}
	pairs := filter(op("and", is(0, 1), op("=", col(0), col(1))), join(lit(yes), tall(impl.MaxPlan-2, table("a"), table("a")), trades))
	checkPush(t, db, pairs, impl.PlanText(pairs))
	aside := filter(op("and", is(1, 1), op("=", col(0), col(1))), join(lit(yes), tall(impl.MaxPlan-3, table("a"), table("a")), trades))
	checkPush(t, db, aside, "filter((c0 = c1), join(true, "+impl.PlanText(tall(impl.MaxPlan-3, table("a"), table("a")))+", filter((c0 = 1), t)))")
	noneLeft := filter(is(1, 1), join(lit(yes), tall(impl.MaxPlan-2, table("a"), table("a")), trades))
	checkPush(t, db, noneLeft, "join(true, "+impl.PlanText(tall(impl.MaxPlan-2, table("a"), table("a")))+", filter((c0 = 1), t))")
	full := filter(is(0, 1), tall(impl.MaxPlan-1, table("a"), table("a")))
	checkPush(t, db, full, impl.PlanText(pushedInto(full.Kids[0], is(0, 1), mostPushes)))
	checkPush(t, db, under(impl.MaxPlan, table("a")), "distinct(a)")
}

// pushedInto lays a filter of e as many plans below the top of p (unions and distincts) as there are, but no more than most.
func pushedInto(p impl.Plan, e impl.Exp, most int) impl.Plan {
	if most == 0 || p.Kind == impl.PlTable {
		return filter(e, p)
	}
	kids := []impl.Plan{}
	for _, kid := range p.Kids {
		kids = append(kids, pushedInto(kid, e, most-1))
	}
	p.Kids = kids
	return p
}

func TestP6SixRulesOneBehindTheOther(t *testing.T) {
	a := table("a")
	steps := func(count int, inner impl.Plan) impl.Plan {
		for i := range count {
			if i%2 == 0 {
				inner = project(exps(col(0)), inner)
			} else {
				inner = distinct(inner)
			}
		}
		return inner
	}
	e := is(0, 1)
	cases := []pushCase{}
	for count := range mostPushes + 1 {
		cases = append(cases, pushCase{filter(e, steps(count, a)), impl.PlanText(steps(count, filter(e, a)))})
	}
	six := steps(mostPushes, a)
	cases = append(cases, pushCase{filter(e, steps(mostPushes, distinct(a))), impl.PlanText(steps(mostPushes, filter(e, distinct(a))))})
	cases = append(cases, pushCase{filter(e, steps(mostPushes, union(a, a))), impl.PlanText(steps(mostPushes, filter(e, union(a, a))))})
	cases = append(cases, pushCase{union(filter(e, six), filter(e, six)), impl.PlanText(union(steps(mostPushes, filter(e, a)), steps(mostPushes, filter(e, a))))})
	cases = append(cases, pushCase{filter(e, steps(mostPushes-1, filter(is(0, 2), a))), impl.PlanText(steps(mostPushes-1, filter(op("and", is(0, 2), e), a)))})
	cases = append(cases, pushCase{filter(e, steps(mostPushes, filter(is(0, 2), a))), impl.PlanText(steps(mostPushes, filter(e, filter(is(0, 2), a))))})
	cases = append(cases, pushCase{filter(e, filter(is(0, 2), six)), impl.PlanText(steps(mostPushes, filter(e, filter(is(0, 2), a))))})
	checkPushes(t, cases)
}

func TestP6WrongInputsArePushedNowhere(t *testing.T) {
	db := shopDb()
	for _, p := range wrongShapes() {
		for _, q := range []impl.Plan{p, filter(lit(yes), p), distinct(distinct(p)), union(filter(lit(yes), table("a")), p), filter(is(0, 1), filter(is(0, 2), p))} {
			if got := impl.Push(db, q); !samePlanTree(got, q) || impl.Weight(db, q) != 0 {
				t.Errorf("%+v: %+v", q, got)
			}
		}
	}
	for _, p := range []impl.Plan{under(impl.MaxPlan+1, table("a")), under(100, table("a")), filter(lit(yes), under(impl.MaxPlan, table("a"))), filter(lit(yes), table("zz")), distinct(distinct(table("")))} {
		if got := impl.Push(db, p); !samePlanTree(got, p) || impl.Weight(db, p) != 0 {
			t.Errorf("%+v: %+v", p, got)
		}
		if got := impl.Push(nil, p); !samePlanTree(got, p) || impl.Weight(nil, p) != 0 {
			t.Errorf("without tables: %+v: %+v", p, got)
		}
	}
	// A database that is not DbOk has widths all the same, and by these alone plans are right.
	for i, wrong := range wrongDbs() {
		for _, r := range wrong {
			p := distinct(filter(lit(yes), distinct(table(r.Name))))
			want := p
			if impl.Width(wrong, p) >= 0 {
				want = distinct(table(r.Name))
			}
			if got := impl.Push(wrong, p); !samePlanTree(got, want) || impl.Weight(wrong, p) != 0 || impl.Weight(wrong, table(r.Name)) != 0 {
				t.Errorf("database %d: %+v", i, got)
			}
		}
	}
}

func TestP6PlansThatDoNotFit(t *testing.T) {
	db := []impl.Rel{rel("f", numbered(0, impl.MaxRows)), rel("n", numbered(0, 20)), rel("x", numbered(0, 21))}
	pairs, more := join(lit(yes), table("n"), table("n")), join(lit(yes), table("n"), table("x"))
	few := op("<", col(0), lit(num(3)))
	checkPush(t, db, filter(few, pairs), "join(true, filter((c0 < 3), n), n)")
	p := filter(few, more)
	checkPush(t, db, p, "join(true, filter((c0 < 3), n), x)")
	if impl.Fits(db, p) || !impl.Fits(db, impl.Push(db, p)) || impl.Weight(db, p) != 0 || impl.Weight(db, impl.Push(db, p)) != 3*21+20+21+20 {
		t.Error("too much ahead, and not behind")
	}
	checkPush(t, db, filter(lit(yes), more), "join(true, n, x)")
	for _, p := range []impl.Plan{more, distinct(more), filter(lit(no), more), union(pairs, more), group(0, nil, more), join(lit(no), table("f"), more), join(lit(yes), table("f"), table("n"))} {
		if impl.Weight(db, p) != 0 {
			t.Errorf("does not fit: %s", impl.PlanText(p))
		}
	}
	if impl.Weight(db, pairs) != 20*20+20+20 || impl.Weight(db, join(lit(no), table("f"), table("f"))) != impl.MaxRows*impl.MaxRows+2*impl.MaxRows {
		t.Error("just as many")
	}
}

// randomNested is mostly right, and made of what rules are about.
func randomNested(r *rand.Rand, db []impl.Rel, depth int) impl.Plan {
	if depth == 0 {
		return table(db[r.Intn(len(db))].Name)
	}
	p := randomNested(r, db, depth-1)
	width := max(impl.Width(db, p), 1)
	switch r.Intn(9) {
	case 0, 1, 2, 3:
		e := randomPart(r, width)
		for range r.Intn(4) {
			if r.Intn(2) == 0 {
				e = op("and", e, randomPart(r, width))
			} else {
				e = op("and", randomPart(r, width), e)
			}
		}
		return filter(e, p)
	case 4:
		list := exps(randomExp(r, 1, width))
		for range r.Intn(3) {
			list = append(list, col(r.Intn(width)))
		}
		return project(list, p)
	case 5:
		return distinct(p)
	case 6:
		return union(p, p)
	case 7:
		return join(randomPart(r, width), p, table(db[r.Intn(len(db))].Name))
	}
	list := exps()
	if r.Intn(2) == 0 {
		list = exps(randomExp(r, 1, width))
	}
	return group(r.Intn(width+1), list, p)
}

func randomPart(r *rand.Rand, width int) impl.Exp {
	switch r.Intn(6) {
	case 0:
		return lit([]impl.Value{yes, yes, no, null, num(5)}[r.Intn(5)])
	case 1:
		return op("=", lit(num(1)), lit(num(1)))
	case 2:
		return below(r.Intn(impl.MaxDepth-4), randomCondition(r, width))
	}
	return randomCondition(r, width)
}

func TestP6PushedAnswersTheSame(t *testing.T) {
	r := rand.New(rand.NewSource(11))
	pushed, fit, rows := 0, 0, 0
	for range 6000 {
		db := randomDb(r)
		p := randomNested(r, db, 1+r.Intn(impl.MaxPlan))
		if r.Intn(3) == 0 {
			p = randomPlan(r, db, 1+r.Intn(4))
		}
		q := impl.Push(db, p)
		if impl.Width(db, p) < 0 {
			if !samePlanTree(p, q) {
				t.Errorf("not right: %s", impl.PlanText(q))
			}
			continue
		}
		checkMeansTheSame(t, db, p, q)
		if t.Failed() {
			t.Fatalf("of %v", db)
		}
		if !impl.SamePlan(p, q) {
			pushed++
		}
		if impl.Fits(db, p) {
			fit++
			want, _ := meant(db, p)
			checkBag(t, impl.PlanText(q), impl.Answer(db, q), want.bag(impl.Width(db, p)))
			rows += len(want)
		}
	}
	if pushed < 2000 || fit < 3000 || rows < 8000 {
		t.Errorf("only %d pushed, %d fit, with %d rows", pushed, fit, rows)
	}
}

func TestP6Steps(t *testing.T) {
	a := table("a")
	for i, x := range []struct {
		p    impl.Plan
		want int
	}{
		{a, 1}, {impl.Plan{}, 1}, {filter(col(0), a), 2}, {union(a, a), 3}, {join(lit(yes), a, distinct(a)), 4}, {group(1, nil, union(union(a, a), union(a, filter(lit(yes), a)))), 9}, {under(impl.MaxPlan, a), 9}, {under(100, a), 101}, {distinct(), 1}, {union(), 1}, {union(a, a, a, distinct(a, a)), 7}, {impl.Plan{Kind: 9, Kids: []impl.Plan{a, {Kind: -1, Kids: []impl.Plan{a}}}}, 4}, {impl.Plan{Name: "a", Kids: []impl.Plan{a}}, 2},
	} {
		if got := impl.Steps(x.p); got != x.want {
			t.Errorf("case %d: %d, want %d", i, got, x.want)
		}
	}
	for count := range 40 {
		kids, want := []impl.Plan{}, 1
		for i := range count {
			kids = append(kids, under(i%3, a))
			want += 1 + i%3
		}
		if got := impl.Steps(union(kids...)); got != want {
			t.Errorf("%d kids: %d, want %d", count, got, want)
		}
	}
	if impl.Steps(union(make([]impl.Plan, 100000)...)) != 100001 {
		t.Error("very many kids")
	}
}

func TestP6Weight(t *testing.T) {
	a, people, trades := table("a"), table("p"), table("t")
	pairs := join(op("=", col(0), col(1)), a, trades)
	for _, x := range []struct {
		p    impl.Plan
		want int
	}{
		{a, 2}, {table("e"), 0}, {table("o"), 1}, {people, 3}, {trades, 4}, {filter(lit(no), trades), 8}, {filter(is(0, 1), a), 4}, {project(exps(lit(yes)), trades), 8}, {distinct(a), 4}, {group(0, nil, trades), 8}, {group(1, exps(col(1)), trades), 8},
		{pairs, 2*4 + 2 + 4}, {join(lit(no), a, trades), 2*4 + 2 + 4}, {join(lit(yes), trades, trades), 4*4 + 4 + 4}, {join(lit(yes), a, table("e")), 2}, {join(lit(yes), table("e"), a), 2}, {join(lit(yes), table("o"), table("o")), 1 + 1 + 1}, {join(lit(yes), a, table("o")), 2*1 + 2 + 1},
		{union(a, a), 2 + 2 + 2 + 2}, {union(trades, table("e")), 4 + 4}, {union(table("e"), trades), 4 + 4}, {union(a, project(exps(col(0)), trades)), 2 + 3 + 2 + (4 + 4)},
		{filter(lit(no), pairs), 3 + 14}, {distinct(filter(lit(no), pairs)), 0 + 3 + 14}, {project(exps(lit(yes)), project(exps(lit(yes)), trades)), 1 + 4 + 4}, {join(lit(yes), project(exps(lit(yes)), trades), distinct(people)), 1*3 + (4 + 4) + (3 + 3)}, {group(0, nil, union(a, a)), 2 + 8}, {join(lit(yes), pairs, pairs), 3*3 + 14 + 14},
		{union(filter(is(0, 1), a), filter(is(0, 1), a)), 1 + 1 + 4 + 4},
	} {
		if got := impl.Weight(shopDb(), x.p); got != x.want {
			t.Errorf("%s: %d, want %d", impl.PlanText(x.p), got, x.want)
		}
	}
	r := rand.New(rand.NewSource(12))
	for range 1000 {
		db := randomDb(r)
		p := randomPlan(r, db, r.Intn(5))
		want := 0
		if impl.Fits(db, p) {
			want = weightByHand(db, p)
		}
		if got := impl.Weight(db, p); got != want {
			t.Fatalf("%s: %d, want %d", impl.PlanText(p), got, want)
		}
	}
}

func weightByHand(db []impl.Rel, p impl.Plan) int {
	together, multiplied, weight := 0, 1, 0
	for _, kid := range p.Kids {
		rows := len(impl.Answer(db, kid).Rows)
		together, multiplied = together+rows, multiplied*rows
		weight += weightByHand(db, kid)
	}
	switch p.Kind {
	case impl.PlTable:
		return len(impl.Answer(db, p).Rows)
	case impl.PlJoin:
		return weight + multiplied
	}
	return weight + together
}

// planRoom lists the places of a plan's memory, list by list, with the spare room: those of plans, and those of expressions.
func planRoom(p impl.Plan) ([]*impl.Plan, []*impl.Exp) {
	places := []*impl.Plan{}
	all := p.Kids[:cap(p.Kids)]
	for i := range all {
		places = append(places, &all[i])
	}
	nodes := append(roomOf(p.Exp), roomOf(impl.Exp{Kids: p.Exps})...)
	for _, kid := range p.Kids {
		more, moreNodes := planRoom(kid)
		places, nodes = append(places, more...), append(nodes, moreNodes...)
	}
	return places, nodes
}

// checkPlanApart wants an answer whose lists share no memory, neither with each other nor with an argument.
func checkPlanApart(t *testing.T, what string, answer impl.Plan, arguments ...impl.Plan) {
	t.Helper()
	taken, takenNodes := map[*impl.Plan]bool{}, map[*impl.Exp]bool{}
	for _, p := range arguments {
		places, nodes := planRoom(p)
		for _, place := range places {
			taken[place] = true
		}
		for _, node := range nodes {
			takenNodes[node] = true
		}
	}
	places, nodes := planRoom(answer)
	for _, place := range places {
		if taken[place] {
			t.Fatalf("%s: an answer shares memory", what)
		}
		taken[place] = true
	}
	for _, node := range nodes {
		if takenNodes[node] {
			t.Fatalf("%s: an answer shares memory of expressions", what)
		}
		takenNodes[node] = true
	}
}

func checkFormsLeaveAsItIs(t *testing.T, given []impl.Rel, p impl.Plan) {
	t.Helper()
	db, plan := roomyDb(given), roomyPlan(p)
	wantDb, wantPlan := seenDb(db), seenPlan(plan)
	checkPlanApart(t, impl.PlanText(p), impl.Push(db, plan), plan)
	checkPlanApart(t, impl.PlanText(p), impl.Push(db, p), p)
	impl.Steps(plan)
	impl.Weight(db, plan)
	if !reflect.DeepEqual(seenDb(db), wantDb) || !reflect.DeepEqual(seenPlan(plan), wantPlan) {
		t.Errorf("an argument was written into: %s", impl.PlanText(p))
	}
}

func TestP13FormsAnswerAtAnyArguments(t *testing.T) {
	e := op("and", is(0, 1), op("and", is(1, 2), op("=", col(0), col(1))))
	shared := filter(e, table("t"))
	plans := []impl.Plan{filter(e, union(shared, shared)), filter(e, join(e, shared, shared)), filter(e, group(1, exps(e), shared)), filter(e, project(exps(e, e), shared)), project(exps(e, e), project(exps(e, e), shared)), distinct(distinct(shared)), filter(lit(yes), shared), filter(e, shared), filter(e, distinct(shared))}
	for _, x := range ordinaryPlans() {
		plans = append(plans, x.p, filter(is(0, 1), x.p), filter(lit(yes), distinct(x.p)))
	}
	for _, p := range plans {
		checkFormsLeaveAsItIs(t, shopDb(), p)
		checkFormsLeaveAsItIs(t, nil, p)
	}
	for _, p := range wrongShapes() {
		checkFormsLeaveAsItIs(t, shopDb(), p)
		checkFormsLeaveAsItIs(t, shopDb(), union(p, p))
	}
	for _, db := range wrongDbs() {
		for _, p := range []impl.Plan{table("a"), filter(lit(yes), table("a")), filter(is(0, 1), distinct(table("a"))), filter(is(0, 1), join(lit(yes), table("a"), table("b")))} {
			checkFormsLeaveAsItIs(t, db, p)
		}
	}
	heavy := is(0, 1)
	for range impl.MaxDepth - 1 {
		heavy = op("or", heavy, heavy)
	}
	checkFormsLeaveAsItIs(t, shopDb(), filter(heavy, union(union(table("a"), table("a")), table("a"))))
}

func TestP13FormsOfPlansWithoutEnd(t *testing.T) {
	shared, twenty := table("a"), table("a")
	for i := range 100 {
		shared = union(shared, shared)
		if i < 20 {
			twenty = shared
		}
	}
	for _, p := range []impl.Plan{ringPlan(1), ringPlan(3), shared, under(200000, table("a")), filter(ringExp(2), table("a")), project(exps(ringExp(1), ringExp(3)), table("a")), union(ringPlan(2), filter(ringExp(1), ringPlan(1)))} {
		if q := impl.Push(shopDb(), p); !impl.SamePlan(p, q) || impl.Weight(shopDb(), p) != 0 {
			t.Error("not right, and another form")
		}
		impl.Steps(p)
	}
	if impl.Steps(under(200000, table("a"))) != 200001 || impl.Steps(twenty) != 1<<21-1 {
		t.Error("steps of a deep plan, or of one with a list at many places")
	}
	if impl.Steps(shared) != -1 {
		t.Errorf("steps of a plan of 2 to the 101 less 1, around 64 bits: %d", impl.Steps(shared))
	}
}

func TestP13FormsAreTheSameEachTime(t *testing.T) {
	r := rand.New(rand.NewSource(13))
	for range 100 {
		db := randomDb(r)
		p := randomNested(r, db, 5)
		want, steps := impl.Push(db, p), impl.Steps(p)
		for range 5 {
			if !impl.SamePlan(impl.Push(db, p), want) || impl.Steps(p) != steps {
				t.Fatal(impl.PlanText(p))
			}
		}
	}
	if !slices.Equal(impl.Names(impl.Push(shopDb(), table("a"))), []string{"a"}) {
		t.Error("of one table")
	}
}
