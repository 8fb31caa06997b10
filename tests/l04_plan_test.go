package tests

import (
	"fmt"
	"math"
	"math/rand"
	"reflect"
	"slices"
	"strings"
	"testing"

	"loop.example/g00312/impl"
)

const (
	mostRels     = 20
	mostPlanText = 20
)

func rel(name string, b impl.Bag) impl.Rel { return impl.Rel{Name: name, Bag: b} }

func table(name string) impl.Plan { return impl.Plan{Kind: impl.PlTable, Name: name} }

func filter(e impl.Exp, kids ...impl.Plan) impl.Plan {
	return impl.Plan{Kind: impl.PlFilter, Exp: e, Kids: kids}
}

func project(exps []impl.Exp, kids ...impl.Plan) impl.Plan {
	return impl.Plan{Kind: impl.PlProject, Exps: exps, Kids: kids}
}

func join(e impl.Exp, kids ...impl.Plan) impl.Plan {
	return impl.Plan{Kind: impl.PlJoin, Exp: e, Kids: kids}
}

func union(kids ...impl.Plan) impl.Plan { return impl.Plan{Kind: impl.PlUnion, Kids: kids} }

func distinct(kids ...impl.Plan) impl.Plan { return impl.Plan{Kind: impl.PlDistinct, Kids: kids} }

func group(keys int, exps []impl.Exp, kids ...impl.Plan) impl.Plan {
	return impl.Plan{Kind: impl.PlGroup, N: keys, Exps: exps, Kids: kids}
}

func exps(list ...impl.Exp) []impl.Exp { return list }

// under has p just so deep below its top.
func under(depth int, p impl.Plan) impl.Plan {
	for range depth {
		p = distinct(p)
	}
	return p
}

// oneRow is a bag of one row of zero values of that width.
func oneRow(width int) impl.Bag { return bag(width, times(1, make([]impl.Value, width)...)) }

// shopDb: a has one column, e no row, o no column, p people, t trades.
func shopDb() []impl.Rel {
	return []impl.Rel{
		rel("a", bag(1, times(2, num(1)), times(1, num(2)))),
		rel("e", bag(2)),
		rel("o", bag(0, times(3))),
		rel("p", bag(3, times(1, num(1), text("ann"), null), times(1, num(2), text("bob"), num(30)), times(2, num(3), text("bob"), yes))),
		rel("t", bag(2, times(1, num(1), num(10)), times(1, num(1), num(20)), times(4, num(2), num(30)), times(1, num(3), num(-40)))),
	}
}

func wideDb() []impl.Rel {
	db := []impl.Rel{}
	for width := range impl.MaxWidth + 1 {
		db = append(db, rel("w"+string(rune('a'+width)), oneRow(width)))
	}
	return db
}

func wideTable(width int) impl.Plan { return table("w" + string(rune('a'+width))) }

// manyRels are so many relations, ascending by name.
func manyRels(count int) []impl.Rel {
	db := []impl.Rel{}
	for i := range count {
		db = append(db, rel("r"+string(rune('a'+i)), numbered(i, 2)))
	}
	return db
}

func TestP4RightAndWrongDatabases(t *testing.T) {
	for i, db := range [][]impl.Rel{nil, {}, {rel("a", bag(0))}, shopDb(), wideDb(), manyRels(mostRels), {rel("a", numbered(0, impl.MaxRows)), rel("a0", bag(1)), rel("aa", bag(2)), rel("abcdefghij", bag(impl.MaxWidth)), rel("b", bag(0))}} {
		if !impl.DbOk(db) {
			t.Errorf("right: %d", i)
		}
	}
	for i, db := range wrongDbs() {
		if impl.DbOk(db) {
			t.Errorf("wrong: %d", i)
		}
	}
}

func wrongDbs() [][]impl.Rel {
	list := [][]impl.Rel{
		manyRels(mostRels + 1), {rel("b", bag(1)), rel("a", bag(1))}, {rel("a", bag(1)), rel("a", bag(1))}, {rel("a", bag(1)), rel("b", bag(1)), rel("a", bag(1))}, {rel("a", bag(1)), rel("c", bag(1)), rel("b", bag(1))},
		{rel("a", bag(1, times(-1, num(1))))}, {rel("a", bag(1, times(1, num(1)), times(-1, num(2))))}, {rel("a", bag(1)), rel("b", bag(0, times(-1)))},
	}
	for _, name := range []string{"", "A", "1a", "a b", "a.b", "abcdefghijk", "\u00e9", "a\x00", "_"} {
		list = append(list, []impl.Rel{rel(name, bag(1))}, []impl.Rel{rel(name, bag(1)), rel("zz", bag(1))})
	}
	for _, b := range wrongBags() {
		list = append(list, []impl.Rel{rel("a", b)}, []impl.Rel{rel("a", bag(1)), rel("b", b)})
	}
	return list
}

type planCase struct {
	p    impl.Plan
	want impl.Bag
}

// ordinaryPlans are of shopDb.
func ordinaryPlans() []planCase {
	big := filter(op("<", lit(num(15)), col(1)), table("t"))
	pairs := join(op("=", col(0), col(1)), table("a"), table("t"))
	return []planCase{
		{table("a"), shopDb()[0].Bag}, {table("e"), bag(2)}, {table("o"), bag(0, times(3))}, {table("p"), shopDb()[3].Bag},
		{big, bag(2, times(1, num(1), num(20)), times(4, num(2), num(30)))}, {filter(lit(yes), table("p")), shopDb()[3].Bag}, {filter(lit(no), table("p")), bag(3)}, {filter(lit(null), table("p")), bag(3)},
		{filter(col(0), table("p")), bag(3)}, {filter(col(2), table("p")), bag(3, times(2, num(3), text("bob"), yes))}, {filter(isNull(col(2)), table("p")), bag(3, times(1, num(1), text("ann"), null))}, {filter(lit(yes), table("o")), bag(0, times(3))},
		{project(exps(col(0)), table("t")), bag(1, times(2, num(1)), times(4, num(2)), times(1, num(3)))}, {project(exps(col(1), col(1), lit(text("x"))), table("e")), bag(3)},
		{project(exps(col(1), lit(num(7))), table("p")), bag(2, times(1, text("ann"), num(7)), times(3, text("bob"), num(7)))}, {project(exps(op("-", lit(num(0)), col(0)), col(0)), table("a")), bag(2, times(1, num(-2), num(2)), times(2, num(-1), num(1)))},
		{project(exps(op("+", col(0), col(1))), table("p")), bag(1, times(4, null))}, {project(exps(lit(yes)), table("e")), bag(1)}, {project(exps(lit(yes)), table("o")), bag(1, times(3, yes))},
		{pairs, bag(3, times(2, num(1), num(1), num(10)), times(2, num(1), num(1), num(20)), times(4, num(2), num(2), num(30)))}, {join(lit(yes), table("a"), table("o")), bag(1, times(6, num(1)), times(3, num(2)))}, {join(lit(yes), table("o"), table("o")), bag(0, times(9))},
		{join(lit(yes), table("a"), table("e")), bag(3)}, {join(lit(null), table("a"), table("t")), bag(3)}, {join(lit(yes), table("a"), table("a")), bag(2, times(4, num(1), num(1)), times(2, num(1), num(2)), times(2, num(2), num(1)), times(1, num(2), num(2)))},
		{union(table("a"), table("a")), bag(1, times(4, num(1)), times(2, num(2)))}, {union(table("e"), table("t")), shopDb()[4].Bag}, {union(table("o"), table("o")), bag(0, times(6))},
		{union(table("a"), project(exps(col(0)), big)), bag(1, times(3, num(1)), times(5, num(2)))}, {distinct(table("a")), bag(1, times(1, num(1)), times(1, num(2)))}, {distinct(table("o")), bag(0, times(1))}, {distinct(table("e")), bag(2)},
		{union(distinct(table("a")), table("a")), bag(1, times(3, num(1)), times(2, num(2)))}, {distinct(union(table("a"), table("a"))), bag(1, times(1, num(1)), times(1, num(2)))},
		{group(1, nil, table("t")), bag(2, times(1, num(1), num(2)), times(1, num(2), num(4)), times(1, num(3), num(1)))}, {group(1, exps(col(1)), table("t")), bag(3, times(1, num(1), num(2), num(30)), times(1, num(2), num(4), num(120)), times(1, num(3), num(1), num(-40)))},
		{group(0, exps(op("*", col(0), col(1))), pairs), bag(2, times(1, num(8), num(2*1+2*1+4*4)))},
		{filter(op("<", lit(num(1)), col(1)), group(1, nil, project(exps(col(1)), table("p")))), bag(2, times(1, text("bob"), num(3)))},
		{group(1, exps(col(0)), distinct(join(op("<", col(0), col(1)), table("a"), table("t")))), bag(3, times(1, num(1), num(2), num(2)), times(1, num(2), num(1), num(2)))},
	}
}

func TestP4Answers(t *testing.T) {
	for _, x := range ordinaryPlans() {
		checkFits(t, shopDb(), x.p, x.want)
	}
}

func checkFits(t *testing.T, db []impl.Rel, p impl.Plan, want impl.Bag) {
	t.Helper()
	if !impl.Fits(db, p) || impl.Width(db, p) != want.Width {
		t.Errorf("%s: fits %v, width %d", impl.PlanText(p), impl.Fits(db, p), impl.Width(db, p))
	}
	checkBag(t, impl.PlanText(p), impl.Answer(db, p), want)
}

func checkNotRight(t *testing.T, db []impl.Rel, p impl.Plan) {
	t.Helper()
	if impl.Width(db, p) != -1 || impl.Fits(db, p) {
		t.Errorf("%+v: fits %v, width %d", p, impl.Fits(db, p), impl.Width(db, p))
	}
	checkBag(t, impl.PlanText(p), impl.Answer(db, p), bag(0))
}

// checkTooMuch wants a plan that is right and does not fit.
func checkTooMuch(t *testing.T, db []impl.Rel, p impl.Plan, width int) {
	t.Helper()
	if impl.Width(db, p) != width || impl.Fits(db, p) {
		t.Errorf("%s: fits %v, width %d", impl.PlanText(p), impl.Fits(db, p), impl.Width(db, p))
	}
	checkBag(t, impl.PlanText(p), impl.Answer(db, p), bag(width))
}

func TestP4Groups(t *testing.T) {
	huge := num(math.MaxInt)
	db := []impl.Rel{
		rel("big", bag(1, times(1, num(1)), times(1, huge))), rel("e", bag(2)), rel("low", bag(1, times(3, num(math.MinInt)))),
		rel("m", bag(2, times(2, null, num(5)), times(1, num(1), null), times(3, num(1), num(-2)), times(1, num(1), text("7")), times(4, yes, text("a")), times(1, yes, text("b")))),
		rel("most", bag(1, times(mostTimes, num(1)), times(mostTimes, huge))), rel("o", bag(0, times(3))),
	}
	rows := db[3].Bag.Rows
	for _, x := range []planCase{
		{group(0, nil, table("e")), bag(1)}, {group(0, exps(col(0)), table("e")), bag(2)}, {group(2, nil, table("e")), bag(3)}, {group(1, exps(lit(num(1))), filter(lit(no), table("m"))), bag(3)},
		{group(0, nil, table("m")), bag(1, times(1, num(12)))}, {group(0, exps(col(1)), table("m")), bag(2, times(1, num(12), num(2*5+3*-2)))}, {group(0, exps(lit(null)), table("m")), bag(2, times(1, num(12), null))},
		{group(0, nil, table("o")), bag(1, times(1, num(3)))}, {group(0, exps(lit(num(2))), table("o")), bag(2, times(1, num(3), num(6)))},
		{group(1, nil, table("m")), bag(2, times(1, null, num(2)), times(1, num(1), num(5)), times(1, yes, num(5)))},
		{group(1, exps(col(1)), table("m")), bag(3, times(1, null, num(2), num(10)), times(1, num(1), num(5), num(-6)), times(1, yes, num(5), null))},
		{group(1, exps(col(0)), table("m")), bag(3, times(1, null, num(2), null), times(1, num(1), num(5), num(5)), times(1, yes, num(5), null))},
		{group(2, nil, table("m")), bag(3, times(1, rows[0].Row[0], rows[0].Row[1], num(2)), times(1, num(1), null, num(1)), times(1, num(1), num(-2), num(3)), times(1, num(1), text("7"), num(1)), times(1, yes, text("a"), num(4)), times(1, yes, text("b"), num(1)))},
		{group(0, exps(lit(num(0))), table("m")), bag(2, times(1, num(12), num(0)))}, {group(0, exps(op("=", col(0), col(0))), table("m")), bag(2, times(1, num(12), null))},
		{group(0, exps(col(0)), table("big")), bag(2, times(1, num(2), num(math.MinInt)))}, {group(0, exps(col(0)), table("low")), bag(2, times(1, num(3), num(math.MinInt)))},
		{group(0, exps(col(0)), table("most")), bag(2, times(1, num(2*mostTimes), num(0)))}, {group(0, nil, table("most")), bag(1, times(1, num(2*mostTimes)))},
		{group(1, exps(col(0)), table("most")), bag(3, times(1, num(1), num(mostTimes), num(mostTimes)), times(1, huge, num(mostTimes), num(-mostTimes)))},
		{group(0, exps(col(0)), group(0, nil, table("most"))), bag(2, times(1, num(1), num(2*mostTimes)))},
	} {
		checkFits(t, db, x.p, x.want)
	}
	full := []impl.Rel{rel("f", impl.TimesBag(numbered(0, impl.MaxRows), mostTimes))}
	checkFits(t, full, group(0, nil, table("f")), bag(1, times(1, num(impl.MaxRows*mostTimes))))
	if got := impl.Answer(full, group(1, exps(col(0)), table("f"))); len(got.Rows) != impl.MaxRows || !impl.BagOk(got) {
		t.Error("as many groups as there may be")
	}
}

func TestP4MostColumns(t *testing.T) {
	db := wideDb()
	for width := range impl.MaxWidth + 1 {
		checkFits(t, db, wideTable(width), oneRow(width))
		checkFits(t, db, union(wideTable(width), distinct(wideTable(width))), impl.TimesBag(oneRow(width), 2))
		rest := impl.MaxWidth - width
		checkFits(t, db, join(lit(yes), wideTable(width), wideTable(rest)), oneRow(impl.MaxWidth))
		if rest < impl.MaxWidth {
			checkNotRight(t, db, join(lit(yes), wideTable(width), wideTable(rest+1)))
		}
		if width > 0 {
			checkFits(t, db, filter(isNull(col(width-1)), wideTable(width)), oneRow(width))
			checkFits(t, db, project(columns(width), wideTable(width)), oneRow(width))
		}
		if width < impl.MaxWidth {
			checkNotRight(t, db, filter(isNull(col(width)), wideTable(width)))
			checkNotRight(t, db, project(columns(width+1), wideTable(width)))
			checkNotRight(t, db, union(wideTable(width), wideTable(width+1)))
			checkNotRight(t, db, union(wideTable(width+1), wideTable(width)))
			checkNotRight(t, db, join(col(width), wideTable(width), wideTable(0)))
		}
		checkNotRight(t, db, group(width+1, nil, wideTable(width)))
	}
	thirteen := append(columns(impl.MaxWidth), col(0))
	checkNotRight(t, db, project(thirteen, wideTable(impl.MaxWidth)))
	checkNotRight(t, db, project(exps(col(0)), project(thirteen, wideTable(impl.MaxWidth))))
	checkNotRight(t, db, project(exps(col(0)), join(lit(yes), wideTable(6), wideTable(7))))
	checkNotRight(t, db, join(lit(yes), wideTable(12), wideTable(12)))
	checkFits(t, db, join(isNull(col(11)), wideTable(6), wideTable(6)), oneRow(12))
	checkFits(t, db, project(append(columns(11), lit(yes)), wideTable(11)), bag(12, times(1, append(make([]impl.Value, 11), yes)...)))
}

func TestP4MostColumnsOfGroups(t *testing.T) {
	db := wideDb()
	counted := func(keys int, more ...impl.Value) impl.Bag {
		return bag(keys+len(more), times(1, append(make([]impl.Value, keys), more...)...))
	}
	checkFits(t, db, group(11, nil, wideTable(11)), counted(11, num(1)))
	checkFits(t, db, group(11, nil, wideTable(12)), counted(11, num(1)))
	checkNotRight(t, db, group(12, nil, wideTable(12)))
	checkFits(t, db, group(10, exps(lit(num(4))), wideTable(12)), counted(10, num(1), num(4)))
	checkFits(t, db, group(10, exps(col(11)), wideTable(12)), counted(10, num(1), null))
	checkNotRight(t, db, group(11, exps(lit(num(4))), wideTable(12)))
	checkNotRight(t, db, group(12, exps(lit(num(4))), wideTable(12)))
	checkNotRight(t, db, group(1, exps(col(11)), wideTable(11)))
	checkNotRight(t, db, project(exps(col(0)), group(12, nil, wideTable(12))))
}

func TestP4DeepestPlans(t *testing.T) {
	db := shopDb()
	sides := func(depth int, make func(impl.Plan) impl.Plan) impl.Plan {
		p := table("a")
		for range depth {
			p = make(p)
		}
		return p
	}
	once := bag(1, times(1, num(1)), times(1, num(2)))
	checkFits(t, db, under(impl.MaxPlan, table("a")), once)
	checkNotRight(t, db, under(impl.MaxPlan+1, table("a")))
	checkNotRight(t, db, under(50, table("a")))
	for _, make := range []func(impl.Plan) impl.Plan{
		func(p impl.Plan) impl.Plan { return distinct(p) },
		func(p impl.Plan) impl.Plan { return filter(lit(yes), p) },
		func(p impl.Plan) impl.Plan { return project(exps(col(0)), p) },
		func(p impl.Plan) impl.Plan { return join(lit(yes), p, table("o")) },
		func(p impl.Plan) impl.Plan { return join(lit(yes), table("o"), p) },
		func(p impl.Plan) impl.Plan { return union(p, table("a")) },
		func(p impl.Plan) impl.Plan { return union(table("a"), p) },
		func(p impl.Plan) impl.Plan { return group(0, nil, p) },
	} {
		for _, depth := range []int{0, 1, impl.MaxPlan - 1, impl.MaxPlan} {
			if p := sides(depth, make); !impl.Fits(db, p) || impl.Width(db, p) != 1 {
				t.Errorf("%d deep: %s", depth, impl.PlanText(p))
			}
		}
		checkNotRight(t, db, sides(impl.MaxPlan+1, make))
	}
	checkNotRight(t, db, union(distinct(table("a")), under(impl.MaxPlan, table("a"))))
	checkFits(t, db, union(distinct(table("a")), under(impl.MaxPlan-1, table("a"))), impl.TimesBag(once, 2))
	checkFits(t, db, filter(below(impl.MaxDepth, lit(yes)), under(impl.MaxPlan-1, table("a"))), once)
	checkNotRight(t, db, filter(below(impl.MaxDepth+1, lit(yes)), table("a")))
}

func TestP4MostRows(t *testing.T) {
	db := []impl.Rel{rel("b", numbered(200, 200)), rel("c", numbered(300, 101)), rel("full", numbered(0, 400)), rel("n", numbered(0, 20)), rel("one", oneRow(1)), rel("x", numbered(0, 21)), rel("y", numbered(0, 200))}
	cross := func(a string, b string) impl.Plan { return join(lit(yes), table(a), table(b)) }
	pairs, more := cross("n", "n"), cross("n", "x")
	if got := impl.Answer(db, pairs); !impl.Fits(db, pairs) || len(got.Rows) != impl.MaxRows || !impl.BagOk(got) {
		t.Error("just as many by a join")
	}
	checkTooMuch(t, db, more, 2)
	checkTooMuch(t, db, cross("full", "full"), 2)
	checkFits(t, db, union(table("y"), table("b")), numbered(0, 400))
	checkFits(t, db, union(table("full"), table("full")), impl.TimesBag(numbered(0, 400), 2))
	checkTooMuch(t, db, union(table("full"), table("one")), 1)
	checkTooMuch(t, db, union(table("c"), table("full")), 1)
	checkTooMuch(t, db, union(table("y"), union(table("b"), table("c"))), 1)
	if !impl.Fits(db, join(op("=", col(0), col(1)), table("full"), table("full"))) || !impl.Fits(db, join(op("<", col(0), lit(num(20))), table("n"), table("n"))) {
		t.Error("a condition that leaves enough away")
	}
	last := join(op("or", op("=", col(0), col(1)), op("and", op("=", col(0), lit(num(399))), op("=", col(1), lit(num(0))))), table("full"), table("full"))
	checkTooMuch(t, db, last, 2)
	for _, p := range []impl.Plan{more, cross("full", "full"), last} {
		checkTooMuch(t, db, filter(lit(no), p), 2)
		checkTooMuch(t, db, project(exps(lit(yes)), p), 1)
		checkTooMuch(t, db, group(0, exps(col(0)), p), 2)
		checkTooMuch(t, db, distinct(p), 2)
		checkTooMuch(t, db, union(p, pairs), 2)
		checkTooMuch(t, db, union(pairs, p), 2)
		checkTooMuch(t, db, join(lit(no), table("one"), p), 3)
		checkTooMuch(t, db, join(lit(no), p, table("one")), 3)
	}
	for _, p := range []impl.Plan{filter(lit(yes), pairs), distinct(pairs), union(pairs, pairs), group(2, nil, pairs), project(exps(col(1), col(0)), pairs)} {
		if got := impl.Answer(db, p); !impl.Fits(db, p) || len(got.Rows) != impl.MaxRows {
			t.Errorf("just as many: %s", impl.PlanText(p))
		}
	}
}

func TestP4RowsThatAreThereTooOften(t *testing.T) {
	half := mostTimes / 2
	db := []impl.Rel{
		rel("half", bag(1, times(half, num(1)))), rel("more", bag(1, times(half+1, num(1)))), rel("most", bag(1, times(mostTimes, num(1)))), rel("one", bag(1, times(1, num(1)))),
		rel("other", bag(1, times(mostTimes, num(2)))), rel("root", bag(1, times(31622, num(1)))), rel("rootm", bag(1, times(31623, num(1)))), rel("twin", bag(1, times(2, num(1)))), rel("two", bag(2, times(half, num(1), num(1)), times(half+1, num(1), num(2)))),
	}
	half1, more1, most1 := table("half"), table("more"), table("most")
	checkFits(t, db, union(half1, half1), bag(1, times(mostTimes, num(1))))
	checkTooMuch(t, db, union(half1, more1), 1)
	checkTooMuch(t, db, union(more1, half1), 1)
	checkTooMuch(t, db, union(most1, table("one")), 1)
	checkTooMuch(t, db, distinct(union(most1, most1)), 1)
	checkTooMuch(t, db, filter(lit(no), union(most1, most1)), 1)
	checkTooMuch(t, db, group(0, nil, union(most1, most1)), 1)
	checkFits(t, db, union(most1, table("other")), bag(1, times(mostTimes, num(1)), times(mostTimes, num(2))))
	checkFits(t, db, join(lit(yes), half1, table("twin")), bag(2, times(mostTimes, num(1), num(1))))
	checkTooMuch(t, db, join(lit(yes), table("twin"), more1), 2)
	checkTooMuch(t, db, join(lit(yes), most1, most1), 2)
	checkTooMuch(t, db, distinct(join(lit(yes), most1, most1)), 2)
	checkFits(t, db, join(lit(no), most1, most1), bag(2))
	checkFits(t, db, join(lit(yes), table("root"), table("root")), bag(2, times(31622*31622, num(1), num(1))))
	checkTooMuch(t, db, join(lit(yes), table("rootm"), table("rootm")), 2)
	checkFits(t, db, project(exps(col(1)), table("two")), bag(1, times(half, num(1)), times(half+1, num(2))))
	checkTooMuch(t, db, project(exps(col(0)), table("two")), 1)
	checkTooMuch(t, db, project(exps(lit(yes)), union(most1, table("other"))), 1)
	checkFits(t, db, group(1, nil, table("two")), bag(2, times(1, num(1), num(mostTimes+1))))
	checkFits(t, db, group(0, exps(col(0)), table("two")), bag(2, times(1, num(mostTimes+1), num(mostTimes+1))))
}

// wrongShapes have each one part too many or too few, or one that its kind has not.
func wrongShapes() []impl.Plan {
	a, e := table("a"), exps(col(0))
	list := []impl.Plan{
		{}, table(""), table("zz"), table("A"), table("a "), table("aa"),
		filter(col(0)), filter(col(0), a, a), project(e), project(e, a, a), project(nil, a), project(exps(), a), join(col(0)), join(col(0), a), join(col(0), a, a, a),
		union(), union(a), union(a, a, a), union(a, table("t")), union(table("t"), a), distinct(), distinct(a, a), group(0, nil), group(0, nil, a, a), group(0, exps(col(0), col(0)), a), group(-1, nil, a), group(2, nil, a), group(math.MinInt, nil, a), group(math.MaxInt, nil, a), group(math.MaxInt, e, a),
		filter(col(1), a), project(exps(col(1)), a), project(exps(col(0), lit(yes), col(1)), a), join(col(2), a, a), group(0, exps(col(1)), a), filter(op("and", lit(no), not(col(1))), a), filter(col(0), table("o")),
	}
	for _, kind := range []int{-1, 7, 8, 256, math.MinInt, math.MaxInt} {
		list = append(list, impl.Plan{Kind: kind}, impl.Plan{Kind: kind, Name: "a"}, impl.Plan{Kind: kind, Kids: []impl.Plan{a}}, impl.Plan{Kind: kind, Kids: []impl.Plan{a, a}})
	}
	for _, p := range rightShapes() {
		list = append(list, spoiled(p)...)
	}
	for _, e := range wrongExps() {
		list = append(list, filter(e, a), project(exps(e), a), project(exps(col(0), e), a), join(e, a, a), group(0, exps(e), a))
	}
	return list
}

func rightShapes() []impl.Plan {
	a := table("a")
	return []impl.Plan{a, filter(lit(yes), a), project(exps(col(0)), a), join(lit(yes), a, a), union(a, a), distinct(a), group(1, exps(col(0)), a), group(0, nil, a)}
}

// spoiled gives a plan, one after the other, each part that its kind has not.
func spoiled(p impl.Plan) []impl.Plan {
	list := []impl.Plan{}
	add := func(change func(q *impl.Plan)) {
		q := p
		change(&q)
		list = append(list, q)
	}
	kind := p.Kind
	if kind != impl.PlTable {
		add(func(q *impl.Plan) { q.Name = "a" })
	} else {
		add(func(q *impl.Plan) { q.Kids = []impl.Plan{table("a")} })
	}
	if kind != impl.PlFilter && kind != impl.PlJoin {
		for _, e := range []impl.Exp{col(1), lit(null), {Op: "x"}, {V: yes}, {Kids: exps(col(0))}, lit(yes), not(col(0))} {
			add(func(q *impl.Plan) { q.Exp = e })
		}
	}
	if kind != impl.PlProject && kind != impl.PlGroup {
		add(func(q *impl.Plan) { q.Exps = exps(col(0)) })
	}
	if kind != impl.PlGroup {
		add(func(q *impl.Plan) { q.N = 1 })
		add(func(q *impl.Plan) { q.N = -1 })
	}
	add(func(q *impl.Plan) { q.Kids = append(slices.Clone(p.Kids), table("a")) })
	return list
}

func TestP4WrongPlans(t *testing.T) {
	db := shopDb()
	for _, p := range rightShapes() {
		if !impl.Fits(db, p) {
			t.Errorf("right: %s", impl.PlanText(p))
		}
	}
	for _, p := range wrongShapes() {
		checkNotRight(t, db, p)
		checkNotRight(t, db, distinct(p))
		checkNotRight(t, db, union(table("a"), p))
		checkNotRight(t, db, join(lit(no), p, table("a")))
		checkNotRight(t, db, filter(lit(no), group(0, nil, p)))
		checkNotRight(t, nil, p)
	}
	for _, p := range rightShapes() {
		checkNotRight(t, nil, p)
		checkNotRight(t, manyRels(mostRels), p)
	}
	empty := impl.Plan{Name: "a", Exp: impl.Exp{Kids: exps()}, Exps: exps(), Kids: []impl.Plan{}}
	checkFits(t, db, empty, db[0].Bag)
	tooMuch := []impl.Rel{rel("f", numbered(0, 400))}
	checkNotRight(t, tooMuch, union(join(lit(yes), table("f"), table("f")), table("f")))
}

func TestP4WrongDatabasesHaveNoAnswers(t *testing.T) {
	for i, db := range wrongDbs() {
		for _, r := range db {
			if p := table(r.Name); impl.Fits(db, p) || len(impl.Answer(db, p).Rows) != 0 || impl.Answer(db, p).Width != 0 {
				t.Errorf("database %d: %v", i, impl.Answer(db, p))
			}
		}
	}
	many := manyRels(mostRels)
	if p := table("rt"); !impl.Fits(many, p) || !sameBag(impl.Answer(many, p), numbered(19, 2)) {
		t.Error("the last of 20")
	}
	many = manyRels(mostRels + 1)
	if p := distinct(table("ru")); impl.Width(many, p) != 1 || impl.Fits(many, p) || impl.Answer(many, p).Width != 0 {
		t.Error("the last of 21")
	}
	for width, want := range map[int]int{-1: -1, -3: -1, math.MinInt: -1, 0: 0, 12: 12, 13: -1, math.MaxInt: -1} {
		if got := impl.Width([]impl.Rel{rel("a", bag(width))}, table("a")); got != want {
			t.Errorf("width %d: %d", width, got)
		}
	}
}

// A count of rows by their text: what a plan means is told here once more, by other means.
type counts map[string]impl.Counted

func (c counts) add(row []impl.Value, n int) {
	key := fmt.Sprint(row)
	c[key] = impl.Counted{Row: row, N: c[key].N + n}
}

func (c counts) fits() bool {
	for _, x := range c {
		if x.N > mostTimes {
			return false
		}
	}
	return len(c) <= impl.MaxRows
}

func (c counts) bag(width int) impl.Bag {
	b := bag(width)
	for _, x := range c {
		b.Rows = append(b.Rows, x)
	}
	slices.SortFunc(b.Rows, func(x impl.Counted, y impl.Counted) int { return impl.CompareRow(x.Row, y.Row) })
	return b
}

// meant tells the rows of a plan that is right, and whether it and all within it fit.
func meant(db []impl.Rel, p impl.Plan) (counts, bool) {
	out, kids, ok := counts{}, []counts{}, true
	for _, kid := range p.Kids {
		rows, fits := meant(db, kid)
		kids, ok = append(kids, rows), ok && fits
	}
	switch p.Kind {
	case impl.PlTable:
		for _, r := range db {
			for _, c := range r.Bag.Rows {
				if r.Name == p.Name {
					out.add(c.Row, c.N)
				}
			}
		}
	case impl.PlUnion:
		for _, c := range slices.Concat(kids[0].bag(0).Rows, kids[1].bag(0).Rows) {
			out.add(c.Row, c.N)
		}
	case impl.PlGroup:
		for _, c := range kids[0] {
			key := fmt.Sprint(c.Row[:p.N])
			out[key] = impl.Counted{N: 1, Row: regrouped(p, out[key].Row, c)}
		}
	case impl.PlJoin:
		for _, a := range kids[0] {
			for _, b := range kids[1] {
				if both := slices.Concat(a.Row, b.Row); impl.Eval(p.Exp, both) == yes {
					out.add(both, a.N*b.N)
				}
			}
		}
	default:
		for _, c := range kids[0] {
			meantOf(p, c, out)
		}
	}
	return out, ok && out.fits()
}

func meantOf(p impl.Plan, c impl.Counted, out counts) {
	switch p.Kind {
	case impl.PlFilter:
		if impl.Eval(p.Exp, c.Row) == yes {
			out.add(c.Row, c.N)
		}
	case impl.PlDistinct:
		out.add(c.Row, 1)
	case impl.PlProject:
		row := []impl.Value{}
		for _, e := range p.Exps {
			row = append(row, impl.Eval(e, c.Row))
		}
		out.add(row, c.N)
	}
}

// regrouped is a group's row (nil for none yet) with one more row in it.
func regrouped(p impl.Plan, old []impl.Value, c impl.Counted) []impl.Value {
	if old == nil {
		old = append(slices.Clone(c.Row[:p.N]), num(0))
		for range p.Exps {
			old = append(old, null)
		}
	}
	row := slices.Clone(old)
	row[p.N].N += c.N
	for _, e := range p.Exps {
		if v := impl.Eval(e, c.Row); v.Kind == impl.VInt {
			row[p.N+1] = num(row[p.N+1].N + v.N*c.N)
		}
	}
	return row
}

// randomPlain is a plain bag, mostly small; a large one makes joins that are too much.
func randomPlain(r *rand.Rand, width int) impl.Bag {
	rows := [][]impl.Value{}
	count := r.Intn(6)
	if r.Intn(4) == 0 {
		count = r.Intn(60)
	}
	for i := range count {
		row := randomRow(r, width)
		if width > 0 && count > 6 {
			row[0] = num(i)
		}
		rows = append(rows, row)
	}
	b := impl.BagOf(width, rows)
	if r.Intn(6) == 0 {
		b = impl.TimesBag(b, mostTimes/(1+r.Intn(3)+6*r.Intn(2)*count))
	}
	if !impl.Plain(b) {
		return bag(width)
	}
	return b
}

func randomDb(r *rand.Rand) []impl.Rel {
	return []impl.Rel{rel("a", randomPlain(r, 1)), rel("b", randomPlain(r, 2)), rel("c", randomPlain(r, 2)), rel("d", randomPlain(r, 3)), rel("z", randomPlain(r, 0))}
}

// randomPlan is mostly right: columns and widths are taken from the kids.
func randomPlan(r *rand.Rand, db []impl.Rel, depth int) impl.Plan {
	if depth == 0 || r.Intn(8) == 0 {
		return table(db[r.Intn(len(db))].Name)
	}
	a := randomPlan(r, db, depth-1)
	width := max(impl.Width(db, a), 1)
	switch r.Intn(7) {
	case 0:
		return filter(randomCondition(r, width), a)
	case 1, 2:
		list := exps(randomExp(r, 2, width))
		for range r.Intn(3) {
			list = append(list, col(r.Intn(width)))
		}
		return project(list, a)
	case 3:
		b := randomPlan(r, db, depth-1)
		return join(randomCondition(r, width+max(impl.Width(db, b), 0)), a, b)
	case 4:
		return union(a, randomUnder(r, db, width, depth))
	case 5:
		return distinct(a)
	}
	list := exps()
	if r.Intn(2) == 0 {
		list = exps(randomExp(r, 2, width))
	}
	return group(r.Intn(width+1), list, a)
}

func randomCondition(r *rand.Rand, width int) impl.Exp {
	if r.Intn(2) == 0 {
		return not(isNull(col(r.Intn(min(width, impl.MaxWidth)))))
	}
	return op([]string{"<", "="}[r.Intn(2)], col(r.Intn(min(width, impl.MaxWidth))), col(r.Intn(min(width, impl.MaxWidth))))
}

// randomUnder is a plan of that width, if one comes along.
func randomUnder(r *rand.Rand, db []impl.Rel, width int, depth int) impl.Plan {
	for range 20 {
		if p := randomPlan(r, db, depth-1); impl.Width(db, p) == width {
			return p
		}
	}
	return randomPlan(r, db, 1)
}

func TestP4AnswerHasItsPlansWidth(t *testing.T) {
	r := rand.New(rand.NewSource(7))
	right, tooMuch := 0, 0
	for range 4000 {
		db := randomDb(r)
		p := randomPlan(r, db, 1+r.Intn(4))
		width := impl.Width(db, p)
		if width < 0 {
			checkNotRight(t, db, p)
			continue
		}
		right++
		rows, fits := meant(db, p)
		if !fits {
			tooMuch++
			checkTooMuch(t, db, p, width)
			continue
		}
		checkFits(t, db, p, rows.bag(width))
		if b := impl.Answer(db, p); !impl.Plain(b) || b.Width != width {
			t.Fatalf("%s: %v", impl.PlanText(p), b)
		}
	}
	if right < 2500 || tooMuch < 50 {
		t.Errorf("only %d right ones, %d with too much", right, tooMuch)
	}
}

func TestP4UnionHasTheRowsOfBoth(t *testing.T) {
	r := rand.New(rand.NewSource(8))
	fit := 0
	for range 2000 {
		db := randomDb(r)
		a := randomPlan(r, db, r.Intn(4))
		b := randomUnder(r, db, impl.Width(db, a), 3)
		for _, p := range []impl.Plan{union(a, b), union(b, a), union(a, a)} {
			if !impl.Fits(db, p) {
				continue
			}
			fit++
			first, second, both := impl.Answer(db, p.Kids[0]), impl.Answer(db, p.Kids[1]), impl.Answer(db, p)
			if impl.SizeOf(both) != impl.SizeOf(first)+impl.SizeOf(second) || !sameBag(both, impl.AddBag(first, second)) {
				t.Fatalf("%s: %v and %v: %v", impl.PlanText(p), first, second, both)
			}
		}
	}
	if fit < 2000 {
		t.Errorf("only %d that fit", fit)
	}
}

func TestP4PlanText(t *testing.T) {
	a, b := table("a"), table("b2")
	sum := op("+", col(0), lit(num(1)))
	for _, x := range []struct {
		p    impl.Plan
		want string
	}{
		{a, "a"}, {b, "b2"}, {impl.Plan{}, ""}, {table("No name, this"), "No name, this"}, {filter(op("<", col(0), lit(text("it's"))), a), "filter((c0 < 'it''s'), a)"}, {project(exps(sum), a), "project([(c0 + 1)], a)"}, {project(exps(sum, col(11), lit(null)), a), "project([(c0 + 1), c11, null], a)"},
		{join(lit(yes), a, b), "join(true, a, b2)"}, {union(a, b), "union(a, b2)"}, {distinct(a), "distinct(a)"}, {group(0, nil, a), "group(0, [], a)"}, {group(12, exps(sum), a), "group(12, [(c0 + 1)], a)"},
		{group(1, exps(col(1)), project(exps(col(0), col(2)), filter(not(isNull(col(1))), join(op("=", col(0), col(1)), a, union(b, distinct(a)))))), "group(1, [c1], project([c0, c2], filter(not(isnull(c1)), join((c0 = c1), a, union(b2, distinct(a))))))"},
		{filter(col(0)), "filter(c0, )"}, {project(nil), "project([], )"}, {join(col(0)), "join(c0, )"}, {union(), "union()"}, {distinct(), "distinct()"}, {group(-7, nil), "group(-7, [], )"},
		{filter(col(0), a, b, a), "filter(c0, a, b2, a)"}, {project(exps(col(1)), a, b), "project([c1], a, b2)"}, {join(col(0), a), "join(c0, a)"}, {join(col(0), a, b, a), "join(c0, a, b2, a)"}, {union(a), "union(a)"}, {union(a, b, a, b), "union(a, b2, a, b2)"}, {distinct(a, b), "distinct(a, b2)"}, {group(1, exps(col(0), col(1)), a, b), "group(1, [c0, c1], a, b2)"},
		{filter(col(12), a), "filter(, a)"}, {filter(other(), a), "filter(, a)"}, {join(col(-1), a, b), "join(, a, b2)"}, {project(exps(col(12), col(0), other()), a), "project([, c0, ], a)"}, {group(1, exps(below(13, col(0))), a), "group(1, [], a)"},
		{impl.Plan{Kind: 7, Name: "a"}, ""}, {impl.Plan{Kind: -1, Kids: []impl.Plan{a}}, ""}, {union(impl.Plan{Kind: 7, Kids: []impl.Plan{a}}, a), "union(, a)"}, {distinct(impl.Plan{Kind: math.MinInt}), "distinct()"},
		{impl.Plan{Name: "a", Kids: []impl.Plan{b}, Exps: exps(col(0)), N: 4}, "a"}, {impl.Plan{Kind: impl.PlDistinct, Name: "x", Exp: col(4), Exps: exps(col(0)), N: 9, Kids: []impl.Plan{a}}, "distinct(a)"}, {impl.Plan{Kind: impl.PlFilter, Name: "x", Exps: exps(col(5)), N: 9, Kids: []impl.Plan{a}}, "filter(c0, a)"},
		{group(math.MinInt, nil, a), "group(-9223372036854775808, [], a)"},
	} {
		if got := impl.PlanText(x.p); got != x.want {
			t.Errorf("%+v: %q, want %q", x.p, got, x.want)
		}
	}
}

func TestP4PlanTextOfDeepPlans(t *testing.T) {
	told := func(depth int, inner string) string {
		return strings.Repeat("distinct(", depth) + inner + strings.Repeat(")", depth)
	}
	for depth := range mostPlanText + 1 {
		if got := impl.PlanText(under(depth, table("a"))); got != told(depth, "a") {
			t.Errorf("%d deep: %q", depth, got)
		}
	}
	for _, depth := range []int{mostPlanText + 1, mostPlanText + 2, 1000} {
		if got := impl.PlanText(under(depth, table("a"))); got != told(mostPlanText+1, "") {
			t.Errorf("%d deep: %q", depth, got)
		}
	}
	for _, x := range []struct {
		p     impl.Plan
		inner string
	}{
		{union(table("a"), table("b")), "union(, )"}, {filter(col(1), table("a")), "filter(c1, )"}, {join(col(1), table("a"), table("b")), "join(c1, , )"}, {group(2, exps(col(1)), table("a")), "group(2, [c1], )"}, {project(exps(col(1)), table("a")), "project([c1], )"},
	} {
		if got := impl.PlanText(under(mostPlanText, x.p)); got != told(mostPlanText, x.inner) {
			t.Errorf("kids one too deep: %q", got)
		}
		if got := impl.PlanText(under(mostPlanText+1, x.p)); got != told(mostPlanText+1, "") {
			t.Errorf("one too deep itself: %q", got)
		}
	}
	if got := impl.PlanText(union(under(mostPlanText, table("a")), table("b"))); got != "union("+told(mostPlanText, "")+", b)" {
		t.Errorf("one side too deep: %q", got)
	}
}

func samePlanTree(a impl.Plan, b impl.Plan) bool {
	return a.Kind == b.Kind && a.Name == b.Name && a.N == b.N && sameTree(a.Exp, b.Exp) && slices.EqualFunc(a.Exps, b.Exps, sameTree) && slices.EqualFunc(a.Kids, b.Kids, samePlanTree)
}

func TestP4SamePlan(t *testing.T) {
	a, b := table("a"), table("b")
	list := []impl.Plan{
		{}, a, b, {Name: "a", N: 1}, {Name: "a", Exp: col(1)}, {Name: "a", Exps: exps(col(0))}, {Name: "a", Kids: []impl.Plan{a}}, {Kind: 7, Name: "a"}, {Kind: 8, Name: "a"},
		filter(col(0), a), filter(col(1), a), filter(not(col(0)), a), filter(not(col(1)), a), filter(col(0), b), filter(col(0)), filter(col(0), a, a), distinct(), distinct(a), distinct(b), distinct(distinct(a)), distinct(a, a),
		union(a, b), union(b, a), union(a, a), union(a), union(distinct(a), b), union(a, distinct(b)), union(distinct(a), distinct()), union(distinct(), distinct(a)), join(lit(yes), a, b), join(lit(no), a, b), join(lit(num(1)), a, b),
		project(nil, a), project(exps(col(0)), a), project(exps(col(1)), a), project(exps(col(0), col(1)), a), project(exps(col(1), col(0)), a), project(exps(not(col(0))), a), group(0, nil, a), group(1, nil, a), group(0, exps(col(0)), a), group(0, exps(isNull(col(0))), a),
		under(60, a), under(60, b), under(61, a), filter(below(60, col(0)), a), filter(below(60, col(1)), a),
	}
	for i, p := range list {
		for k, q := range list {
			if impl.SamePlan(p, q) != (i == k) || impl.SamePlan(p, roomyPlan(q)) != (i == k) {
				t.Errorf("%+v %+v: %v", p, q, i != k)
			}
		}
	}
	empty := impl.Plan{Name: "a", Exp: impl.Exp{Kids: exps()}, Exps: exps(), Kids: []impl.Plan{}}
	if !impl.SamePlan(empty, a) || !impl.SamePlan(distinct(a), distinct(empty)) {
		t.Error("no list and an empty list")
	}
	shapes := wrongShapes()
	for i := range shapes {
		for _, k := range []int{i, (i + 1) % len(shapes), (i * 7) % len(shapes)} {
			if impl.SamePlan(shapes[i], shapes[k]) != samePlanTree(shapes[i], shapes[k]) {
				t.Errorf("%+v %+v", shapes[i], shapes[k])
			}
		}
	}
}

func TestP4Names(t *testing.T) {
	a, b, c := table("a"), table("b"), table("c")
	for _, x := range []struct {
		p    impl.Plan
		want []string
	}{
		{a, []string{"a"}}, {filter(col(0), b), []string{"b"}}, {union(b, a), []string{"a", "b"}}, {join(col(0), a, a), []string{"a"}}, {union(c, union(join(lit(yes), b, c), distinct(group(0, nil, a)))), []string{"a", "b", "c"}},
		{union(table("ab"), union(table("b"), union(table("a1"), table("a")))), []string{"a", "a1", "ab", "b"}}, {project(exps(col(0)), c), []string{"c"}},
		{distinct(), nil}, {union(), nil}, {impl.Plan{Kind: 7, Name: "a"}, nil}, {impl.Plan{Kind: impl.PlDistinct, Name: "a", Kids: []impl.Plan{b}}, []string{"b"}}, {impl.Plan{}, []string{""}}, {union(b, impl.Plan{}), []string{"", "b"}},
		{table("No name"), []string{"No name"}}, {impl.Plan{Kind: 7, Kids: []impl.Plan{c, a, b, a}}, []string{"a", "b", "c"}}, {impl.Plan{Name: "b", Kids: []impl.Plan{a}}, []string{"a", "b"}}, {under(60, c), []string{"c"}},
	} {
		if got := impl.Names(x.p); !slices.Equal(got, x.want) {
			t.Errorf("%s: %v, want %v", impl.PlanText(x.p), got, x.want)
		}
	}
}

// roomyPlan lays a plan out with spare room behind each list, filled with marks.
func roomyPlan(p impl.Plan) impl.Plan {
	kids := make([]impl.Plan, 0, len(p.Kids)+2)
	for _, kid := range p.Kids {
		kids = append(kids, roomyPlan(kid))
	}
	p.Kids = append(kids, table("mark"), table("mark"))[:len(p.Kids)]
	p.Exp = roomyExp(p.Exp)
	p.Exps = roomyExp(impl.Exp{Kids: p.Exps}).Kids
	return p
}

// seenPlan is all that can be read of a plan, its spare room too.
func seenPlan(p impl.Plan) impl.Plan {
	kids := []impl.Plan{}
	for _, kid := range p.Kids[:cap(p.Kids)] {
		kids = append(kids, seenPlan(kid))
	}
	p.Kids, p.Exp, p.Exps = kids, seenExp(p.Exp), seenExp(impl.Exp{Kids: p.Exps}).Kids
	return p
}

func roomyDb(db []impl.Rel) []impl.Rel {
	out := make([]impl.Rel, 0, len(db)+2)
	for _, r := range db {
		out = append(out, rel(r.Name, roomy(r.Bag)))
	}
	return append(out, rel("mark", bag(1)), rel("mark", bag(1)))[:len(db)]
}

func seenDb(db []impl.Rel) []impl.Rel {
	out := []impl.Rel{}
	for _, r := range db[:cap(db)] {
		out = append(out, rel(r.Name, seen(r.Bag)))
	}
	return out
}

func bagsOf(db []impl.Rel) []impl.Bag {
	out := []impl.Bag{}
	for _, r := range db {
		out = append(out, r.Bag)
	}
	return out
}

func checkPlanIsLeftAsItIs(t *testing.T, given []impl.Rel, p impl.Plan) {
	t.Helper()
	db, plan := roomyDb(given), roomyPlan(p)
	wantDb, wantPlan := seenDb(db), seenPlan(plan)
	impl.DbOk(db)
	impl.Width(db, plan)
	impl.Fits(db, plan)
	checkApart(t, impl.PlanText(plan), impl.Answer(db, plan), bagsOf(db)...)
	impl.SamePlan(plan, plan)
	names := impl.Names(plan)
	clear(names[:cap(names)])
	if !reflect.DeepEqual(seenDb(db), wantDb) || !reflect.DeepEqual(seenPlan(plan), wantPlan) {
		t.Errorf("an argument was written into: %s", impl.PlanText(p))
	}
}

func TestP13PlansAnswerAtAnyArguments(t *testing.T) {
	a := table("a")
	for _, x := range ordinaryPlans() {
		checkPlanIsLeftAsItIs(t, shopDb(), x.p)
		checkPlanIsLeftAsItIs(t, nil, x.p)
	}
	for _, p := range wrongShapes() {
		checkPlanIsLeftAsItIs(t, shopDb(), p)
	}
	for _, db := range wrongDbs() {
		for _, p := range []impl.Plan{a, table("b"), table(""), union(a, a), distinct(a), filter(lit(yes), a), group(0, exps(col(0)), a), join(lit(yes), a, table("b"))} {
			checkPlanIsLeftAsItIs(t, db, p)
		}
	}
	full := []impl.Rel{rel("a", numbered(0, impl.MaxRows))}
	for _, p := range rightShapes() {
		checkPlanIsLeftAsItIs(t, full, p)
	}
}

func TestP13PlansOfAnyDepth(t *testing.T) {
	const depth = 200000
	deep, chain := under(depth, table("a")), table("a")
	for range depth {
		chain = union(table("b"), chain)
	}
	for i, p := range []impl.Plan{deep, chain} {
		checkNotRight(t, shopDb(), p)
		if !impl.SamePlan(p, p) || impl.SamePlan(p, distinct(p)) || impl.SamePlan(deep, chain) || len(impl.Names(p)) != i+1 {
			t.Error("a deep one")
		}
	}
	if !impl.SamePlan(deep, under(depth, table("a"))) || impl.SamePlan(deep, under(depth, table("b"))) || impl.SamePlan(deep, under(depth+1, table("a"))) {
		t.Error("two deep ones")
	}
}

// ringPlan is a distinct of a distinct and so on without end: the last of so many has the first for its kid.
func ringPlan(length int) impl.Plan {
	last := make([]impl.Plan, 1)
	first := under(length-1, distinct(last...))
	last[0] = first
	return first
}

func TestP13PlansOfSharedLists(t *testing.T) {
	shared, same := table("a"), table("a")
	for range 100 {
		shared, same = union(shared, shared), union(same, same)
	}
	checkWidthAlone(t, shared)
	if !impl.SamePlan(shared, same) || impl.SamePlan(shared, union(same, same)) || !slices.Equal(impl.Names(shared), []string{"a"}) {
		t.Error("a list at many places")
	}
	for length := 1; length < 4; length++ {
		ring, twice := ringPlan(length), ringPlan(2*length)
		checkNotRight(t, shopDb(), ring)
		if !impl.SamePlan(ring, ring) || !impl.SamePlan(ring, twice) || impl.SamePlan(ring, under(50, table("a"))) || len(impl.Names(ring)) != 0 {
			t.Error("a list within itself")
		}
		if !slices.Equal(impl.Names(union(ring, table("b"))), []string{"b"}) {
			t.Error("a list within itself, and a table")
		}
	}
	endless := filter(ringExp(2), table("a"))
	checkNotRight(t, shopDb(), endless)
	checkNotRight(t, shopDb(), impl.Plan{Kind: impl.PlDistinct, Exp: ringExp(1), Kids: []impl.Plan{table("a")}})
	if !impl.SamePlan(endless, filter(ringExp(4), table("a"))) || impl.SamePlan(endless, filter(ringExp(4), table("b"))) || impl.PlanText(endless) != "filter(, a)" {
		t.Error("an expression within itself")
	}
}

// Unions of two that are told down to 20 below have 9 bytes each. Of three there would be more than can be told.
func TestP13TextsOfPlansWithoutEnd(t *testing.T) {
	shared := table("a")
	for range 100 {
		shared = union(shared, shared)
	}
	list := make([]impl.Plan, 2)
	ring := union(list...)
	list[0], list[1] = ring, ring
	for _, p := range []impl.Plan{shared, ring} {
		if s := impl.PlanText(p); len(s) != 9*(1<<21-1) || !strings.HasPrefix(s, strings.Repeat("union(", 21)+", ), union(, )), union(union(, ), ") {
			t.Errorf("%d bytes, %.200s", len(s), s)
		}
	}
	list = make([]impl.Plan, 5)
	wider := union(list...)
	for i := range list {
		list[i] = wider
	}
	wider.Kind = impl.PlJoin
	if s := impl.PlanText(wider); !strings.HasPrefix(s, "join(c0, "+strings.Repeat("union(", 20)+", , , , ), union(, , , , )") {
		t.Errorf("%d bytes, %.200s", len(s), s)
	}
}

// checkWidthAlone asks of a plan that is far too deep, without its text, which would have no end.
func checkWidthAlone(t *testing.T, p impl.Plan) {
	t.Helper()
	if impl.Width(shopDb(), p) != -1 || impl.Fits(shopDb(), p) || impl.Answer(shopDb(), p).Width != 0 {
		t.Error("too deep")
	}
}
