package tests

import (
	"fmt"
	"math"
	"math/rand"
	"reflect"
	"slices"
	"strings"
	"testing"

	"loop.example/g00312/impl"
)

// schema has columns with a blank between two.
func schema(name string, cols string) impl.Schema {
	return impl.Schema{Name: name, Cols: strings.Fields(cols)}
}

// marketSchemas are of marketDb.
func marketSchemas() []impl.Schema {
	return []impl.Schema{schema("a", "x"), schema("b", "x k"), schema("p", "id name age"), schema("t", "x y")}
}

func marketDb() []impl.Rel {
	return []impl.Rel{
		rel("a", bag(1, times(2, num(1)), times(1, num(2)))),
		rel("b", bag(2, times(1, null, text("none")), times(1, num(1), text("one")), times(2, num(2), text("two")))),
		rel("p", bag(3, times(1, num(1), text("ann"), null), times(1, num(2), text("bob"), num(30)), times(2, num(3), text("bob"), yes))),
		rel("t", bag(2, times(1, num(1), num(10)), times(1, num(1), num(20)), times(4, num(2), num(30)), times(1, num(3), num(-40)))),
	}
}

// numberedCols are so many columns: the letter, and a number each.
func numberedCols(letter string, count int) string {
	names := []string{}
	for i := range count {
		names = append(names, letter+impl.DecText(i))
	}
	return strings.Join(names, " ")
}

// manySchemas are so many, ascending by name.
func manySchemas(count int) []impl.Schema {
	list := []impl.Schema{}
	for _, r := range manyRels(count) {
		list = append(list, schema(r.Name, "x"))
	}
	return list
}

// emptyDb has a table without rows for each schema.
func emptyDb(list []impl.Schema) []impl.Rel {
	db := []impl.Rel{}
	for _, s := range list {
		db = append(db, rel(s.Name, bag(len(s.Cols))))
	}
	return db
}

// tell has a semicolon between two rows.
func tell(b impl.Bag) string {
	return strings.ReplaceAll(strings.TrimSuffix(impl.BagText(b), "\n"), "\n", ";")
}

func mustRead(t *testing.T, s string) impl.Select {
	t.Helper()
	q, ok := impl.ParseQuery(s)
	if !ok {
		t.Fatalf("%q is no question", s)
	}
	return q
}

// checkPlanOf wants a question that is bound: it asks for that plan and these names, as many as there are columns.
func checkPlanOf(t *testing.T, list []impl.Schema, q impl.Select, plan string, names string) impl.Plan {
	t.Helper()
	p, got, code := impl.Bind(list, q)
	if code != impl.BindOk || impl.PlanText(p) != plan || strings.Join(got, ",") != names {
		t.Errorf("%s: %s with %v, code %d, want %s with %s", impl.ShowQuery(q), impl.PlanText(p), got, code, plan, names)
	}
	checkAsWideAsNamed(t, list, p, got)
	return p
}

func checkAsWideAsNamed(t *testing.T, list []impl.Schema, p impl.Plan, names []string) {
	t.Helper()
	if width := impl.Width(emptyDb(list), p); width != len(names) {
		t.Errorf("%s: %d columns, and names %v", impl.PlanText(p), width, names)
	}
}

// checkAnswer wants a question's text over the market.
func checkAnswer(t *testing.T, s string, plan string, names string, answer string) {
	t.Helper()
	p := checkPlanOf(t, marketSchemas(), mustRead(t, s), plan, names)
	if got := tell(impl.Answer(marketDb(), p)); !impl.Fits(marketDb(), p) || got != answer {
		t.Errorf("%s: %s, want %s", s, got, answer)
	}
}

func checkCode(t *testing.T, list []impl.Schema, q impl.Select, want int) {
	t.Helper()
	p, names, code := impl.Bind(list, q)
	if code != want || len(names) != 0 || !samePlanTree(p, impl.Plan{}) {
		t.Errorf("%.300s: %q, want %q (%s with %v)", impl.ShowQuery(q), impl.CodeText(code), impl.CodeText(want), impl.PlanText(p), names)
	}
}

// checkRefused wants a question's text over the market.
func checkRefused(t *testing.T, s string, want int) {
	t.Helper()
	checkCode(t, marketSchemas(), mustRead(t, s), want)
}

func TestP9OrdinaryQuestions(t *testing.T) {
	for _, x := range [][]string{
		{"select * from t", "t", "x,y", "1x 1,10;1x 1,20;4x 2,30;1x 3,-40"},
		{"select distinct * from a", "distinct(a)", "x", "1x 1;1x 2"},
		{"select * from a, b", "join(true, a, b)", "x,x,k", "2x 1,null,'none';2x 1,1,'one';4x 1,2,'two';1x 2,null,'none';1x 2,1,'one';2x 2,2,'two'"},
		{"select * from b, a where a.x = b.x", "filter((c2 = c0), join(true, b, a))", "x,k,x", "2x 1,'one',1;2x 2,'two',2"},
		{"select x from t", "project([c0], t)", "x", "2x 1;4x 2;1x 3"},
		{"select y, x + 1 from t", "project([c1, (c0 + 1)], t)", "y,c1", "1x -40,4;1x 10,2;1x 20,2;4x 30,3"},
		{"select t.y, t.x, 'a', null from t where not t.x = 1", "project([c1, c0, 'a', null], filter(not((c0 = 1)), t))", "y,x,c2,c3", "1x -40,3,'a',null;4x 30,2,'a',null"},
		{"select x from t where y > 15 and x < 3", "project([c0], filter(((15 < c1) and (c0 < 3)), t))", "x", "1x 1;4x 2"},
		{"select name ~ 'n', age is null, id * id - 1 from p", "project([(c1 ~ 'n'), isnull(c2), ((c0 * c0) - 1)], p)", "c0,c1,c2", "1x false,false,3;2x false,false,8;1x true,true,0"},
		{"select distinct name from p where id / 2 = 1 or name = 'ann'", "distinct(project([c1], filter((((c0 / 2) = 1) or (c1 = 'ann')), p)))", "name", "1x 'ann';1x 'bob'"},
		{"select distinct t.x, k from t, b where t.x = b.x", "distinct(project([c0, c3], filter((c0 = c2), join(true, t, b))))", "x,k", "1x 1,'one';1x 2,'two'"},
		{"select x, x, t.x from t where false", "project([c0, c0, c0], filter(false, t))", "x,x,x", ""},
		{"select 1 from t", "project([1], t)", "c0", "7x 1"},
		{"select a.x, b.k, p.name, y from a, b, p, t where a.x = b.x and b.x = t.x and p.id = a.x", "project([c0, c2, c4, c7], filter((((c0 = c1) and (c1 = c6)) and (c3 = c0)), join(true, join(true, join(true, a, b), p), t)))", "x,k,name,y", "2x 1,'one','ann',10;2x 1,'one','ann',20;8x 2,'two','bob',30"},
	} {
		checkAnswer(t, x[0], x[1], x[2], x[3])
	}
}

func TestP9Groups(t *testing.T) {
	for _, x := range [][]string{
		{"select x, count(*) from t group by x", "group(1, [], project([c0], t))", "x,count", "1x 1,2;1x 2,4;1x 3,1"},
		{"select x, count(*), sum(y) from t group by x", "group(1, [c1], project([c0, c1], t))", "x,count,sum", "1x 1,2,30;1x 2,4,120;1x 3,1,-40"},
		{"select y, x, count(*) from t where x < 3 group by y, x", "group(2, [], project([c1, c0], filter((c0 < 3), t)))", "y,x,count", "1x 10,1,1;1x 20,1,1;1x 30,2,4"},
		{"select name, count(*) from p group by name", "group(1, [], project([c1], p))", "name,count", "1x 'ann',1;1x 'bob',3"},
		{"select name, count(*), sum(age) from p group by name", "group(1, [c1], project([c1, c2], p))", "name,count,sum", "1x 'ann',1,null;1x 'bob',3,30"},
		{"select x, t.x, count(*), sum(1) from t group by x, t.x", "group(2, [c2], project([c0, c0, 1], t))", "x,x,count,sum", "1x 1,1,2,2;1x 2,2,4,4;1x 3,3,1,1"},
		{"select k, t.x, count(*), sum(y * 2 + a.x) from t, b, a where t.x = b.x and a.x = t.x group by k, t.x", "group(2, [c2], project([c3, c0, ((c1 * 2) + c4)], filter(((c0 = c2) and (c4 = c0)), join(true, join(true, t, b), a))))", "k,x,count,sum", "1x 'one',1,4,124;1x 'two',2,8,496"},
		{"select distinct x, count(*) from a group by x", "distinct(group(1, [], project([c0], a)))", "x,count", "1x 1,2;1x 2,1"},
		{"select distinct x, count(*), sum(x - x) from a where null group by x", "distinct(group(1, [c1], project([c0, (c0 - c0)], filter(null, a))))", "x,count,sum", ""},
	} {
		checkAnswer(t, x[0], x[1], x[2], x[3])
	}
}

func TestP9Unions(t *testing.T) {
	for _, x := range [][]string{
		{"select x from t union all select k from b", "union(project([c0], t), project([c1], b))", "x", "2x 1;4x 2;1x 3;1x 'none';1x 'one';2x 'two'"},
		{"select y from t union all select * from a", "union(project([c1], t), a)", "y", "1x -40;2x 1;1x 2;1x 10;1x 20;4x 30"},
		{"select * from a union all select * from a", "union(a, a)", "x", "4x 1;2x 2"},
		{"select distinct * from a union all select * from a", "union(distinct(a), a)", "x", "3x 1;2x 2"},
		{"select * from a union all select distinct * from a", "union(a, distinct(a))", "x", "3x 1;2x 2"},
		{"select x from a union all select distinct x from t union all select x from b where x is null", "union(project([c0], a), union(distinct(project([c0], t)), project([c0], filter(isnull(c0), b))))", "x", "1x null;3x 1;2x 2;1x 3"},
		{"select x, count(*) from a group by x union all select id, age from p where name = 'bob' union all select * from t where y = 10 union all select 7, 8 from a", "union(group(1, [], project([c0], a)), union(project([c0, c2], filter((c1 = 'bob'), p)), union(filter((c1 = 10), t), project([7, 8], a))))", "x,count", "1x 1,2;1x 1,10;1x 2,1;1x 2,30;2x 3,true;3x 7,8"},
		{"select 1, y from t where x = 3 union all select x, count(*) from a group by x", "union(project([1, c1], filter((c0 = 3), t)), group(1, [], project([c0], a)))", "c0,y", "1x 1,-40;1x 1,2;1x 2,1"},
	} {
		checkAnswer(t, x[0], x[1], x[2], x[3])
	}
}

func TestP9NamesOfColumns(t *testing.T) {
	wide := []impl.Schema{schema("a", "c0 count sum"), schema("w", numberedCols("z", impl.MaxWidth))}
	for _, x := range [][]string{
		{"select * from a", "a", "c0,count,sum"},
		{"select z11, w.z0, z1 + z2, not z3, z4 is null, true, (w.z5), 'w.z6', -1, z7 from w", "project([c11, c0, (c1 + c2), not(c3), isnull(c4), true, c5, 'w.z6', -1, c7], w)", "z11,z0,c2,c3,c4,c5,z5,c7,c8,z7"},
		{"select 1, c0, a.c0 from a", "project([1, c0, c0], a)", "c0,c0,c0"},
		{"select z0, w.z1, count(*), sum(z2) from w group by z0, w.z1 union all select z0, z1, z2, z3 from w", "union(group(2, [c2], project([c0, c1, c2], w)), project([c0, c1, c2, c3], w))", "z0,z1,count,sum"},
		{"select 1, 2, 3, 4 from w union all select z0, w.z1, count(*), sum(z2) from w group by z0, w.z1", "union(project([1, 2, 3, 4], w), group(2, [c2], project([c0, c1, c2], w)))", "c0,c1,c2,c3"},
	} {
		checkPlanOf(t, wide, mustRead(t, x[0]), x[1], x[2])
	}
	// What was never read may have more than names to group by.
	from := []string{"a"}
	a, count := aname("a.c0"), aname("count")
	checkPlanOf(t, wide, impl.Select{From: from, Group: asts(avalue(num(7)), a, aop("+", a, count)), Sum: asts(count)}, "group(3, [c3], project([7, c0, (c0 + c1), c1], a))", "c0,c0,c2,count,sum")
	// The words of the language are names to schemas.
	words := []impl.Schema{schema("select", "from where")}
	checkPlanOf(t, words, impl.Select{From: []string{"select"}, Items: anames("where select.from")}, "project([c1, c0], select)", "where,from")
}

func TestP9RightAndWrongSchemas(t *testing.T) {
	right := [][]impl.Schema{
		nil, {}, marketSchemas(), manySchemas(mostRels), {schema("abcdefghij", "abcdefghij")}, {schema("a", numberedCols("c", impl.MaxWidth))}, {schema("a", "a"), schema("aa", "a")}, {schema("a9", "x"), schema("aa", "x")}, {schema("a", "x x0 x1")}, {schema("from", "select all")},
	}
	for i, list := range right {
		if !impl.SchemasOk(list) {
			t.Errorf("right: %d", i)
		}
	}
	for i, list := range wrongSchemas() {
		if impl.SchemasOk(list) {
			t.Errorf("wrong: %d: %v", i, list)
		}
		checkCode(t, list, impl.Select{}, impl.Shape)
		checkCode(t, list, impl.Select{Star: true, From: []string{"nowhere"}}, impl.Shape)
		for _, s := range list {
			checkCode(t, list, impl.Select{Star: true, From: []string{s.Name}}, impl.Shape)
			checkCode(t, list, impl.Select{Items: asts(avalue(null)), From: []string{s.Name}}, impl.Shape)
			checkCode(t, list, impl.Select{Items: anames("nothing"), From: []string{s.Name}}, impl.Shape)
		}
	}
	last := manySchemas(mostRels)
	checkPlanOf(t, last, impl.Select{Star: true, From: []string{last[mostRels-1].Name}}, last[mostRels-1].Name, "x")
	if _, _, code := impl.Bind(nil, impl.Select{Star: true, From: []string{"a"}}); code != impl.NoTable {
		t.Error("no schemas at all", code)
	}
}

func wrongSchemas() [][]impl.Schema {
	list := [][]impl.Schema{
		manySchemas(mostRels + 1), {schema("b", "x"), schema("a", "x")}, {schema("a", "x"), schema("a", "x")}, {schema("a", "x"), schema("a", "y")}, {schema("a", "x"), schema("c", "x"), schema("b", "x")}, {schema("a", "x"), schema("b", "x"), schema("a", "x")}, {schema("aa", "x"), schema("a9", "x")},
		{schema("a", "")}, {schema("a", "x"), schema("b", "")}, {schema("a", ""), schema("b", "x")}, {schema("a", numberedCols("c", impl.MaxWidth+1))}, {schema("a", "x"), schema("b", numberedCols("c", impl.MaxWidth+1))}, {schema("a", numberedCols("c", 1000))},
		{schema("a", "x x")}, {schema("a", "x y x")}, {schema("a", "x y y")}, {schema("a", "x"), schema("b", "y x z x")}, {schema("a", numberedCols("c", impl.MaxWidth-1)+" c0")},
	}
	for _, name := range []string{"", "A", "1a", "a b", "a.b", ".", "abcdefghijk", "\u00e9", "a\x00", "_", "*"} {
		list = append(list, []impl.Schema{schema(name, "x")}, []impl.Schema{schema(name, "x"), schema("zz", "x")}, []impl.Schema{{Name: "a", Cols: []string{name}}}, []impl.Schema{{Name: "a", Cols: []string{"x", name, "y"}}}, []impl.Schema{schema("a", "x"), {Name: "b", Cols: []string{"x", name}}})
	}
	return list
}

func TestP9QuestionsOutOfShape(t *testing.T) {
	x, from := asts(aname("t.x")), []string{"t"}
	star := impl.Select{Star: true, From: from}
	one := impl.Select{Items: x, From: from}
	for _, q := range []impl.Select{
		{}, {From: from}, {Distinct: true, From: from}, {From: from, Where: x}, {From: from, Sum: x}, {From: from, Next: []impl.Select{star}},
		{Star: true, Items: x, From: from}, {Star: true, Group: x, From: from}, {Items: x, Group: x, From: from}, {Star: true, Items: x, Group: x, From: from}, {Star: true, Items: x, Group: x, Sum: x, From: from},
		{Star: true}, {Items: x}, {Group: x}, {Group: x, Sum: x}, {Star: true, From: []string{}}, {Items: asts(avalue(yes))}, {Star: true, Where: asts(avalue(yes))},
		{Star: true, From: from, Where: asts(avalue(yes), avalue(yes))}, {Items: x, From: from, Where: slices.Repeat(x, 3)}, {Group: x, From: from, Where: slices.Repeat(x, 2)},
		{Group: x, From: from, Sum: slices.Repeat(x, 2)}, {Group: x, From: from, Sum: slices.Repeat(x, 3)},
		{Star: true, From: from, Next: []impl.Select{star, star}}, {Items: x, From: from, Next: []impl.Select{one, one}}, {Items: x, From: from, Next: []impl.Select{one, one, one}},
		{Star: true, From: from, Sum: x}, {Items: x, From: from, Sum: x}, {Items: x, From: from, Sum: slices.Repeat(x, 2)}, {Items: x, Distinct: true, From: from, Where: x, Sum: x},
	} {
		checkCode(t, marketSchemas(), q, impl.Shape)
		// These are ahead of a table that is none, and of a name.
		if len(q.From) > 0 {
			q.From = []string{"nowhere"}
			checkCode(t, marketSchemas(), q, impl.Shape)
		}
		q.From, q.Where = from, append(anames("nothing"), q.Where...)
		if len(q.Where) > 1 {
			checkCode(t, marketSchemas(), q, impl.Shape)
		}
	}
	checkCode(t, marketSchemas(), impl.Select{Items: x, From: from, Next: []impl.Select{{Items: x, From: from, Next: []impl.Select{one, one}}}}, impl.Shape)
	checkPlanOf(t, marketSchemas(), star, "t", "x,y")
	checkPlanOf(t, marketSchemas(), one, "project([c0], t)", "x")
	checkPlanOf(t, marketSchemas(), impl.Select{Group: x, Sum: x, Where: x, From: from}, "group(1, [c1], project([c0, c0], filter(c0, t)))", "x,count,sum")
}

func TestP9TablesThatAreNone(t *testing.T) {
	for _, s := range []string{"select * from zz", "select x from zz", "select * from t, zz", "select * from zz, t", "select * from a, b, p, tt", "select * from a, b, zz, t", "select zz.x from zz", "select nothing from zz", "select x from t, b, zz", "select x, count(*) from zz group by x", "select * from x", "select * from t union all select x, x from zz", "select * from t union all select x from zz"} {
		checkRefused(t, s, impl.NoTable)
	}
	for _, name := range []string{"", "T", "t ", " t", "t.x", "x", "tt", "t\x00", "*", "\u00e9", strings.Repeat("t", 1000)} {
		for _, from := range [][]string{{name}, {"t", name}, {name, "t"}, {"a", "b", "p", "t", name}, {"w", "w", name}} {
			checkCode(t, append(marketSchemas(), schema("w", numberedCols("z", impl.MaxWidth))), impl.Select{Star: true, From: from}, impl.NoTable)
		}
	}
}

func TestP9ATableThatStandsTwice(t *testing.T) {
	for _, s := range []string{
		"select x from t, t", "select t.x from t, t", "select y from t, t", "select t.y from t, t", "select t.x + 1 from t, t", "select * from t, t where t.x = 1", "select * from t, t where x = 1", "select t.x, count(*) from t, t group by t.x", "select y, count(*) from t, t group by y", "select k, count(*), sum(t.y) from t, b, t group by k", "select k, count(*), sum(y) from t, b, t group by k",
		"select a.x from a, t, a", "select y from t, a, t", "select t.y from t, a, t", "select t.y from a, t, t, t", "select k, t.x from b, t, t",
	} {
		checkRefused(t, s, impl.Twice)
	}
	for _, s := range []string{"select z from t, t", "select t.z from t, t", "select b.x from t, t", "select t.k from t, t, b"} {
		checkRefused(t, s, impl.NoColumn)
	}
	for _, x := range [][]string{
		{"select * from a, a", "join(true, a, a)", "x,x", "4x 1,1;2x 1,2;2x 2,1;1x 2,2"},
		{"select distinct * from a, a", "distinct(join(true, a, a))", "x,x", "1x 1,1;1x 1,2;1x 2,1;1x 2,2"},
		{"select y, t.x from a, t, a where y < 15", "project([c2, c1], filter((c2 < 15), join(true, join(true, a, t), a)))", "y,x", "9x -40,3;9x 10,1"},
		{"select k, count(*) from a, a, b group by k", "group(1, [], project([c3], join(true, join(true, a, a), b)))", "k,count", "1x 'none',9;1x 'one',9;1x 'two',18"},
		{"select 5 from a, a, a, a", "project([5], join(true, join(true, join(true, a, a), a), a))", "c0", "81x 5"},
	} {
		checkAnswer(t, x[0], x[1], x[2], x[3])
	}
}

func TestP9AColumnThatTwoTablesHave(t *testing.T) {
	for _, s := range []string{
		"select x from t, b", "select x from b, t", "select x from a, b", "select x from a, p, t", "select y, x from t, b", "select * from t, b where x = 1", "select y from t, b where k = 'a' and x is null", "select x, count(*) from t, b group by x", "select k, x, count(*) from t, b group by k, x", "select k, count(*), sum(x) from t, b group by k", "select t.x from t, b where x", "select x from a, b, t", "select not (k = x) from t, b",
	} {
		checkRefused(t, s, impl.Twice)
	}
	for _, x := range [][]string{
		{"select t.x, b.x, y, k from t, b", "project([c0, c2, c1, c3], join(true, t, b))", "x,x,y,k"}, {"select b.x, t.x, b.k, t.y from b, t", "project([c0, c2, c1, c3], join(true, b, t))", "x,x,k,y"}, {"select a.x, b.x, t.x from a, b, t where a.x = b.x", "project([c0, c1, c3], filter((c0 = c1), join(true, join(true, a, b), t)))", "x,x,x"}, {"select b.x, count(*), sum(a.x) from a, b group by b.x", "group(1, [c1], project([c1, c0], join(true, a, b)))", "x,count,sum"},
	} {
		checkPlanOf(t, marketSchemas(), mustRead(t, x[0]), x[1], x[2])
	}
}

func TestP9NamesThatAreNoColumns(t *testing.T) {
	for _, s := range []string{
		"select z from t", "select t from t", "select t.z from t", "select b.x from t", "select b.x from t, a", "select b.y from t, b", "select t.k from t, b", "select p.x from t, p", "select zz.x from t", "select x.t from t", "select x.x from t", "select y, z from t", "select y + z from t", "select not z from t", "select z is null from t", "select * from t where z", "select * from t where a.x = 1", "select z, count(*) from t group by z", "select a.x, count(*) from t group by a.x", "select x, count(*), sum(z) from t group by x", "select x, count(*), sum(b.x) from t group by x", "select t.x from a union all select x from a", "select x from a union all select t.x from a", "select k from a union all select k from b",
	} {
		checkRefused(t, s, impl.NoColumn)
	}
	for _, name := range []string{"", ".", "..", "x.", ".x", "t.", "t..x", "t.x.", ".t.x", "t.x.y", "T.x", "t.X", "t. x", "t .x", " x", "x ", "*", "t.*", "t,x", "c0", "x\x00", strings.Repeat("x", 100000)} {
		e := aname(name)
		for _, q := range []impl.Select{{Items: asts(e)}, {Items: asts(aname("x"), aop("+", aname("y"), e))}, {Star: true, Where: asts(anot(e))}, {Group: asts(e)}, {Group: anames("x"), Sum: asts(anull(e))}} {
			q.From = []string{"t"}
			checkCode(t, marketSchemas(), q, impl.NoColumn)
		}
	}
}

// inEachPlace are questions over t and b with e where an expression can stand, and nothing else amiss.
func inEachPlace(e impl.Ast) []impl.Select {
	k, list := aname("k"), []impl.Select{}
	for _, q := range []impl.Select{{Items: asts(e)}, {Items: asts(k, e)}, {Items: asts(e, k)}, {Star: true, Where: asts(e)}, {Items: asts(k), Where: asts(e)}, {Group: asts(e)}, {Group: asts(k, e)}, {Group: asts(e, k)}, {Group: asts(k), Sum: asts(e)}, {Group: asts(k), Where: asts(e), Distinct: true}} {
		q.From = []string{"t", "b"}
		list = append(list, q)
	}
	return list
}

func TestP9ExpressionsOutOfShape(t *testing.T) {
	y, k := aname("y"), aname("k")
	wrong := []impl.Ast{}
	for _, kind := range []int{-1, 5, 6, 9, 256, math.MinInt, math.MaxInt} {
		strange := impl.Ast{Kind: kind, Text: "y"}
		wrong = append(wrong, strange, impl.Ast{Kind: kind, Kids: asts(y, k)}, impl.Ast{Kind: kind, Kids: anames("nothing")}, aop("+", y, strange), aop("+", strange, y), anot(anull(anot(strange))))
	}
	wrong = append(wrong, aop("+"), aop("+", y), aop("+", y, k, y), aop("and", y, k, y, k), anot(), anot(y, k), anull(), anull(y, k), anull(y, k, y), aop("=", anot(), k), aop("=", k, anull(y, y)), impl.Ast{Kind: impl.AName, Text: "y", Kids: asts(k)}, impl.Ast{Kind: impl.AValue, V: yes, Kids: asts(k)}, impl.Ast{Kind: impl.AValue, Kids: asts(y, k)})
	for _, sign := range []string{"", ">", "<=", "==", "&&", "AND", "nand", "not", "is null", "+ ", "y"} {
		wrong = append(wrong, aop(sign, y, k), anot(aop(sign, y, k)))
	}
	for _, v := range wrongValues() {
		wrong = append(wrong, avalue(v), aop("<", avalue(v), y))
	}
	wrong = append(wrong, impl.Ast{Kind: impl.AName, Text: "y", V: yes}, impl.Ast{Kind: impl.AValue, V: yes, Text: "y"}, impl.Ast{Kind: impl.AOp, Text: "+", V: yes, Kids: asts(y, k)}, impl.Ast{Kind: impl.ANot, Text: "not", Kids: asts(y)}, impl.Ast{Kind: impl.AIsNull, V: num(1), Kids: asts(y)})
	wrong = append(wrong, belowAst(impl.MaxDepth+1, y), belowAst(impl.MaxDepth+1, avalue(null)), aop("+", y, belowAst(impl.MaxDepth, k)), belowAst(60, aop("+", y, k)))
	for _, e := range wrong {
		for _, q := range inEachPlace(e) {
			checkCode(t, marketSchemas(), q, impl.Shape)
		}
	}
	for _, e := range []impl.Ast{y, avalue(null), avalue(text(longest)), avalue(num(math.MinInt)), belowAst(impl.MaxDepth, y), aop("+", belowAst(impl.MaxDepth-1, k), y), anull(anot(aop("and", y, k)))} {
		for _, q := range inEachPlace(e) {
			p, names, code := impl.Bind(marketSchemas(), q)
			if code != impl.BindOk {
				t.Errorf("%s: %d", impl.ShowQuery(q), code)
			}
			checkAsWideAsNamed(t, marketSchemas(), p, names)
		}
	}
}

// A flaw is an expression over t and b with that code; late ones are seen only when all names of the whole are so.
type flaw struct {
	e    impl.Ast
	code int
	late bool
}

func flaws() []flaw {
	return []flaw{
		{aname("nothing"), impl.NoColumn, false}, {aname("a.x"), impl.NoColumn, false}, {aname("x"), impl.Twice, false}, {impl.Ast{Kind: 9}, impl.Shape, false}, {impl.Ast{Kind: 9, Kids: anames("nothing")}, impl.Shape, false}, {aop(">", aname("y"), aname("k")), impl.Shape, true}, {anot(), impl.Shape, true}, {belowAst(impl.MaxDepth+1, aname("y")), impl.Shape, true},
		{belowAst(impl.MaxDepth+1, aname("x")), impl.Twice, false}, {aop(">", aname("y"), aname("nothing"), aname("x")), impl.NoColumn, false}, {impl.Ast{Kind: impl.AValue, Kids: anames("x")}, impl.Twice, false}, {impl.Ast{Kind: impl.AName, Text: "y", Kids: anames("nothing")}, impl.NoColumn, false}, {anot(aname("y"), aname("nothing")), impl.NoColumn, false},
	}
}

func TestP9TheFirstCodeCounts(t *testing.T) {
	y, k, from := aname("y"), aname("k"), []string{"t", "b"}
	next := func(e impl.Ast) []impl.Select { return []impl.Select{{Items: asts(e), From: from}} }
	for _, first := range flaws() {
		for _, second := range flaws() {
			a, b := first.e, second.e
			for _, q := range []impl.Select{
				{Where: asts(a), Items: asts(b)}, {Where: asts(a), Group: asts(b)}, {Where: asts(a), Group: asts(k), Sum: asts(b)}, {Where: asts(a), Star: true, Next: next(b)}, {Where: asts(a), Group: asts(b), Sum: asts(b), Next: next(b)},
				{Group: asts(a, b)}, {Group: asts(y, a, k, b)}, {Group: asts(a), Sum: asts(b)}, {Group: asts(y, a), Sum: asts(b)}, {Group: asts(a), Next: next(b)}, {Where: asts(k), Group: asts(k), Sum: asts(a), Next: next(b)},
				{Items: asts(a, b)}, {Items: asts(y, a, k, b)}, {Items: asts(a), Next: next(b)}, {Items: asts(k), Next: []impl.Select{{Items: asts(a), From: from, Next: next(b)}}}, {Items: asts(k), Next: []impl.Select{{Where: asts(a), Star: true, From: from, Next: next(b)}}},
			} {
				q.From = from
				checkCode(t, marketSchemas(), q, first.code)
			}
			want := first.code
			if first.late && !second.late {
				want = second.code
			}
			for _, e := range []impl.Ast{aop("+", a, b), anot(aop("and", anot(y), aop("=", a, b))), aop("or", aop("=", k, a), b), aop("or", a, aop("=", k, b)), aop("or", a, k, b), anull(a, b)} {
				for _, q := range inEachPlace(e) {
					checkCode(t, marketSchemas(), q, want)
				}
			}
		}
	}
}

func TestP9CodesAheadOfExpressionsAndBehind(t *testing.T) {
	list := append(marketSchemas(), schema("w", numberedCols("z", impl.MaxWidth)))
	many := slices.Repeat(anames("k"), impl.MaxWidth+1)
	for _, x := range flaws() {
		// A table that is none is ahead of each, and more than MaxWidth columns, Next and its columns behind.
		for _, q := range inEachPlace(x.e) {
			for _, from := range [][]string{{"t", "b", "zz"}, {"zz", "t", "b"}, {"zz"}} {
				q.From = from
				checkCode(t, list, q, impl.NoTable)
			}
			q.From = []string{"t", "b", "w"}
			checkCode(t, list, q, x.code)
			q.Next = []impl.Select{{Star: true, From: []string{"zz"}}}
			checkCode(t, list, q, x.code)
			q.From, q.Next = []string{"t", "b"}, []impl.Select{{Star: true, From: []string{"p"}}}
			checkCode(t, list, q, x.code)
			q.Next = []impl.Select{{}}
			checkCode(t, list, q, x.code)
		}
		checkCode(t, list, impl.Select{Items: append(slices.Clone(many), x.e), From: []string{"t", "b"}}, x.code)
		checkCode(t, list, impl.Select{Group: append(slices.Clone(many), x.e), From: []string{"t", "b"}}, x.code)
		checkCode(t, list, impl.Select{Group: many, Sum: asts(x.e), From: []string{"t", "b"}}, x.code)
	}
	// Columns too many are ahead of Next's code, and that is ahead of its columns.
	none := []impl.Select{{Star: true, From: []string{"zz"}}}
	checkCode(t, list, impl.Select{Star: true, From: []string{"w", "a"}, Next: none}, impl.Shape)
	checkCode(t, list, impl.Select{Items: many, From: []string{"t", "b"}, Next: none}, impl.Shape)
	checkCode(t, list, impl.Select{Star: true, From: []string{"w"}, Next: none}, impl.NoTable)
	checkCode(t, list, impl.Select{Star: true, From: []string{"w"}, Next: []impl.Select{{Star: true, From: []string{"a"}, Next: none}}}, impl.NoTable)
	checkCode(t, list, impl.Select{Star: true, From: []string{"a"}, Next: []impl.Select{{Star: true, From: []string{"w"}, Next: []impl.Select{{Items: anames("k"), From: []string{"a"}}}}}}, impl.NoColumn)
	checkCode(t, list, impl.Select{Star: true, From: []string{"a"}, Next: []impl.Select{{Star: true, From: []string{"w"}, Next: []impl.Select{{Items: anames("k"), From: []string{"b", "b"}}}}}}, impl.Twice)
	// A column that is there, but beyond those that an expression can have, is not ExpOk: that is ahead of a later name.
	wide := []string{"w", "t", "b"}
	checkCode(t, list, impl.Select{Items: anames("y nothing"), From: wide}, impl.Shape)
	checkCode(t, list, impl.Select{Items: anames("z11 nothing"), From: wide}, impl.NoColumn)
	checkCode(t, list, impl.Select{Where: anames("k"), Items: anames("x"), From: wide}, impl.Shape)
	checkCode(t, list, impl.Select{Items: asts(aop("+", aname("y"), aname("nothing"))), From: wide}, impl.NoColumn)
}

func TestP9MostColumns(t *testing.T) {
	list := []impl.Schema{schema("a", "a0"), schema("b", numberedCols("b", 6)), schema("c", numberedCols("c", 5)), schema("d", numberedCols("d", impl.MaxWidth-1)), schema("w", numberedCols("w", impl.MaxWidth))}
	joined := func(names ...string) string {
		p := names[0]
		for _, name := range names[1:] {
			p = "join(true, " + p + ", " + name + ")"
		}
		return p
	}
	for _, from := range [][]string{{"w"}, {"a", "d"}, {"d", "a"}, {"b", "b"}, {"a", "b", "c"}, {"a", "a", "c", "c"}, {"c", "b", "a"}} {
		q := impl.Select{Star: true, From: from}
		names := []string{}
		for _, name := range from {
			i := slices.IndexFunc(list, func(s impl.Schema) bool { return s.Name == name })
			names = append(names, list[i].Cols...)
		}
		if len(names) != impl.MaxWidth {
			t.Fatalf("%v: %v", from, names)
		}
		checkPlanOf(t, list, q, joined(from...), strings.Join(names, ","))
		seven := impl.Select{Items: asts(avalue(num(7))), From: from}
		checkPlanOf(t, list, seven, "project([7], "+joined(from...)+")", "c0")
		for _, more := range [][]string{append(slices.Clone(from), "a"), append([]string{"a"}, from...), append(slices.Clone(from), "w", "w")} {
			q.From, seven.From = more, more
			checkCode(t, list, q, impl.Shape)
			checkCode(t, list, seven, impl.Shape)
			checkCode(t, list, impl.Select{Group: asts(avalue(num(7))), Where: asts(avalue(no)), From: more}, impl.Shape)
			checkCode(t, list, impl.Select{Star: true, From: []string{"w"}, Next: []impl.Select{q}}, impl.Shape)
		}
	}
}

func TestP9MostNames(t *testing.T) {
	for n := range impl.MaxWidth + 5 {
		if n == 0 {
			continue
		}
		names := slices.Repeat(anames("t.y"), n)
		y, c1 := strings.TrimPrefix(strings.Repeat(",y", n), ","), strings.TrimPrefix(strings.Repeat(", c1", n), ", ")
		for i, q := range []impl.Select{{Items: names}, {Group: names}, {Group: names, Sum: anames("x")}, {Items: names, Distinct: true}} {
			q.From = []string{"t"}
			plan := []string{"project([" + c1 + "], t)", fmt.Sprintf("group(%d, [], project([%s], t))", n, c1), fmt.Sprintf("group(%d, [c%d], project([%s, c0], t))", n, n, c1), "distinct(project([" + c1 + "], t))"}[i]
			wide := []int{n, n + 1, n + 2, n}[i]
			if wide > impl.MaxWidth {
				checkCode(t, marketSchemas(), q, impl.Shape)
				checkCode(t, marketSchemas(), impl.Select{Star: true, From: q.From, Next: []impl.Select{q}}, impl.Shape)
				continue
			}
			checkPlanOf(t, marketSchemas(), q, plan, y+[]string{"", ",count", ",count,sum", ""}[i])
		}
	}
	checkCode(t, marketSchemas(), impl.Select{Items: slices.Repeat(anames("y"), 100000), From: []string{"t"}}, impl.Shape)
}

func TestP9Next(t *testing.T) {
	for _, s := range []string{
		"select x from t union all select * from t", "select * from t union all select x from t", "select x from t union all select x, y from t", "select x, count(*) from t group by x union all select x from t", "select x, count(*) from t group by x union all select x, count(*), sum(y) from t group by x", "select x from t union all select x from t union all select x, y from t", "select x from t union all select x, y from t union all select x from t", "select x, y from t union all select x from t union all select x from t", "select x from t union all select x, y from t union all select x, y from t", "select * from a union all select * from a, a",
	} {
		checkRefused(t, s, impl.Shape)
	}
	for s, want := range map[string]int{
		"select x from t union all select x from zz": impl.NoTable, "select x, y from t union all select x from zz": impl.NoTable, "select x from t union all select x from t union all select x from zz": impl.NoTable, "select x from t union all select x, y from t union all select x from zz": impl.NoTable,
		"select x from t union all select z from t": impl.NoColumn, "select x from t union all select k, k from t, b union all select z from t": impl.NoColumn, "select x from t union all select y from t where k": impl.NoColumn,
		"select x from t union all select x from t, b": impl.Twice, "select x from t union all select t.x, y from t, t union all select z from zz": impl.Twice, "select x from t union all select x from b union all select x from a, a": impl.Twice,
	} {
		checkRefused(t, s, want)
	}
	// Each question has its own tables: those of another one are none of its names.
	checkRefused(t, "select y from t union all select y from a", impl.NoColumn)
	checkRefused(t, "select t.y from t union all select t.y from a", impl.NoColumn)
	checkAnswer(t, "select x from t where y < 15 union all select x from a", "union(project([c0], filter((c1 < 15), t)), project([c0], a))", "x", "3x 1;1x 2;1x 3")
}

// chainOf has so many questions behind the first one.
func chainOf(count int, q impl.Select) impl.Select {
	out := q
	for range count {
		next := q
		next.Next = []impl.Select{out}
		out = next
	}
	return out
}

// A union of very many is bound, but it is deeper than a plan that is right.
func TestP9TheDeepestPlans(t *testing.T) {
	list := marketSchemas()
	a := impl.Select{Star: true, From: []string{"a"}}
	told := "a"
	for n := range impl.MaxPlan + 1 {
		checkPlanOf(t, list, chainOf(n, a), told, "x")
		told = "union(a, " + told + ")"
	}
	p, names, code := impl.Bind(list, chainOf(impl.MaxPlan+1, a))
	if code != impl.BindOk || !slices.Equal(names, []string{"x"}) || impl.PlanText(p) != told {
		t.Errorf("%s with %v: %d", impl.PlanText(p), names, code)
	}
	// The deepest that one union can be: four tables, where, group by and distinct.
	deep := "select distinct y, count(*), sum(y) from a, b, p, t where y < 15 group by y"
	q := mustRead(t, deep+" union all "+deep)
	p, names, code = impl.Bind(list, q)
	if code != impl.BindOk || impl.Width(marketDb(), p) != 3 || len(names) != 3 || tell(impl.Answer(marketDb(), p)) != "2x -40,48,-1920;2x 10,48,480" {
		t.Errorf("%s with %v: %d, %s", impl.PlanText(p), names, code, tell(impl.Answer(marketDb(), p)))
	}
	// More tables than ParseQuery reads are joined likewise.
	checkPlanOf(t, list, impl.Select{Items: anames("k"), From: []string{"a", "a", "a", "a", "a", "b", "a"}}, "project([c6], join(true, join(true, join(true, join(true, join(true, join(true, a, a), a), a), a), b), a))", "k")
}

func TestP9TypesOf(t *testing.T) {
	list, db := marketSchemas(), marketDb()
	if !impl.TypesOf(db, list) || !impl.TypesOf(emptyDb(list), list) || !impl.TypesOf(nil, nil) || !impl.TypesOf([]impl.Rel{}, nil) || !impl.TypesOf(manyRels(mostRels), manySchemas(mostRels)) {
		t.Error("of these types")
	}
	for i := range db {
		if impl.TypesOf(db[i+1:], list) || impl.TypesOf(db[:i], list) || impl.TypesOf(db, list[i+1:]) || impl.TypesOf(db, list[:i]) || impl.TypesOf(slices.Delete(slices.Clone(db), i, i+1), list) || impl.TypesOf(db, slices.Delete(slices.Clone(list), i, i+1)) {
			t.Error("of unlike length", i)
		}
		for _, width := range []int{-1, 0, 1, 2, 3, 4, impl.MaxWidth, math.MaxInt} {
			other := slices.Clone(db)
			other[i].Bag = bag(width)
			if impl.TypesOf(other, list) != (width == len(list[i].Cols)) {
				t.Errorf("%s with %d columns", db[i].Name, width)
			}
		}
		named, swapped := slices.Clone(db), slices.Clone(db)
		named[i].Name += "z"
		k := (i + 1) % len(db)
		swapped[i].Name, swapped[k].Name = swapped[k].Name, swapped[i].Name
		turned := slices.Clone(list)
		turned[i], turned[k] = turned[k], turned[i]
		if impl.TypesOf(named, list) || impl.TypesOf(swapped, list) || impl.TypesOf(db, turned) {
			t.Error("other names, or in another order", i)
		}
	}
	if impl.TypesOf(nil, list) || impl.TypesOf(db, nil) || impl.TypesOf(append(slices.Clone(db), rel("z", bag(1))), list) || impl.TypesOf(db, append(slices.Clone(list), schema("z", "x"))) {
		t.Error("with none, or one more")
	}
}

func TestP9CodeText(t *testing.T) {
	for code, want := range map[int]string{impl.BindOk: "ok", impl.NoTable: "table", impl.NoColumn: "column", impl.Twice: "twice", impl.Shape: "shape", -1: "", 5: "", 6: "", 256: "", math.MinInt: "", math.MaxInt: ""} {
		if got := impl.CodeText(code); got != want {
			t.Errorf("%d: %q, want %q", code, got, want)
		}
	}
}

// colsByHand are the columns of tables, each as the table's name, a dot and its own; false where one is none.
func colsByHand(list []impl.Schema, from []string) ([]string, bool) {
	cols := []string{}
	for _, name := range from {
		found := false
		for _, s := range list {
			for _, c := range s.Cols {
				if s.Name == name {
					cols, found = append(cols, name+"."+c), true
				}
			}
		}
		if !found {
			return nil, false
		}
	}
	return cols, true
}

// columnByHand is where a name stands among such columns, and how many it is.
func columnByHand(cols []string, name string) (int, int) {
	at, count := 0, 0
	for i, c := range cols {
		if c == name || !strings.Contains(name, ".") && strings.HasSuffix(c, "."+name) {
			at, count = i, count+1
		}
	}
	return at, count
}

// expByHand tells an expression with columns for its names, and the first code from left to right but that of ExpOk.
func expByHand(cols []string, a impl.Ast) (impl.Exp, int) {
	e := impl.Exp{Kind: a.Kind, V: a.V, Op: a.Text}
	if a.Kind < impl.AName || a.Kind > impl.AIsNull {
		return e, impl.Shape
	}
	if a.Kind == impl.AName {
		at, count := columnByHand(cols, a.Text)
		if count != 1 {
			return e, []int{impl.NoColumn, 0, impl.Twice}[min(count, 2)]
		}
		e.N, e.Op = at, ""
	}
	for _, kid := range a.Kids {
		under, code := expByHand(cols, kid)
		if code != impl.BindOk {
			return e, code
		}
		e.Kids = append(e.Kids, under)
	}
	return e, impl.BindOk
}

func outOfShapeByHand(q impl.Select) bool {
	heads := min(len(q.Items), 1) + min(len(q.Group), 1)
	if q.Star {
		heads++
	}
	return heads != 1 || len(q.From) == 0 || len(q.Where) > 1 || len(q.Sum) > 1 || len(q.Next) > 1 || len(q.Sum) == 1 && len(q.Group) == 0
}

// codeByHand tells a question's code over right schemas, and how many columns it has.
func codeByHand(list []impl.Schema, q impl.Select) (int, int) {
	if outOfShapeByHand(q) {
		return 0, impl.Shape
	}
	cols, ok := colsByHand(list, q.From)
	if !ok {
		return 0, impl.NoTable
	}
	for _, a := range slices.Concat(q.Where, q.Group, q.Sum, q.Items) {
		e, code := expByHand(cols, a)
		if code == impl.BindOk && !impl.ExpOk(e) {
			code = impl.Shape
		}
		if code != impl.BindOk {
			return 0, code
		}
	}
	width := len(q.Items) + len(q.Group) + len(q.Sum)
	if len(q.Group) > 0 {
		width++
	}
	if q.Star {
		width = len(cols)
	}
	if max(width, len(cols)) > impl.MaxWidth {
		return 0, impl.Shape
	}
	for _, next := range q.Next {
		more, code := codeByHand(list, next)
		if code == impl.BindOk && more != width {
			code = impl.Shape
		}
		if code != impl.BindOk {
			return 0, code
		}
	}
	return width, impl.BindOk
}

func valueByHand(cols []string, row []impl.Value, a impl.Ast) impl.Value {
	kid := func(i int) impl.Value { return valueByHand(cols, row, a.Kids[i]) }
	switch a.Kind {
	case impl.AName:
		at, _ := columnByHand(cols, a.Text)
		return row[at]
	case impl.AOp:
		return impl.Reckon(a.Text, kid(0), kid(1))
	case impl.ANot:
		return impl.Not(kid(0))
	case impl.AIsNull:
		return impl.IsNull(kid(0))
	}
	return a.V
}

// pairsByHand are the rows of tables one behind the other.
func pairsByHand(db []impl.Rel, from []string) []impl.Counted {
	rows := []impl.Counted{times(1)}
	for _, name := range from {
		at := slices.IndexFunc(db, func(r impl.Rel) bool { return r.Name == name })
		more := []impl.Counted{}
		for _, c := range rows {
			for _, d := range db[at].Bag.Rows {
				more = append(more, times(c.N*d.N, slices.Concat(c.Row, d.Row)...))
			}
		}
		rows = more
	}
	return rows
}

// rowsByHand tells the rows of a question that is bound, by its words and without a plan.
func rowsByHand(list []impl.Schema, db []impl.Rel, q impl.Select) counts {
	cols, _ := colsByHand(list, q.From)
	out := counts{}
	for _, c := range pairsByHand(db, q.From) {
		if len(q.Where) > 0 && valueByHand(cols, c.Row, q.Where[0]) != yes {
			continue
		}
		row := []impl.Value{}
		for _, a := range slices.Concat(q.Group, q.Items) {
			row = append(row, valueByHand(cols, c.Row, a))
		}
		if q.Star {
			row = c.Row
		}
		if len(q.Group) > 0 {
			key := fmt.Sprint(row)
			out[key] = impl.Counted{N: 1, Row: regroupedByHand(cols, q, row, out[key].Row, c)}
			continue
		}
		out.add(row, c.N)
	}
	for key, c := range out {
		if q.Distinct {
			out[key] = times(1, c.Row...)
		}
	}
	for _, next := range q.Next {
		for _, c := range rowsByHand(list, db, next) {
			out.add(c.Row, c.N)
		}
	}
	return out
}

// regroupedByHand is a group's row (nil for none yet) with one more row in it.
func regroupedByHand(cols []string, q impl.Select, keys []impl.Value, old []impl.Value, c impl.Counted) []impl.Value {
	row := slices.Clone(old)
	if old == nil {
		row = append(slices.Clone(keys), num(0))
		for range q.Sum {
			row = append(row, null)
		}
	}
	row[len(keys)].N += c.N
	for _, a := range q.Sum {
		if v := valueByHand(cols, c.Row, a); v.Kind == impl.VInt {
			row[len(keys)+1] = num(row[len(keys)+1].N + v.N*c.N)
		}
	}
	return row
}

// marketName is mostly a column of the market.
func marketName(r *rand.Rand) string {
	return []string{"x", "x", "y", "y", "k", "id", "name", "age", "t.x", "t.x", "t.y", "a.x", "a.x", "b.x", "b.k", "p.id", "p.age", "t.k", "z", "zz.x"}[r.Intn(20)]
}

func marketAst(r *rand.Rand, depth int) impl.Ast {
	e := randomAst(r, depth)
	renamed(r, &e)
	return e
}

func renamed(r *rand.Rand, e *impl.Ast) {
	if e.Kind == impl.AName {
		e.Text = marketName(r)
	}
	for i := range e.Kids {
		renamed(r, &e.Kids[i])
	}
}

func marketAsts(r *rand.Rand, count int, depth int) []impl.Ast {
	list := asts()
	for range count {
		list = append(list, marketAst(r, r.Intn(depth+1)))
	}
	return list
}

// marketQuestion is one that can be read, and is bound now and then; width is how many columns it is to have, mostly.
func marketQuestion(r *rand.Rand, width int, more int) impl.Select {
	q := impl.Select{Distinct: r.Intn(3) == 0}
	for range 1 + r.Intn(1+r.Intn(mostFrom)) {
		q.From = append(q.From, []string{"a", "b", "p", "t", "t", "t"}[r.Intn(6)])
	}
	switch kind := r.Intn(4); {
	case kind == 0:
		q.Star = true
	case kind == 1 && width > 1:
		if width > 2 && r.Intn(2) == 0 {
			q.Sum = marketAsts(r, 1, 2)
		}
		q.Group = marketAsts(r, width-1-len(q.Sum), 0)
	default:
		q.Items = marketAsts(r, width, 2)
	}
	if r.Intn(2) == 0 {
		q.Where = marketAsts(r, 1, 3)
	}
	if more > 0 && r.Intn(3) == 0 {
		q.Next = []impl.Select{marketQuestion(r, width, more-1)}
	}
	return q
}

func TestP9AnyQuestionMeansWhatItsWordsSay(t *testing.T) {
	r := rand.New(rand.NewSource(9))
	list, db := marketSchemas(), marketDb()
	codes, fit, rows := map[int]int{}, 0, 0
	for range 30000 {
		q := marketQuestion(r, 1+r.Intn(3), 3)
		width, want := codeByHand(list, q)
		codes[want]++
		if want != impl.BindOk {
			checkCode(t, list, q, want)
			continue
		}
		p, names, code := impl.Bind(list, q)
		if code != want || len(names) != width {
			t.Fatalf("%s: %d with %v, want %d columns", impl.ShowQuery(q), code, names, width)
		}
		checkAsWideAsNamed(t, list, p, names)
		if impl.Fits(db, p) {
			answer := rowsByHand(list, db, q)
			checkBag(t, impl.ShowQuery(q), impl.Answer(db, p), answer.bag(width))
			fit, rows = fit+1, rows+len(answer)
		}
		if t.Failed() {
			t.Fatal(impl.PlanText(p))
		}
	}
	if codes[impl.BindOk] < 3000 || codes[impl.NoColumn] < 3000 || codes[impl.Twice] < 1000 || codes[impl.Shape] < 100 || fit < 3000 || rows < 8000 {
		t.Errorf("only %v, of which %d fit, with %d rows", codes, fit, rows)
	}
}

// anyAst may be of any kind, with kids too many or too few, and with what its kind has not.
func anyAst(r *rand.Rand, depth int) impl.Ast {
	e := marketAst(r, r.Intn(3))
	switch r.Intn(8) {
	case 0:
		e = impl.Ast{Kind: r.Intn(8) - 1, Text: marketName(r)}
		if r.Intn(2) == 0 {
			e.V = allValues()[r.Intn(len(allValues()))]
		}
		for depth > 0 && r.Intn(2) == 0 {
			e.Kids = append(e.Kids, anyAst(r, depth-1))
		}
	case 1:
		e.Text = []string{"", "and", ">", "y", "."}[r.Intn(5)]
	case 2:
		if len(e.Kids) > 0 {
			e.Kids[r.Intn(len(e.Kids))] = anyAst(r, depth-1)
		}
	}
	return e
}

func anyAsts(r *rand.Rand, few int) []impl.Ast {
	list := asts()
	for range few {
		list = append(list, anyAst(r, 2))
	}
	if r.Intn(30) == 0 {
		list = append(list, slices.Repeat(asts(anyAst(r, 1)), r.Intn(impl.MaxWidth+2))...)
	}
	return list
}

// anySelect was never read: its fields are of any content.
func anySelect(r *rand.Rand, more int) impl.Select {
	q := impl.Select{Distinct: r.Intn(2) == 0, Star: r.Intn(3) == 0}
	for r.Intn(5) > 1 {
		q.From = append(q.From, []string{"a", "b", "p", "t", "t", "w", "zz", ""}[min(r.Intn(9), r.Intn(9)+3, 7)])
	}
	if !q.Star || r.Intn(20) == 0 {
		q.Items = anyAsts(r, r.Intn(3))
	}
	if len(q.Items) == 0 && !q.Star || r.Intn(20) == 0 {
		q.Group = anyAsts(r, 1+r.Intn(2))
		q.Sum = anyAsts(r, r.Intn(2))
	}
	if r.Intn(3) == 0 {
		q.Where = anyAsts(r, r.Intn(2))
	}
	for more > 0 && r.Intn(4) == 0 {
		q.Next = append(q.Next, anySelect(r, more-1))
	}
	return q
}

func TestP9SelectsThatWereNeverRead(t *testing.T) {
	r := rand.New(rand.NewSource(99))
	list := append(marketSchemas(), schema("w", numberedCols("z", impl.MaxWidth)))
	codes := map[int]int{}
	for range 60000 {
		q := anySelect(r, 3)
		width, want := codeByHand(list, q)
		codes[want]++
		if want != impl.BindOk {
			checkCode(t, list, q, want)
			continue
		}
		p, names, code := impl.Bind(list, q)
		if code != want || len(names) != width {
			t.Errorf("%s: %d with %v, want %d columns", impl.ShowQuery(q), code, names, width)
		}
		// More tables than can be read may be deeper than a plan that is right.
		if len(q.From) <= mostFrom && len(q.Next) == 0 {
			checkAsWideAsNamed(t, list, p, names)
		}
		if t.Failed() {
			return
		}
	}
	for code := impl.BindOk; code <= impl.Shape; code++ {
		if codes[code] < 500 {
			t.Errorf("only %v", codes)
		}
	}
	for i, q := range someQuestions() {
		width, want := codeByHand(list, q)
		if _, names, code := impl.Bind(list, q); code != want || len(names) != width {
			t.Errorf("%d: %d with %v, want %d", i, code, names, want)
		}
	}
}

// roomySchemas are a copy whose lists all have room behind them, with something in it.
func roomySchemas(list []impl.Schema) []impl.Schema {
	out := make([]impl.Schema, 0, len(list)+2)
	for _, s := range list {
		cols := append(append(make([]string, 0, len(s.Cols)+2), s.Cols...), "room", "room")
		out = append(out, impl.Schema{Name: s.Name, Cols: cols[:len(s.Cols)]})
	}
	return append(out, schema("room", "room"), schema("room", "room"))[:len(list)]
}

func seenSchemas(list []impl.Schema) []impl.Schema {
	out := []impl.Schema{}
	for _, s := range list[:cap(list)] {
		out = append(out, impl.Schema{Name: s.Name, Cols: slices.Clone(s.Cols[:cap(s.Cols)])})
	}
	return out
}

// checkBindLeavesAsItIs spoils the names that are answered: no argument may show it.
func checkBindLeavesAsItIs(t *testing.T, givenList []impl.Schema, q impl.Select) {
	t.Helper()
	list, given, db := roomySchemas(givenList), roomySelects([]impl.Select{q}), roomyDb(marketDb())
	wantList, wantGiven, wantDb := seenSchemas(list), seenSelects(given), seenDb(db)
	p, names, code := impl.Bind(list, given[0])
	other, otherNames, otherCode := impl.Bind(givenList, q)
	if code != otherCode || !slices.Equal(names, otherNames) || !samePlanTree(p, other) {
		t.Errorf("with room behind the lists: %s", impl.ShowQuery(q))
	}
	checkPlanApart(t, impl.ShowQuery(q), p, other)
	for i := range names[:cap(names)] {
		names[:cap(names)][i] = "spoiled"
	}
	impl.SchemasOk(list)
	impl.TypesOf(db, list)
	if !reflect.DeepEqual(seenSchemas(list), wantList) || !reflect.DeepEqual(seenSelects(given), wantGiven) || !reflect.DeepEqual(seenDb(db), wantDb) {
		t.Errorf("an argument was written into: %s", impl.ShowQuery(q))
	}
	if slices.Contains(otherNames, "spoiled") {
		t.Errorf("two answers share names: %s", impl.ShowQuery(q))
	}
}

func TestP13BindLeavesAsItIs(t *testing.T) {
	r := rand.New(rand.NewSource(139))
	list := marketSchemas()
	questions := someQuestions()
	for _, s := range []string{"select * from t", "select * from a, b, t", "select x, y, x + y from t where x = y union all select x, y, x + y from t where x = y", "select x, y, count(*), sum(x * y) from t group by x, y union all select distinct * from a, b, a"} {
		questions = append(questions, mustRead(t, s))
	}
	shared := aop("=", aname("x"), aname("y"))
	questions = append(questions, impl.Select{Items: asts(shared, shared, aop("and", shared, shared)), Where: asts(shared), From: []string{"t"}})
	for range 1000 {
		questions = append(questions, marketQuestion(r, 1+r.Intn(3), 3), anySelect(r, 2))
	}
	for _, q := range questions {
		checkBindLeavesAsItIs(t, list, q)
		if t.Failed() {
			return
		}
	}
	for _, wrong := range wrongSchemas() {
		checkBindLeavesAsItIs(t, wrong, questions[len(questions)-1])
		impl.TypesOf(marketDb(), wrong)
	}
	for _, db := range wrongDbs() {
		impl.TypesOf(db, list)
	}
}

func TestP13BindOfAnyDepth(t *testing.T) {
	const depth = 200000
	list := marketSchemas()
	wide := aname("y")
	for range depth {
		wide = aop("+", aname("k"), wide)
	}
	for _, x := range []struct {
		e    impl.Ast
		want int
	}{
		{belowAst(depth, aname("y")), impl.Shape}, {belowAst(depth, aname("nothing")), impl.NoColumn}, {belowAst(depth, aname("x")), impl.Twice}, {belowAst(depth, impl.Ast{Kind: 9}), impl.Shape}, {wide, impl.Shape}, {aop("+", wide, aname("x")), impl.Twice}, {aop("+", wide, aname("nothing")), impl.NoColumn},
	} {
		for _, q := range inEachPlace(x.e) {
			p, names, code := impl.Bind(list, q)
			if code != x.want || len(names) != 0 || len(p.Kids) != 0 {
				t.Errorf("a deep expression: %d, want %d", code, x.want)
			}
		}
	}
	a := impl.Select{Star: true, From: []string{"a"}}
	p, names, code := impl.Bind(list, chainOf(depth, a))
	if code != impl.BindOk || len(names) != 1 || impl.Width(marketDb(), p) != -1 {
		t.Errorf("a long chain: %d", code)
	}
	unions := 0
	for p.Kind == impl.PlUnion && len(p.Kids) == 2 && p.Kids[0].Name == "a" {
		p, unions = p.Kids[1], unions+1
	}
	if unions != depth || !samePlanTree(p, table("a")) {
		t.Errorf("%d unions", unions)
	}
	for _, x := range []struct {
		last impl.Select
		want int
	}{{impl.Select{Star: true, From: []string{"zz"}}, impl.NoTable}, {impl.Select{Star: true, From: []string{"t"}}, impl.Shape}, {impl.Select{}, impl.Shape}, {impl.Select{Items: anames("t.x"), From: []string{"t", "t"}}, impl.Twice}} {
		q := x.last
		for range depth {
			q = impl.Select{Star: true, From: []string{"a"}, Next: []impl.Select{q}}
		}
		if p, names, code := impl.Bind(list, q); code != x.want || len(names) != 0 || len(p.Kids) != 0 {
			t.Errorf("a long chain: %d, want %d", code, x.want)
		}
	}
}

func TestP13BindOfManyParts(t *testing.T) {
	const count = 100000
	list := append(marketSchemas(), schema("w", numberedCols("z", impl.MaxWidth)))
	many := slices.Repeat([]string{"w"}, count)
	checkCode(t, list, impl.Select{Star: true, From: many}, impl.Shape)
	checkCode(t, list, impl.Select{Items: slices.Repeat(anames("y"), count), From: append(many, "t")}, impl.Shape)
	checkCode(t, list, impl.Select{Items: anames("z0"), From: many}, impl.Twice)
	checkCode(t, list, impl.Select{Star: true, From: append(many, "zz")}, impl.NoTable)
	checkCode(t, list, impl.Select{Items: append(slices.Repeat(anames("y"), count), aname("nothing")), From: []string{"t"}}, impl.NoColumn)
	checkCode(t, list, impl.Select{Star: true, Where: slices.Repeat(anames("nothing"), count), From: []string{"t"}}, impl.Shape)
	checkCode(t, list, impl.Select{Items: asts(aop("and", slices.Repeat(anames("y"), count)...)), From: []string{"t"}}, impl.Shape)
	checkCode(t, list, impl.Select{Items: asts(aop("and", append(slices.Repeat(anames("y"), count), aname("nothing"))...)), From: []string{"t"}}, impl.NoColumn)
}

func TestP13BindOfSharedLists(t *testing.T) {
	list := marketSchemas()
	grown := func(e impl.Ast, times int) impl.Ast {
		for range times {
			e = aop("and", e, e)
		}
		return e
	}
	for _, x := range []struct {
		e    impl.Ast
		want int
	}{
		{grown(aname("y"), 100), impl.Shape}, {grown(aname("nothing"), 100), impl.NoColumn}, {grown(aname("x"), 100), impl.Twice}, {grown(impl.Ast{Kind: 9}, 100), impl.Shape}, {aop("or", grown(aname("k"), 100), aname("nothing")), impl.NoColumn}, {aop("or", aname("x"), grown(aname("nothing"), 100)), impl.Twice},
		{ringAst(1), impl.Shape}, {ringAst(3), impl.Shape}, {aop("or", ringAst(2), aname("nothing")), impl.NoColumn}, {aop("or", aname("x"), ringAst(1)), impl.Twice}, {anot(ringAst(2), aname("x")), impl.Twice},
	} {
		for _, q := range inEachPlace(x.e) {
			if p, names, code := impl.Bind(list, q); code != x.want || len(names) != 0 || len(p.Kids) != 0 {
				t.Errorf("a list at many places, or within itself: %d, want %d", code, x.want)
			}
		}
	}
	// A place is looked at where it stands first, though it is a later kid of something further up, too.
	late := asts(anot(), aname("nothing"))
	late[0].Kids = late[1:]
	checkCode(t, list, impl.Select{Items: asts(aop("and", late...)), From: []string{"t", "b"}}, impl.NoColumn)
	both := asts(aname("x"), aname("nothing"))
	checkCode(t, list, impl.Select{Items: asts(aop("and", anot(both[1:]...), both[0], both[1])), From: []string{"t", "b"}}, impl.NoColumn)
	kids := asts(impl.Ast{}, aname("x"), aname("nothing"))
	kids[0] = anot(kids[2:]...)
	checkCode(t, list, impl.Select{Items: asts(aop("and", kids...)), From: []string{"t", "b"}}, impl.NoColumn)
	full := grown(aname("y"), impl.MaxDepth)
	p := checkPlanOf(t, list, impl.Select{Items: asts(full, full), From: []string{"t"}}, "project(["+impl.ExpText(fullTree())+", "+impl.ExpText(fullTree())+"], t)", "c0,c1")
	checkPlanApart(t, "a full tree", p)
	for _, length := range []int{1, 2, 3} {
		ring := ringSelect(length)
		checkRing(t, list, ring, impl.Shape)
		ring.From = []string{"zz"}
		checkRing(t, list, ring, impl.NoTable)
	}
	last := make([]impl.Select, 1)
	last[0] = impl.Select{Star: true, From: []string{"zz"}, Next: last}
	checkRing(t, list, impl.Select{Star: true, From: []string{"t"}, Next: last}, impl.NoTable)
}

// fullTree is a full tree of columns, as deep as an expression can be.
func fullTree() impl.Exp {
	e := col(1)
	for range impl.MaxDepth {
		e = op("and", e, e)
	}
	return e
}

func checkRing(t *testing.T, list []impl.Schema, q impl.Select, want int) {
	t.Helper()
	if p, names, code := impl.Bind(list, q); code != want || len(names) != 0 || len(p.Kids) != 0 {
		t.Errorf("a question within itself: %d, want %d", code, want)
	}
}

func TestP13BindIsTheSameEachTime(t *testing.T) {
	r := rand.New(rand.NewSource(1399))
	list := marketSchemas()
	for range 300 {
		q := marketQuestion(r, 2, 3)
		want, names, code := impl.Bind(list, q)
		for range 5 {
			if p, again, c := impl.Bind(list, q); c != code || !slices.Equal(again, names) || !samePlanTree(p, want) {
				t.Fatal(impl.ShowQuery(q))
			}
		}
	}
}
