package tests

import (
	"math"
	"math/rand"
	"reflect"
	"slices"
	"strings"
	"testing"

	"loop.example/g00312/impl"
)

const (
	mostFrom   = 4
	mostNumber = 999999999999
	mostName   = 10
)

// languageWords are no names.
var languageWords = strings.Fields("select distinct from where group by union all and or not is null true false count sum")

func aname(s string) impl.Ast { return impl.Ast{Kind: impl.AName, Text: s} }

func avalue(v impl.Value) impl.Ast { return impl.Ast{Kind: impl.AValue, V: v} }

func aop(sign string, kids ...impl.Ast) impl.Ast {
	return impl.Ast{Kind: impl.AOp, Text: sign, Kids: kids}
}

func anot(kids ...impl.Ast) impl.Ast { return impl.Ast{Kind: impl.ANot, Kids: kids} }

func anull(kids ...impl.Ast) impl.Ast { return impl.Ast{Kind: impl.AIsNull, Kids: kids} }

func asts(list ...impl.Ast) []impl.Ast { return list }

// anames are names with a blank between two.
func anames(s string) []impl.Ast {
	list := asts()
	for _, name := range strings.Fields(s) {
		list = append(list, aname(name))
	}
	return list
}

// sameAstTree and sameSelect hold questions against each other without the program; no list and an empty one are the same.
func sameAstTree(a impl.Ast, b impl.Ast) bool {
	return a.Kind == b.Kind && a.Text == b.Text && a.V == b.V && slices.EqualFunc(a.Kids, b.Kids, sameAstTree)
}

func sameSelect(a impl.Select, b impl.Select) bool {
	same := func(x []impl.Ast, y []impl.Ast) bool { return slices.EqualFunc(x, y, sameAstTree) }
	return a.Distinct == b.Distinct && a.Star == b.Star && slices.Equal(a.From, b.From) && same(a.Items, b.Items) &&
		same(a.Where, b.Where) && same(a.Group, b.Group) && same(a.Sum, b.Sum) && slices.EqualFunc(a.Next, b.Next, sameSelect)
}

// checkRead wants a text that is a question: it asks for that one, and that it comes back when it is shown.
func checkRead(t *testing.T, s string, want impl.Select) {
	t.Helper()
	q, ok := impl.ParseQuery(s)
	if !ok || !sameSelect(q, want) || !impl.SameQuery(q, want) {
		t.Errorf("%q: %v %v, want %v", s, q, ok, want)
	}
	checkQuestionComesBack(t, s, q)
}

func checkQuestionComesBack(t *testing.T, s string, q impl.Select) {
	t.Helper()
	shown := impl.ShowQuery(q)
	if len(shown) > impl.MaxQuery {
		return
	}
	again, ok := impl.ParseQuery(shown)
	if !ok || !impl.SameQuery(q, again) || !sameSelect(q, again) || impl.ShowQuery(again) != shown {
		t.Errorf("%q, shown as %q: %v %v, was %v", s, shown, again, ok, q)
	}
}

// checkShown wants a text that is a question, and asks for the text by which it is shown.
func checkShown(t *testing.T, s string, want string) {
	t.Helper()
	q, ok := impl.ParseQuery(s)
	if got := impl.ShowQuery(q); !ok || got != want {
		t.Errorf("%q: %v, shown as %q, want %q", s, ok, got, want)
	}
	checkQuestionComesBack(t, s, q)
}

func checkNoQuestion(t *testing.T, s string) {
	t.Helper()
	if q, ok := impl.ParseQuery(s); ok || !sameSelect(q, impl.Select{}) {
		t.Errorf("%q is none: %v, shown as %q", s, ok, impl.ShowQuery(q))
	}
}

// checkExpression asks for the text of an expression as an item, as where, and as a sum.
func checkExpression(t *testing.T, s string, want string) {
	t.Helper()
	checkShown(t, "select "+s+" from t", "select "+want+" from t")
	checkShown(t, "select a,"+s+" from t where "+s, "select a, "+want+" from t where "+want)
	checkShown(t, "select a, count(*), sum("+s+") from t where "+s+" group by a", "select a, count(*), sum("+want+") from t where "+want+" group by a")
}

func checkNoExpression(t *testing.T, s string) {
	t.Helper()
	checkNoQuestion(t, "select "+s+" from t")
	checkNoQuestion(t, "select a, "+s+" from t")
	checkNoQuestion(t, "select a from t where "+s)
	checkNoQuestion(t, "select a, count(*), sum("+s+") from t group by a")
	checkNoQuestion(t, "select ("+s+") from t")
}

func TestP8OrdinaryQuestions(t *testing.T) {
	x, y, ty, t1 := aname("x"), aname("y"), aname("t.y"), []string{"t"}
	one, two := avalue(num(1)), avalue(num(2))
	star := impl.Select{Star: true, From: t1}
	checkRead(t, "select * from t", star)
	checkRead(t, "select distinct * from t", impl.Select{Distinct: true, Star: true, From: t1})
	checkRead(t, "select x from t", impl.Select{Items: asts(x), From: t1})
	checkRead(t, "select distinct x, t.y, 1 from t", impl.Select{Distinct: true, Items: asts(x, ty, one), From: t1})
	checkRead(t, "select x, x from t, t", impl.Select{Items: asts(x, x), From: []string{"t", "t"}})
	checkRead(t, "select * from a, b, c, d", impl.Select{Star: true, From: []string{"a", "b", "c", "d"}})
	checkRead(t, "select * from t where x = 1", impl.Select{Star: true, From: t1, Where: asts(aop("=", x, one))})
	checkRead(t, "select y from t, b where true", impl.Select{Items: asts(y), From: []string{"t", "b"}, Where: asts(avalue(yes))})
	checkRead(t, "select x, count(*) from t group by x", impl.Select{From: t1, Group: asts(x)})
	checkRead(t, "select x, t.y, count(*) from t group by x, t.y", impl.Select{From: t1, Group: asts(x, ty)})
	checkRead(t, "select x, x, count(*), sum(x) from t group by x, x", impl.Select{From: t1, Group: asts(x, x), Sum: asts(x)})
	checkRead(t, "select distinct x, count(*), sum(y * 2) from t where y < x group by x", impl.Select{Distinct: true, From: t1, Where: asts(aop("<", y, x)), Group: asts(x), Sum: asts(aop("*", y, two))})
	checkRead(t, "select * from t union all select * from t", impl.Select{Star: true, From: t1, Next: []impl.Select{star}})
	grouped := impl.Select{From: t1, Where: asts(x), Group: asts(y), Next: []impl.Select{{Distinct: true, Items: asts(one, two), From: []string{"b"}, Next: []impl.Select{star}}}}
	checkRead(t, "select y, count(*) from t where x group by y union all select distinct 1, 2 from b union all select * from t", grouped)
	checkRead(t, "select x from t where y union all select x, count(*), sum(1) from t group by x", impl.Select{Items: asts(x), From: t1, Where: asts(y), Next: []impl.Select{{From: t1, Group: asts(x), Sum: asts(one)}}})
	many := strings.Repeat("select*from t union all ", 40)
	want := star
	for range 40 {
		want = impl.Select{Star: true, From: t1, Next: []impl.Select{want}}
	}
	checkRead(t, many+"select*from t", want)
}

func TestP8HowQuestionsAreShown(t *testing.T) {
	for _, s := range []string{
		"select * from t", "select distinct * from a, b, c, d", "select x, y from t", "select distinct (x + 1) from t where (x = 2)", "select x, count(*) from t group by x", "select x, t.y, count(*), sum((z * 2)) from t, b where ((x < 1) or (y is null)) group by x, t.y",
		"select -5, 0, 'it''s', '', null, true, false, t.x from t", "select (not (x is null)) from t union all select * from a union all select 'a' from b where true",
	} {
		checkShown(t, s, s)
	}
	checkShown(t, "select x,y,count(*),sum(z)from t,b where x=1 group by x,y union all select*from t", "select x, y, count(*), sum(z) from t, b where (x = 1) group by x, y union all select * from t")
	checkShown(t, "select distinct(x),((t . y))from t", "select distinct x, t.y from t")
}

func TestP8SingleExpressions(t *testing.T) {
	for _, s := range []string{"x", "abcdefghij", "a1", "z0123456789"[:mostName], "t.x", "abcdefghij.klmnopqrst", "0", "7", "999999999999", "-1", "-999999999999", "''", "'a'", "' '", "'\n'", "'a''b'", "''''", "''''''", "'select * from t'", "'and'", "'('", "'\x00\xff\t'", "true", "false", "null"} {
		checkExpression(t, s, s)
		checkExpression(t, "("+s+")", s)
		checkExpression(t, "(((( "+s+"\n))))", s)
		checkExpression(t, s+" is null", "("+s+" is null)")
		checkExpression(t, "not "+s, "(not "+s+")")
		for _, sign := range ops {
			checkExpression(t, s+" "+sign+" "+s, "("+s+" "+sign+" "+s+")")
			checkExpression(t, "(x "+sign+" "+s+")", "(x "+sign+" "+s+")")
		}
	}
	for s, want := range map[string]impl.Value{"0": num(0), "12": num(12), "-12": num(-12), "'a''b'": text("a'b"), "''": text(""), "true": yes, "false": no, "null": null} {
		checkRead(t, "select "+s+" from t", impl.Select{Items: asts(avalue(want)), From: []string{"t"}})
	}
}

func TestP8Ranks(t *testing.T) {
	for _, x := range [][]string{
		{"a or b and c", "(a or (b and c))"}, {"a and b or c", "((a and b) or c)"}, {"a and b or c and d", "((a and b) or (c and d))"}, {"(a or b) and c", "((a or b) and c)"},
		{"not a and b", "((not a) and b)"}, {"a and not b", "(a and (not b))"}, {"not a or not b", "((not a) or (not b))"}, {"not (a or b)", "(not (a or b))"}, {"a or not b and c", "(a or ((not b) and c))"},
		{"not a = b", "(not (a = b))"}, {"not a < b", "(not (a < b))"}, {"not a > b", "(not (b < a))"}, {"not a ~ b", "(not (a ~ b))"}, {"not a is null", "(not (a is null))"}, {"(not a) is null", "((not a) is null)"}, {"(not a) = b", "((not a) = b)"},
		{"not not a", "(not (not a))"}, {"not not not a = b", "(not (not (not (a = b))))"}, {"not not a and not b", "((not (not a)) and (not b))"},
		{"a = b and c < d", "((a = b) and (c < d))"}, {"a = b or c is null", "((a = b) or (c is null))"}, {"a is null and b is null", "((a is null) and (b is null))"},
		{"a + b = c - d", "((a + b) = (c - d))"}, {"a + b is null", "((a + b) is null)"}, {"a * b ~ c", "((a * b) ~ c)"}, {"a < b + c", "(a < (b + c))"}, {"(a < b) + c", "((a < b) + c)"},
		{"a + b * c", "(a + (b * c))"}, {"a * b + c", "((a * b) + c)"}, {"a - b / c", "(a - (b / c))"}, {"a / b - c", "((a / b) - c)"}, {"(a + b) * c", "((a + b) * c)"}, {"a * (b - c)", "(a * (b - c))"}, {"a * b - c / d", "((a * b) - (c / d))"},
		{"a or b or c", "((a or b) or c)"}, {"a and b and c", "((a and b) and c)"}, {"a + b + c", "((a + b) + c)"}, {"a - b - c", "((a - b) - c)"}, {"a - b + c", "((a - b) + c)"}, {"a + b - c", "((a + b) - c)"}, {"a * b * c", "((a * b) * c)"}, {"a / b / c", "((a / b) / c)"}, {"a / b * c", "((a / b) * c)"}, {"a * b / c", "((a * b) / c)"},
		{"a or (b or c)", "(a or (b or c))"}, {"a and (b and c)", "(a and (b and c))"}, {"a - (b - c)", "(a - (b - c))"}, {"a / (b / c)", "(a / (b / c))"},
		{"not a + b * c < d or e and f is null", "((not ((a + (b * c)) < d)) or (e and (f is null)))"}, {"((a = b) = c) = d", "(((a = b) = c) = d)"}, {"(a is null) is null", "((a is null) is null)"}, {"(a = b) is null", "((a = b) is null)"}, {"(a is null) = (b is null)", "((a is null) = (b is null))"},
	} {
		checkExpression(t, x[0], x[1])
	}
}

func TestP8GreaterIsLessTurnedRound(t *testing.T) {
	a, b := aname("a"), aname("b")
	checkRead(t, "select a > b from t", impl.Select{Items: asts(aop("<", b, a)), From: []string{"t"}})
	checkExpression(t, "a > b", "(b < a)")
	checkExpression(t, "a+1>b*2", "((b * 2) < (a + 1))")
	checkExpression(t, "(a > b) > (c > d)", "((d < c) < (b < a))")
	checkExpression(t, "a > b and b > a or 1 > 'x'", "(((b < a) and (a < b)) or ('x' < 1))")
	checkNoExpression(t, "a > > b")
	checkNoExpression(t, "a >")
	checkNoExpression(t, "> a")
}

func TestP8OneComparisonAlone(t *testing.T) {
	signs := []string{"=", "<", ">", "~"}
	for _, x := range signs {
		for _, y := range signs {
			checkNoExpression(t, "a "+x+" b "+y+" c")
			checkNoExpression(t, "a"+x+y+"b")
			checkNoExpression(t, "not a "+x+" b "+y+" c")
		}
		checkNoExpression(t, "a "+x+" b is null")
		checkNoExpression(t, "a is null "+x+" b")
		checkNoExpression(t, "a "+x+" not b")
	}
	checkExpression(t, "(a = b) ~ (c is null) and a", "(((a = b) ~ (c is null)) and a)")
	checkExpression(t, "(a = b) > (c is null) and a", "(((c is null) < (a = b)) and a)")
	checkExpression(t, "a is null", "(a is null)")
	checkExpression(t, "null is null", "(null is null)")
	checkExpression(t, "(a is null) is null", "((a is null) is null)")
	for _, s := range []string{"a is null is null", "null is null is null", "not a is null is null", "a + b is null is null", "a is null null", "a is", "a is is null", "is null", "a is not null", "a null", "a is true", "a isnull", "a is nullis null", "a is null + 1", "a is null * 2", "a is 'null'"} {
		checkNoExpression(t, s)
	}
}

func TestP8Numbers(t *testing.T) {
	for _, x := range [][]string{
		{"999999999999", "999999999999"}, {"-999999999999", "-999999999999"}, {"- 5", "-5"}, {"-\n5", "-5"}, {"-0", "0"}, {"-00", "0"}, {"007", "7"}, {"-007", "-7"}, {"00", "0"}, {strings.Repeat("0", 250), "0"}, {strings.Repeat("0", 200) + "999999999999", "999999999999"},
		{"1-1", "(1 - 1)"}, {"1--1", "(1 - -1)"}, {"1 - - 1", "(1 - -1)"}, {"1+-1", "(1 + -1)"}, {"2*-3", "(2 * -3)"}, {"-1-1", "(-1 - 1)"}, {"a-1", "(a - 1)"}, {"a -1", "(a - 1)"}, {"-1*-1", "(-1 * -1)"}, {"-1 is null", "(-1 is null)"}, {"not -1", "(not -1)"}, {"-1 > -2", "(-2 < -1)"}, {"(-1)", "-1"},
	} {
		checkExpression(t, x[0], x[1])
	}
	for _, s := range []string{"1000000000000", "-1000000000000", "0001000000000000", "9999999999990", "9223372036854775807", "9223372036854775808", "18446744073709551616", "18446744073709551617", strings.Repeat("9", 200), "- x", "-x", "--1", "- -1", "-(1)", "-'1'", "-true", "-null", "-t.x", "+1", "1 1", "1.5", "1.", ".5", "1.x", "1e3", "0x1", "1_000", "1,", "-", "1 -", "1 +", "* 1"} {
		checkNoExpression(t, s)
	}
	checkRead(t, "select 999999999999, -999999999999, -0, 010 from t", impl.Select{Items: asts(avalue(num(mostNumber)), avalue(num(-mostNumber)), avalue(num(0)), avalue(num(10))), From: []string{"t"}})
}

func TestP8Texts(t *testing.T) {
	from := []string{"t"}
	quoted := func(s string) string { return "'" + strings.ReplaceAll(s, "'", "''") + "'" }
	for _, s := range []string{"", "a", "'", "''", "'''", "a'b", "'a'", "''a", "a''", "\n", " ", "\x00", "\xff\xfe", "\u00e9", "select * from t", "x' from t", longest, strings.Repeat("'", impl.MaxText), longest[1:] + "'", "'" + longest[1:]} {
		checkRead(t, "select "+quoted(s)+" from t", impl.Select{Items: asts(avalue(text(s))), From: from})
		checkRead(t, "select*from t where "+quoted(s)+"~x", impl.Select{Star: true, From: from, Where: asts(aop("~", avalue(text(s)), aname("x")))})
		checkRead(t, "select*from t where x="+quoted(s), impl.Select{Star: true, From: from, Where: asts(aop("=", aname("x"), avalue(text(s))))})
	}
	for _, s := range []string{longest + "x", longest + "'", strings.Repeat("'", impl.MaxText+1), strings.Repeat("x", 256), strings.Repeat("x", 300)} {
		checkNoQuestion(t, "select "+quoted(s)+" from t")
		checkNoQuestion(t, "select * from t where x = "+quoted(s))
	}
	for _, s := range []string{"'", "'a", "'''", "'a''", "a'", "'a'b'", "'a' 'b'", "'a' x", "\"a\"", "`a`"} {
		checkNoExpression(t, s)
		checkNoQuestion(t, "select * from t where "+s)
		checkNoQuestion(t, "select * from "+s)
	}
}

func TestP8Names(t *testing.T) {
	from := []string{"t"}
	for _, name := range []string{"a", "z", "a0", "z9", "abcdefghij", "a123456789", "selects", "fro", "isnull", "nulls", "counts", "sum1", "order", "as", "in", "on"} {
		checkRead(t, "select "+name+" from t", impl.Select{Items: anames(name), From: from})
		checkRead(t, "select "+name+"."+name+" from "+name, impl.Select{Items: anames(name + "." + name), From: []string{name}})
		checkRead(t, "select "+name+" . \n"+name+" from "+name, impl.Select{Items: anames(name + "." + name), From: []string{name}})
		checkRead(t, "select "+name+",t."+name+",count(*)from t group by "+name+",t."+name, impl.Select{From: from, Group: anames(name + " t." + name)})
	}
	wrong := append([]string{"abcdefghijk", "a1234567890", strings.Repeat("a", 300), "A", "aB", "a_b", "_", "\u00e9", "a\u00e9", "a$", "a!", "1a", "a;", "a\x00", "a\tb"}, languageWords...)
	for _, name := range wrong {
		checkNoQuestion(t, "select * from "+name)
		checkNoQuestion(t, "select * from t, "+name)
		checkNoQuestion(t, "select t."+name+" from t")
		checkNoQuestion(t, "select "+name+".x from t")
		checkNoQuestion(t, "select x, "+name+", count(*) from t group by x, "+name)
		checkNoQuestion(t, "select t."+name+", count(*) from t group by t."+name)
		if !slices.Contains([]string{"null", "true", "false"}, name) {
			checkNoExpression(t, name)
		}
	}
	for _, s := range []string{"a.", ".a", "a..b", "a.b.c", "a b", "a.b c", "a.(b)", "(a).b", "a.*", "a.1", "a.'b'", "a.t.x", "t. count", "a,.b"} {
		checkNoExpression(t, s)
	}
	for _, s := range []string{"t.x", "(t)", "1", "'t'", "*", "", "t t", "t,", ",t", "t,,t", "t.", "null"} {
		checkNoQuestion(t, "select * from "+s)
	}
}

func TestP8LongestText(t *testing.T) {
	s := "select * from t"
	room := strings.Repeat(" ", impl.MaxQuery-len(s))
	want := impl.Select{Star: true, From: []string{"t"}}
	for _, full := range []string{s + room, room + s, "select" + room + s[6:]} {
		checkRead(t, full, want)
		checkNoQuestion(t, full+" ")
		checkNoQuestion(t, " "+full)
	}
	checkNoQuestion(t, s+strings.Repeat("\n", impl.MaxQuery))
	checkNoQuestion(t, strings.Repeat(" ", impl.MaxQuery))
	checkNoQuestion(t, strings.Repeat("select * from t union all ", 100)+s)
	// With its blanks and round brackets the text that is shown is longer, and past the limit it is no question.
	for count, longer := range map[int]bool{110: false, 111: true, 240: true} {
		q, ok := impl.ParseQuery("select " + strings.Repeat("a+b,", count-1) + "a from t")
		shown := impl.ShowQuery(q)
		if _, again := impl.ParseQuery(shown); !ok || len(q.Items) != count || len(shown) > impl.MaxQuery != longer || again == longer {
			t.Errorf("%d items: %v, shown with %d bytes, read again: %v", count, ok, len(shown), again)
		}
	}
}

func TestP8DeepestExpressions(t *testing.T) {
	leftSum := func(n int) string { return "x" + strings.Repeat("+x", n) }
	nots := func(n int) string { return strings.Repeat("not ", n) + "x" }
	rightSum := func(n int) string { return strings.Repeat("1+(", n-1) + "1+x" + strings.Repeat(")", n-1) }
	ands := func(n int) string { return "x" + strings.Repeat(" and x", n) }
	ors := func(n int) string { return "x" + strings.Repeat(" or 1", n) }
	quotients := func(n int) string { return "(x" + strings.Repeat("/2", n) + ")" }
	nulls := func(n int) string { return strings.Repeat("(", n) + "x" + strings.Repeat(" is null)", n) }
	mixed := func(n int) string { return "not " + strings.Repeat("(1>", n-1) + "x" + strings.Repeat(")", n-1) }
	for i, deep := range []func(n int) string{leftSum, nots, rightSum, ands, ors, quotients, nulls, mixed} {
		for _, n := range []int{2, impl.MaxDepth - 1, impl.MaxDepth} {
			q, ok := impl.ParseQuery("select " + deep(n) + " from t")
			if !ok || len(q.Items) != 1 || deepest(q.Items[0]) != n {
				t.Errorf("%d: %d deep: %v %v", i, n, ok, q)
			}
			checkQuestionComesBack(t, deep(n), q)
			checkExpression(t, deep(n), strings.TrimSuffix(strings.TrimPrefix(impl.ShowQuery(q), "select "), " from t"))
		}
		for _, n := range []int{impl.MaxDepth + 1, impl.MaxDepth + 2, 60} {
			checkNoQuestion(t, "select "+deep(n)+" from t")
			checkNoQuestion(t, "select a, "+deep(n)+" from t")
			checkNoQuestion(t, "select * from t where "+deep(n))
			checkNoQuestion(t, "select a, count(*), sum("+deep(n)+") from t group by a")
			checkNoQuestion(t, "select * from t union all select "+deep(n)+" from t")
		}
	}
	// Round brackets alone make nothing deeper.
	for _, n := range []int{impl.MaxDepth, impl.MaxDepth + 1, 300} {
		checkExpression(t, strings.Repeat("(", n/3)+"x"+strings.Repeat(")", n/3), "x")
	}
	checkShown(t, "select "+strings.Repeat("(", 400)+"x"+strings.Repeat(")", 400)+" from t", "select x from t")
	q, ok := impl.ParseQuery("select " + strings.Repeat("((", 40) + leftSum(impl.MaxDepth) + strings.Repeat("))", 40) + " from t")
	if !ok || deepest(q.Items[0]) != impl.MaxDepth {
		t.Error("brackets around the deepest")
	}
}

func deepest(e impl.Ast) int {
	depth := 0
	for _, kid := range e.Kids {
		depth = max(depth, 1+deepest(kid))
	}
	return depth
}

func TestP8MostTables(t *testing.T) {
	for n := 1; n <= mostFrom; n++ {
		names := slices.Repeat([]string{"t"}, n)
		checkRead(t, "select * from "+strings.Join(names, ", "), impl.Select{Star: true, From: names})
		checkRead(t, "select x,count(*)from "+strings.Join(names, ",")+"\nwhere x group by x", impl.Select{From: names, Where: anames("x"), Group: anames("x")})
	}
	for _, n := range []int{mostFrom + 1, mostFrom + 2, 100} {
		names := strings.Join(slices.Repeat([]string{"t"}, n), ", ")
		checkNoQuestion(t, "select * from "+names)
		checkNoQuestion(t, "select x, count(*) from "+names+" group by x")
		checkNoQuestion(t, "select * from t union all select * from "+names)
	}
	checkRead(t, "select * from a, b, c, d union all select * from a, b, c, d", impl.Select{Star: true, From: strings.Fields("a b c d"), Next: []impl.Select{{Star: true, From: strings.Fields("a b c d")}}})
}

func TestP8Groups(t *testing.T) {
	from := []string{"t"}
	for _, names := range []string{"x", "x y", "t.x", "x t.x", "x x x", "a b c d e f g h i j k l m n"} {
		list := strings.Join(strings.Fields(names), ", ")
		checkRead(t, "select "+list+", count(*) from t group by "+list, impl.Select{From: from, Group: anames(names)})
		checkRead(t, "select "+list+", count(*), sum(1) from t group by "+list, impl.Select{From: from, Group: anames(names), Sum: asts(avalue(num(1)))})
		checkNoQuestion(t, "select "+list+", count(*), sum(1) from t")
		checkNoQuestion(t, "select "+list+" from t group by "+list)
		checkNoQuestion(t, "select "+list+", sum(1) from t group by "+list)
		checkNoQuestion(t, "select "+list+", z, count(*) from t group by "+list)
		checkNoQuestion(t, "select z, "+list+", count(*) from t group by "+list)
		checkNoQuestion(t, "select "+list+", count(*) from t group by "+list+", z")
		checkNoQuestion(t, "select "+list+", count(*) from t group by z, "+list)
		checkNoQuestion(t, "select "+list+", count(*) from t group by z"+list[1:])
	}
	checkShown(t, "select t . x , count ( * ) , sum ( ( x ) ) from t group by t.x", "select t.x, count(*), sum(x) from t group by t.x")
	checkShown(t, "select\nx\n,\ncount\n(\n*\n)\n,\nsum\n(\nx\n)\nfrom\nt\ngroup\nby\nx", "select x, count(*), sum(x) from t group by x")
	for _, s := range []string{
		"select x, y, count(*) from t group by y, x", "select x, count(*) from t group by t.x", "select t.x, count(*) from t group by x", "select t.x, count(*) from t group by b.x", "select x, x, count(*) from t group by x", "select x, count(*) from t group by x, x", "select x, count(*) from t group by",
		"select * from t group by x", "select *, count(*) from t group by x", "select count(*) from t", "select count(*) from t group by x", "select count(*), x from t group by x", "select sum(x) from t", "select sum(x), count(*) from t group by x", "select x, sum(x), count(*) from t group by x", "select x, sum(x) from t", "select x, count(*) from t", "select x, count(*), sum(x) from t",
		"select x, count(*), sum(x), y from t group by x", "select x, count(*), sum(x), y from t group by x, y", "select x, count(*), sum(x), count(*) from t group by x", "select x, count(*), sum(x), sum(x) from t group by x", "select x, count(*), sum(x) y from t group by x", "select x, count(*), sum(x), from t group by x", "select x, count(*), y from t group by x", "select x, count(*), y from t group by x, y", "select x, count(*), from t group by x", "select x, count(*), count(*) from t group by x", "select x, count(*), sum(x) + 1 from t group by x", "select x, count(*) + 1 from t group by x", "select x, count(*) is null from t group by x",
		"select x, count(x) from t group by x", "select x, count() from t group by x", "select x, count * from t group by x", "select x, count(*, *) from t group by x", "select x, count(* from t group by x", "select x, count*) from t group by x", "select x count(*) from t group by x", "select x, (count(*)) from t group by x", "select x, count(*), sum() from t group by x", "select x, count(*), sum(*) from t group by x", "select x, count(*), sum x from t group by x", "select x, count(*), sum(x from t group by x", "select x, count(*), sum(x, y) from t group by x", "select x, count(*), sum(x)) from t group by x", "select x, count(*), (sum(x)) from t group by x", "select x, count(*) sum(x) from t group by x", "select x, count(*), sum(sum(x)) from t group by x", "select x, count(*), sum(count(*)) from t group by x",
		"select x + 1, count(*) from t group by x", "select x + 1, count(*) from t group by x + 1", "select 1, count(*) from t group by 1", "select (x), count(*) from t group by x", "select x, count(*) from t group by (x)", "select 'x', count(*) from t group by x", "select null, count(*) from t group by null", "select not x, count(*) from t group by x",
		"select x, count(*) from t group x", "select x, count(*) from t by x", "select x, count(*) from t group by x where x", "select x, count(*) from t group by x group by x", "select x, count(*) from t group by x,", "select x, count(*) from t group by , x", "select x, count(*) from t group by x y", "select x, count(*) from t group by x.y.z", "select x, count(*) from t groupby x", "select x, count(*) group by x from t",
		"select x, count(*) from t union all select x from t group by x", "select x, count(*) from t union all select x, count(*) from t group by x",
	} {
		checkNoQuestion(t, s)
	}
}

func TestP8BlanksAndNewlines(t *testing.T) {
	words := strings.Fields("select distinct x , ( y + -1 ) , 'a' , t . x from t , b where not x = 'b' and y is null or ( null ) < 2 union all select x , count ( * ) , sum ( x / 2 ) from t group by x")
	want, ok := impl.ParseQuery(strings.Join(words, " "))
	if !ok || len(want.Next) != 1 {
		t.Fatalf("with a blank each: %v", want)
	}
	for _, gap := range []string{"\n", "  ", " \n", "\n\n \n"} {
		checkRead(t, gap+strings.Join(words, gap)+gap, want)
		for i := range words {
			checkRead(t, strings.Join(words[:i], " ")+gap+strings.Join(words[i:], " "), want)
		}
	}
	checkRead(t, joinedTightly(words), want)
	for _, gap := range []string{"\t", "\r", "\r\n", "\v", "\f", "\u00a0", "\u2003", "\x00", ";", "--", "/*", "_"} {
		for i := range words {
			checkNoQuestion(t, strings.Join(words[:i], " ")+gap+strings.Join(words[i:], " "))
		}
		checkNoQuestion(t, strings.Join(words, " ")+gap)
	}
	checkRead(t, "select*from t", impl.Select{Star: true, From: []string{"t"}})
	checkRead(t, "select'a'from t", impl.Select{Items: asts(avalue(text("a"))), From: []string{"t"}})
	checkRead(t, "select(x)from t", impl.Select{Items: anames("x"), From: []string{"t"}})
	checkRead(t, "select-1from t", impl.Select{Items: asts(avalue(num(-1))), From: []string{"t"}})
	checkRead(t, "select 1from t where 2is null", impl.Select{Items: asts(avalue(num(1))), From: []string{"t"}, Where: asts(anull(avalue(num(2))))})
	for _, s := range []string{"selectx from t", "select xfrom t", "select x fromt", "selectdistinct x from t", "select x from twhere x", "select x from t wherex", "select x from t unionall select x from t", "select x from t union allselect x from t", "select notx y from t", "select x andy from t", "sel ect x from t", "select x fr om t", "select 'a from t", "select x from t where a b", "select x1 2 from t", "select 1 2 from t"} {
		checkNoQuestion(t, s)
	}
}

// joinedTightly has a blank between two words only where both are of letters or digits.
func joinedTightly(words []string) string {
	plain := func(c byte) bool { return 'a' <= c && c <= 'z' || '0' <= c && c <= '9' }
	s := ""
	for _, w := range words {
		if s != "" && plain(s[len(s)-1]) && plain(w[0]) {
			s += " "
		}
		s += w
	}
	return s
}

func TestP8WordsAheadAndBehind(t *testing.T) {
	s := "select x from t"
	for _, more := range append(strings.Fields("x 1 'a' * , ( ) . = < > ~ + - / t.x"), languageWords...) {
		checkNoQuestion(t, more+" "+s)
		checkNoQuestion(t, s+" "+more)
		checkNoQuestion(t, s+" where x "+more)
		checkNoQuestion(t, s+" union all "+s+" "+more)
		checkNoQuestion(t, s+" union all "+more+" "+s)
		checkNoQuestion(t, s+" "+more+" union all "+s)
	}
	for _, s := range []string{
		"x select x from t", "select select x from t", "distinct select x from t", "all select x from t", "union all select x from t", "(select x from t)", "select x from t;", "select distinct distinct x from t", "select all x from t", "select x distinct from t", "select x from distinct t", "select x from t from t", "select x from t where x where y", "select x from t union all", "select x from t union select x from t", "select x from t all select x from t", "select x from t union all union all select x from t", "select x from t union all (select x from t)", "select x from (select x from t)", "select x from t where x group by y", "select x from t x", "select x as y from t", "select x from t order by x",
		"select", "from", "select from", "select from t", "select x", "select x from", "select * from", "select *", "select * *", "select * x from t", "select x * from t", "select x, * from t", "select *, x from t", "select distinct", "select distinct from t", "select x, from t", "select , x from t", "select x,, y from t", "select x from t where", "select x from t where where", "select x where x from t", "select x from t where x = ", "Select x from t", "SELECT x FROM t", "select x From t", "select x from T",
	} {
		checkNoQuestion(t, s)
	}
}

func TestP8BracketsThatDoNotFit(t *testing.T) {
	for _, s := range []string{"(x", "x)", "((x)", "(x))", "()", "(())", ")x(", "(x y)", "(x,y)", "(x)(y)", "x(y)", "(x) y", "(", ")", "x + (y", "x + y)", "(x +) y", "x (+ y)", "not (x", "(not) x", "(x is) null", "(x = y", "x = (y", "(1", "('a'", "(null", "[x]", "{x}", strings.Repeat("(", 500), strings.Repeat(")", 500), strings.Repeat("(", 100) + "x" + strings.Repeat(")", 99), strings.Repeat("(", 99) + "x" + strings.Repeat(")", 100)} {
		checkNoExpression(t, s)
	}
}

func TestP8ShowOfWhatWasNeverRead(t *testing.T) {
	x, y, z := aname("x"), aname("y"), aname("z")
	wrong, from := impl.Ast{Kind: 9, Text: "w", Kids: asts(x)}, []string{"t"}
	group, sum, items := anames("x t.y"), asts(z), anames("a b")
	one := func(e impl.Ast) impl.Select { return impl.Select{Items: asts(e), From: from} }
	for i, c := range []struct {
		q    impl.Select
		want string
	}{
		{impl.Select{Star: true, Group: group, Items: items, Sum: sum, From: from, Where: asts(z)}, "select * from t where z group by x, t.y"},
		{impl.Select{Star: true, Group: group, From: from}, "select * from t group by x, t.y"},
		{impl.Select{Star: true, Items: items, From: from}, "select * from t"},
		{impl.Select{Distinct: true, Group: group, Items: items, From: from}, "select distinct x, t.y, count(*) from t group by x, t.y"},
		{impl.Select{Group: group, Items: items, Sum: sum, From: from}, "select x, t.y, count(*), sum(z) from t group by x, t.y"},
		{impl.Select{Items: items, Sum: sum, From: from}, "select a, b from t"},
		{impl.Select{Star: true, Sum: sum, From: from}, "select * from t"},
		{impl.Select{Group: asts(aop("+", x, y)), From: from}, "select (x + y), count(*) from t group by (x + y)"},
		{impl.Select{Star: true, From: strings.Fields("a b c d e f")}, "select * from a, b, c, d, e, f"},
		{impl.Select{Items: asts(wrong, x, wrong), From: from}, "select , x,  from t"}, {one(wrong), "select  from t"}, {impl.Select{From: from}, "select  from t"}, {impl.Select{Star: true}, "select * from "}, {impl.Select{}, "select  from "},
		{impl.Select{Star: true, From: from, Where: asts(wrong)}, "select * from t where "}, {impl.Select{From: from, Group: asts(x), Sum: asts(wrong)}, "select x, count(*), sum() from t group by x"},
		{one(aop("+")), "select ( + ) from t"}, {one(aop("+", x)), "select (x + ) from t"}, {one(aop("+", x, y, z)), "select (x + y) from t"}, {one(aop("+", wrong, y)), "select ( + y) from t"}, {one(aop("+", x, wrong)), "select (x + ) from t"}, {one(aop("and", x, y, z, wrong)), "select (x and y) from t"}, {one(aop("nand", x, y)), "select (x nand y) from t"}, {one(aop(">", x, y)), "select (x > y) from t"},
		{one(anot()), "select (not ) from t"}, {one(anot(x, y)), "select (not x) from t"}, {one(anot(wrong, y)), "select (not ) from t"}, {one(anull()), "select ( is null) from t"}, {one(anull(x, y, z)), "select (x is null) from t"}, {one(anull(anot(aop("=", x)))), "select ((not (x = )) is null) from t"},
		{one(impl.Ast{Kind: impl.AName, Text: "select", V: yes, Kids: asts(x)}), "select select from t"}, {one(impl.Ast{Kind: impl.AValue, V: num(7), Text: "x", Kids: asts(x)}), "select 7 from t"}, {one(impl.Ast{Kind: impl.ANot, Text: "w", V: yes, Kids: asts(x)}), "select (not x) from t"},
		{one(avalue(num(math.MinInt))), "select -9223372036854775808 from t"}, {one(avalue(text(longest + "x"))), "select  from t"}, {one(avalue(truth(2))), "select  from t"}, {one(impl.Ast{Kind: -1, Text: "x"}), "select  from t"}, {one(impl.Ast{Kind: 5, Text: "x"}), "select  from t"},
		{impl.Select{Star: true, From: from, Next: []impl.Select{{Next: []impl.Select{one(x)}}}}, "select * from t union all select  from  union all select x from t"},
		{impl.Select{Star: true, From: from, Where: asts(x, y), Next: []impl.Select{one(x), one(y)}}, "select * from t where x union all select x from t"},
		{impl.Select{From: from, Group: asts(x), Sum: asts(y, z)}, "select x, count(*), sum(y) from t group by x"},
	} {
		if got := impl.ShowQuery(c.q); got != c.want {
			t.Errorf("%d: %q, want %q", i, got, c.want)
		}
	}
}

// someQuestions are all different.
func someQuestions() []impl.Select {
	x, y, from := aname("x"), aname("y"), []string{"t"}
	base := impl.Select{Items: asts(x), From: from}
	list := []impl.Select{
		{}, {Distinct: true}, {Star: true}, {Distinct: true, Star: true}, {From: from}, {From: []string{"t", "t"}}, {From: []string{"a"}}, {From: []string{"a", "t"}}, {From: []string{"t", "a"}}, {From: []string{""}}, {Items: asts(x)}, {Where: asts(x)}, {Group: asts(x)}, {Sum: asts(x)}, {Items: asts(x), Sum: asts(x)}, {Group: asts(x), Sum: asts(x)}, {Items: asts(x, x)}, {Items: asts(x, y)}, {Items: asts(y, x)}, {Where: asts(x, x)}, {Group: asts(x, x)}, {Sum: asts(x, x)},
		base, {Next: []impl.Select{base}}, {Next: []impl.Select{base, base}}, {Next: []impl.Select{{}}}, {Next: []impl.Select{{Next: []impl.Select{{}}}}}, {Items: asts(x), From: from, Next: []impl.Select{base}}, {Items: asts(x), From: from, Next: []impl.Select{{Items: asts(y), From: from}}},
	}
	for _, e := range []impl.Ast{{Kind: 9}, {Kind: 9, Text: "x"}, {Kind: 9, Kids: asts(x)}, {Kind: impl.AName, Text: "x", V: yes}, {Kind: impl.AName, Text: "x", Kids: asts(x)}, avalue(null), avalue(no), avalue(yes), avalue(num(0)), avalue(num(1)), avalue(text("")), avalue(text("x")), aname(""), aop("+", x, y), aop("+", y, x), aop("-", x, y), aop("+", x), aop("+"), aop("+", x, y, x), aop("+", x, anot(y)), anot(x), anot(y), anot(), anull(x), anull(), anot(anot(x)), anot(anull(x)), anull(anot(x))} {
		list = append(list, impl.Select{Items: asts(e)}, impl.Select{Where: asts(e, x)}, impl.Select{Sum: asts(x, e)}, impl.Select{Group: asts(x, e), Star: true}, impl.Select{Next: []impl.Select{{Distinct: true, Items: asts(y, e)}}})
	}
	return list
}

func TestP8SameQuery(t *testing.T) {
	list, again := someQuestions(), someQuestions()
	for i, a := range list {
		for k, b := range again {
			if got := impl.SameQuery(a, b); got != (i == k) {
				t.Errorf("%v %v: %v", a, b, got)
			}
		}
	}
	empty := impl.Select{Items: asts(impl.Ast{Kids: asts()}), From: []string{}, Where: asts(), Group: asts(), Sum: asts(), Next: []impl.Select{}}
	if !impl.SameQuery(empty, impl.Select{Items: asts(impl.Ast{})}) || !impl.SameQuery(impl.Select{Items: asts(impl.Ast{})}, empty) {
		t.Error("no list and an empty one")
	}
}

// A writer tells questions without the program, with no more round brackets than there have to be, and some more by chance.
type writer struct {
	r     *rand.Rand
	words []string
}

func (w *writer) put(words ...string) { w.words = append(w.words, words...) }

func (w *writer) commas(list []impl.Ast) {
	for i, e := range list {
		if i > 0 {
			w.put(",")
		}
		w.exp(e, 0)
	}
}

var ranks = map[string]int{"or": 0, "and": 1, "=": 3, "<": 3, "~": 3, "+": 4, "-": 4, "*": 5, "/": 5}

const (
	rankNot     = 2
	rankCompare = 3
	rankSum     = 4
	rankSingle  = 6
)

func rankOf(e impl.Ast) int {
	switch e.Kind {
	case impl.AOp:
		return ranks[e.Text]
	case impl.ANot:
		return rankNot
	case impl.AIsNull:
		return rankCompare
	}
	return rankSingle
}

// exp tells e where nothing looser than rank may stand bare.
func (w *writer) exp(e impl.Ast, rank int) {
	if rankOf(e) < rank || e.Kind != impl.AName && w.r.Intn(10) == 0 {
		w.put("(")
		w.exp(e, 0)
		w.put(")")
		return
	}
	switch e.Kind {
	case impl.AName:
		w.name(e.Text)
	case impl.AValue:
		w.value(e.V)
	case impl.AOp:
		w.op(e)
	case impl.ANot:
		w.put("not")
		w.exp(e.Kids[0], rankNot)
	case impl.AIsNull:
		w.exp(e.Kids[0], rankSum)
		w.put("is", "null")
	}
}

func (w *writer) op(e impl.Ast) {
	rank := ranks[e.Text]
	first, second, sign := e.Kids[0], e.Kids[1], e.Text
	if sign == "<" && w.r.Intn(2) == 0 {
		first, second, sign = second, first, ">"
	}
	left := rank
	if rank == rankCompare {
		left = rankSum
	}
	w.exp(first, left)
	w.put(sign)
	w.exp(second, rank+1)
}

func (w *writer) name(s string) {
	table, column, two := strings.Cut(s, ".")
	w.put(table)
	if two {
		w.put(".", column)
	}
}

func (w *writer) value(v impl.Value) {
	if v.Kind == impl.VInt && v.N < 0 {
		w.put("-")
		v.N = -v.N
	}
	w.put(impl.ValueText(v))
}

func (w *writer) question(q impl.Select) {
	w.put("select")
	if q.Distinct {
		w.put("distinct")
	}
	switch {
	case q.Star:
		w.put("*")
	case len(q.Group) > 0:
		w.commas(q.Group)
		w.put(",", "count", "(", "*", ")")
		for _, e := range q.Sum {
			w.put(",", "sum", "(")
			w.exp(e, 0)
			w.put(")")
		}
	default:
		w.commas(q.Items)
	}
	w.put("from")
	for i, name := range q.From {
		if i > 0 {
			w.put(",")
		}
		w.put(name)
	}
	w.behindFrom(q)
}

func (w *writer) behindFrom(q impl.Select) {
	for _, e := range q.Where {
		w.put("where")
		w.exp(e, 0)
	}
	if len(q.Group) > 0 {
		w.put("group", "by")
		w.commas(q.Group)
	}
	for _, next := range q.Next {
		w.put("union", "all")
		w.question(next)
	}
}

// spaced has as many blanks and newlines between words as chance will, and one at least where two words would be one without.
func spaced(r *rand.Rand, words []string) string {
	gap := func() string { return []string{"", "", " ", "\n", "  "}[r.Intn(5)] }
	s := gap()
	for _, w := range words {
		between := gap()
		if between == "" && joinedTightly([]string{s, w}) != s+w {
			between = " "
		}
		s += between + w
	}
	return s + gap()
}

func randomAst(r *rand.Rand, depth int) impl.Ast {
	kid := func() impl.Ast { return randomAst(r, depth-1-r.Intn(2)) }
	choice := r.Intn(10)
	switch {
	case depth <= 0 || choice < 2:
		if r.Intn(2) == 0 {
			return aname(randomName(r))
		}
		return avalue(randomSmall(r))
	case choice < 8:
		return aop(ops[r.Intn(len(ops))], kid(), kid())
	case choice == 8:
		return anot(kid())
	}
	return anull(kid())
}

func randomName(r *rand.Rand) string {
	return []string{"x", "y", "z", "t.x", "b.y1", "abcdefghij", "isx"}[r.Intn(7)]
}

func randomSmall(r *rand.Rand) impl.Value {
	return []impl.Value{null, yes, no, num(0), num(r.Intn(100)), num(-1 - r.Intn(100)), num(mostNumber), num(-mostNumber), text(""), text("a'b"), text("x\n\xff"), text("'")}[r.Intn(12)]
}

func randomQuestion(r *rand.Rand, more int) impl.Select {
	q := impl.Select{Distinct: r.Intn(2) == 0, From: []string{"t", "b", "t", "abcdefghij"}[:1+r.Intn(4)]}
	switch r.Intn(3) {
	case 0:
		q.Star = true
	case 1:
		for range 1 + r.Intn(3) {
			q.Items = append(q.Items, randomAst(r, r.Intn(5)))
		}
	case 2:
		for range 1 + r.Intn(3) {
			q.Group = append(q.Group, aname(randomName(r)))
		}
		if r.Intn(2) == 0 {
			q.Sum = asts(randomAst(r, r.Intn(5)))
		}
	}
	if r.Intn(2) == 0 {
		q.Where = asts(randomAst(r, r.Intn(6)))
	}
	if more > 0 && r.Intn(3) == 0 {
		q.Next = []impl.Select{randomQuestion(r, more-1)}
	}
	return q
}

func TestP8AnyQuestionIsReadAsItIsWritten(t *testing.T) {
	r := rand.New(rand.NewSource(8))
	read := 0
	for range 6000 {
		q := randomQuestion(r, 3)
		w := &writer{r: r}
		w.question(q)
		if s := spaced(r, w.words); len(s) <= impl.MaxQuery {
			checkRead(t, s, q)
			read++
		}
		if t.Failed() {
			return
		}
	}
	if read < 5000 {
		t.Errorf("only %d were short enough", read)
	}
}

// checkAnyText asks of any text that it is none, or a question that comes back.
func checkAnyText(t *testing.T, s string) bool {
	t.Helper()
	q, ok := impl.ParseQuery(s)
	if !ok {
		checkNoQuestion(t, s)
		return false
	}
	checkQuestionComesBack(t, s, q)
	return true
}

func TestP8AnyTexts(t *testing.T) {
	for _, s := range []string{"", " ", "\n", "\x00", "'", "''", "(", ")", ",", ".", "-", "*", "\xff\xfe", "\u00e9", "select\x00* from t", "select * from t\x00", "\xef\xbb\xbfselect * from t", "select * from t -- x", "select * from t # x"} {
		checkNoQuestion(t, s)
	}
	r := rand.New(rand.NewSource(88))
	words := append(strings.Fields("x y t . . , , ( ) ( ) * + - / = < > ~ 1 23 'a' '' ' t.x count(*) sum( group by union all is null select from t"), languageWords...)
	right := 0
	for range 20000 {
		some := []string{}
		for range r.Intn(12) {
			some = append(some, words[r.Intn(len(words))])
		}
		if checkAnyText(t, strings.Join(some, " ")) || checkAnyText(t, "select "+strings.Join(some, " ")+" from t") || checkAnyText(t, "select * from t where "+strings.Join(some, " ")) {
			right++
		}
	}
	if right < 100 {
		t.Errorf("only %d were questions", right)
	}
	for range 5000 {
		bytes := make([]byte, r.Intn(60))
		for i := range bytes {
			bytes[i] = byte(r.Intn(256))
		}
		checkNoQuestion(t, string(bytes))
		checkNoQuestion(t, strings.Repeat(string(bytes), 30))
	}
}

func TestP8QuestionsWithOneByteAmiss(t *testing.T) {
	r := rand.New(rand.NewSource(888))
	for _, s := range []string{
		"select distinct x, (y + 1), t.z from t, b where not x = 'it''s' and y is null union all select * from a",
		"select x, t.y, count(*), sum(z * 2) from t where x > -12 or true group by x, t.y",
	} {
		for i := range len(s) {
			checkAnyText(t, s[:i])
			checkAnyText(t, s[i:])
			checkAnyText(t, s[:i]+s[i+1:])
			checkAnyText(t, s[:i]+s[i:i+1]+s[i:])
			for c := range 256 {
				checkAnyText(t, s[:i]+string([]byte{byte(c)})+s[i:])
				checkAnyText(t, s[:i]+string([]byte{byte(c)})+s[i+1:])
			}
			k := r.Intn(len(s))
			checkAnyText(t, s[:min(i, k)]+s[max(i, k):])
		}
	}
}

// roomyAsts are a copy whose lists all have room behind them, with something in it.
func roomyAsts(list []impl.Ast) []impl.Ast {
	out := make([]impl.Ast, 0, len(list)+2)
	for _, e := range list {
		e.Kids = roomyAsts(e.Kids)
		out = append(out, e)
	}
	out = append(out, aname("room"), anot(aname("room")))
	return out[:len(list)]
}

func roomySelects(list []impl.Select) []impl.Select {
	out := make([]impl.Select, 0, len(list)+1)
	for _, q := range list {
		from := append(append(make([]string, 0, len(q.From)+1), q.From...), "room")
		out = append(out, impl.Select{Distinct: q.Distinct, Star: q.Star, From: from[:len(q.From)], Items: roomyAsts(q.Items), Where: roomyAsts(q.Where), Group: roomyAsts(q.Group), Sum: roomyAsts(q.Sum), Next: roomySelects(q.Next)})
	}
	return append(out, impl.Select{Star: true, From: []string{"room"}})[:len(list)]
}

// seenAsts and seenSelects are a copy of all that can be seen, the room behind each list too.
func seenAsts(list []impl.Ast) []impl.Ast {
	out := []impl.Ast{}
	for _, e := range list[:cap(list)] {
		e.Kids = seenAsts(e.Kids)
		out = append(out, e)
	}
	return out
}

func seenSelects(list []impl.Select) []impl.Select {
	out := []impl.Select{}
	for _, q := range list[:cap(list)] {
		out = append(out, impl.Select{Distinct: q.Distinct, Star: q.Star, From: slices.Clone(q.From[:cap(q.From)]), Items: seenAsts(q.Items), Where: seenAsts(q.Where), Group: seenAsts(q.Group), Sum: seenAsts(q.Sum), Next: seenSelects(q.Next)})
	}
	return out
}

func TestP13QuestionsWriteIntoNoArgument(t *testing.T) {
	list := someQuestions()
	r := rand.New(rand.NewSource(13))
	for range 200 {
		list = append(list, randomQuestion(r, 3))
	}
	for i, q := range list {
		given, other := roomySelects([]impl.Select{q}), roomySelects([]impl.Select{q, list[(i+1)%len(list)]})
		wasGiven, wasOther := seenSelects(given), seenSelects(other)
		text := impl.ShowQuery(given[0])
		if !impl.SameQuery(given[0], other[0]) || !impl.SameQuery(given[0], given[0]) || text != impl.ShowQuery(q) || text != impl.ShowQuery(other[0]) {
			t.Errorf("with room behind the lists: %v", q)
		}
		impl.SameQuery(given[0], other[1])
		impl.SameQuery(other[1], given[0])
		if !reflect.DeepEqual(seenSelects(given), wasGiven) || !reflect.DeepEqual(seenSelects(other), wasOther) {
			t.Errorf("written into: %v", q)
		}
	}
}

// placesIn counts the places of all lists of asts and of questions, the room behind them too.
func placesIn(list []impl.Ast, places map[any]int) {
	all := list[:cap(list)]
	for i := range all {
		places[&all[i]]++
		placesIn(all[i].Kids, places)
	}
}

func placesOfQuestion(q impl.Select, places map[any]int) {
	for _, list := range [][]impl.Ast{q.Items, q.Where, q.Group, q.Sum} {
		placesIn(list, places)
	}
	names := q.From[:cap(q.From)]
	for i := range names {
		places[&names[i]]++
	}
	for i := range q.Next {
		places[&q.Next[i]]++
		placesOfQuestion(q.Next[i], places)
	}
}

func TestP13ReadQuestionsShareNoLists(t *testing.T) {
	r := rand.New(rand.NewSource(131))
	texts := []string{"select x, y, count(*), sum(x) from t, b where x > y group by x, y union all select x, x, x, x from t, b where x > y", "select a = b, a = b, not not a from t union all select a = b, a = b, not not a from t"}
	for range 300 {
		texts = append(texts, impl.ShowQuery(randomQuestion(r, 3)))
	}
	for _, s := range texts {
		q, ok := impl.ParseQuery(s)
		if !ok {
			continue
		}
		places := map[any]int{}
		placesOfQuestion(q, places)
		again, _ := impl.ParseQuery(s)
		placesOfQuestion(again, places)
		for place, count := range places {
			if count > 1 {
				t.Errorf("%q: %d lists share %v", s, count, place)
			}
		}
	}
}

func belowAst(depth int, e impl.Ast) impl.Ast {
	for range depth {
		e = anot(e)
	}
	return e
}

func TestP13QuestionsOfAnyDepth(t *testing.T) {
	const depth = 200000
	x, from := aname("x"), []string{"t"}
	deep, wide := belowAst(depth, x), x
	for range depth {
		wide = aop("+", x, wide)
	}
	for _, e := range []impl.Ast{deep, wide} {
		for _, q := range []impl.Select{{Items: asts(e), From: from}, {Star: true, From: from, Where: asts(e)}, {From: from, Group: asts(e), Sum: asts(e)}} {
			s := impl.ShowQuery(q)
			if strings.Count(s, "(") < depth || strings.Count(s, "(") != strings.Count(s, ")") || !strings.HasPrefix(s, "select ") || !impl.SameQuery(q, q) || impl.SameQuery(q, impl.Select{From: from}) {
				t.Error("a deep expression")
			}
			checkNoQuestion(t, s)
		}
	}
	if impl.SameQuery(impl.Select{Items: asts(deep)}, impl.Select{Items: asts(belowAst(depth, aname("y")))}) || !impl.SameQuery(impl.Select{Items: asts(deep)}, impl.Select{Items: asts(belowAst(depth, x))}) {
		t.Error("deep expressions that differ at the end, or do not")
	}
	long, other := impl.Select{Star: true, From: from}, impl.Select{Star: true, From: []string{"b"}}
	for range depth {
		long, other = impl.Select{Items: asts(x), From: from, Next: []impl.Select{long}}, impl.Select{Items: asts(x), From: from, Next: []impl.Select{other}}
	}
	if got := impl.ShowQuery(long); got != strings.Repeat("select x from t union all ", depth)+"select * from t" || !impl.SameQuery(long, long) || impl.SameQuery(long, other) || impl.SameQuery(long, long.Next[0]) {
		t.Error("a question deep within Next")
	}
	for _, n := range []int{0, 1, 5, 20} {
		part := other
		for range depth - n {
			part = part.Next[0]
		}
		checkRead(t, impl.ShowQuery(part), part)
	}
}

func TestP13QuestionsOfManyParts(t *testing.T) {
	const count = 100000
	names, tables := asts(), []string{}
	for range count {
		names, tables = append(names, aname("abcdefghij.klmnopqrst")), append(tables, "abcdefghij")
	}
	list := strings.Repeat("abcdefghij.klmnopqrst, ", count)
	if got := impl.ShowQuery(impl.Select{Group: names, From: tables}); got != "select "+list+"count(*) from "+strings.Repeat("abcdefghij, ", count-1)+"abcdefghij group by "+strings.TrimSuffix(list, ", ") {
		t.Error("many names")
	}
	alike := slices.Repeat(asts(aop("+", anot(aname("x")), aname("y"))), count)
	if got := impl.ShowQuery(impl.Select{Items: alike, From: []string{"t"}}); got != "select "+strings.Repeat("((not x) + y), ", count-1)+"((not x) + y) from t" {
		t.Error("one list at many places")
	}
	// Group is shown at two places, however long its text is.
	longName := strings.Repeat("x", 20000000)
	if got := impl.ShowQuery(impl.Select{Group: asts(anot(aname(longName)), anot(aname("y")))}); got != "select (not "+longName+"), (not y), count(*) from  group by (not "+longName+"), (not y)" {
		t.Error("a long name")
	}
}

// ringAst is a not of a not and so on without end.
func ringAst(length int) impl.Ast {
	last := make([]impl.Ast, 1)
	first := belowAst(length-1, anot(last...))
	last[0] = first
	return first
}

func ringSelect(length int) impl.Select {
	last := make([]impl.Select, 1)
	first := impl.Select{Star: true, From: []string{"t"}, Next: last}
	for range length - 1 {
		first = impl.Select{Star: true, From: []string{"t"}, Next: []impl.Select{first}}
	}
	last[0] = first
	return first
}

func TestP13QuestionsOfSharedLists(t *testing.T) {
	shared, other := aname("x"), aname("x")
	for range 100 {
		shared, other = aop("and", shared, shared), aop("and", other, other)
	}
	one := func(e impl.Ast) impl.Select { return impl.Select{Items: asts(e), From: []string{"t"}} }
	if !impl.SameQuery(one(shared), one(other)) || impl.SameQuery(one(shared), one(aop("and", other, other))) {
		t.Error("a list at many places")
	}
	for _, e := range []impl.Ast{shared, ringAst(1), ringAst(3)} {
		if s := impl.ShowQuery(one(e)); !strings.HasPrefix(s, "select (") || !strings.HasSuffix(s, ") from t") || strings.Count(s, "(") != strings.Count(s, ")") {
			t.Errorf("a text that would not end: %d bytes", len(s))
		}
	}
	for _, length := range []int{1, 2, 3} {
		if ring := ringAst(length); !impl.SameQuery(one(ring), one(ringAst(2*length))) || impl.SameQuery(one(ring), one(belowAst(50, aname("x")))) || impl.SameQuery(one(ring), one(anull(ring))) {
			t.Error("a list within itself")
		}
		ring := ringSelect(length)
		if s := impl.ShowQuery(ring); !strings.HasPrefix(s, "select * from t union all select * from t") || !impl.SameQuery(ring, ringSelect(2*length)) || impl.SameQuery(ring, impl.Select{Star: true, From: []string{"b"}, Next: ring.Next}) {
			t.Error("a question within itself")
		}
	}
}
