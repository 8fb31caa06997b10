package tests

import (
	"math"
	"math/rand"
	"reflect"
	"slices"
	"strings"
	"testing"

	"loop.example/g00312/impl"
)

var ops = []string{"+", "-", "*", "/", "=", "<", "~", "and", "or"}

func col(n int) impl.Exp { return impl.Exp{Kind: impl.ExpCol, N: n} }

func lit(v impl.Value) impl.Exp { return impl.Exp{Kind: impl.ExpValue, V: v} }

func op(sign string, kids ...impl.Exp) impl.Exp {
	return impl.Exp{Kind: impl.ExpOp, Op: sign, Kids: kids}
}

func not(kids ...impl.Exp) impl.Exp { return impl.Exp{Kind: impl.ExpNot, Kids: kids} }

func isNull(kids ...impl.Exp) impl.Exp { return impl.Exp{Kind: impl.ExpIsNull, Kids: kids} }

func other(kids ...impl.Exp) impl.Exp { return impl.Exp{Kind: 9, Kids: kids} }

// below has e just so deep below its top.
func below(depth int, e impl.Exp) impl.Exp {
	for range depth {
		e = not(e)
	}
	return e
}

// beside has e just so deep below its top, at the right of an op each time.
func beside(depth int, sign string, e impl.Exp) impl.Exp {
	for range depth {
		e = op(sign, lit(yes), e)
	}
	return e
}

// leftChain is a chain of and from the left, made without the program.
func leftChain(first impl.Exp, more ...impl.Exp) impl.Exp {
	for _, e := range more {
		first = op("and", first, e)
	}
	return first
}

// columns are the columns 0 .. count-1.
func columns(count int) []impl.Exp {
	out := []impl.Exp{}
	for n := range count {
		out = append(out, col(n))
	}
	return out
}

func rightExps() []impl.Exp {
	list := []impl.Exp{
		col(0), col(1), col(impl.MaxWidth - 1), not(col(2)), isNull(col(0)), not(isNull(not(lit(null)))),
		below(impl.MaxDepth, col(0)), below(impl.MaxDepth, lit(text("a"))), below(impl.MaxDepth-1, op("+", col(0), col(1))), beside(impl.MaxDepth, "and", col(4)),
		op("and", op("<", col(0), col(1)), op("=", op("+", col(0), lit(num(5))), col(1))),
		{Kind: impl.ExpCol, N: 3, Kids: []impl.Exp{}},
	}
	for _, v := range rightValues() {
		list = append(list, lit(v))
	}
	for _, sign := range ops {
		list = append(list, op(sign, col(1), lit(num(2))), beside(impl.MaxDepth, sign, col(0)))
	}
	return list
}

// wrongParts are expressions each with one thing at their top that is not right.
func wrongParts() []impl.Exp {
	a, b := col(0), lit(yes)
	list := []impl.Exp{
		col(-1), col(impl.MaxWidth), col(math.MinInt), col(math.MaxInt),
		{Kind: -1}, {Kind: 5}, {Kind: 256}, {Kind: math.MinInt}, {Kind: math.MaxInt}, other(), other(a), other(a, b),
		not(), not(a, b), isNull(), isNull(a, b), op("and"), op("and", a), op("and", a, b, a), op("+", a), op("+", a, b, a),
		{Kind: impl.ExpCol, V: yes}, {Kind: impl.ExpCol, Op: "+"}, {Kind: impl.ExpCol, Kids: []impl.Exp{a}},
		{Kind: impl.ExpValue, N: 1}, {Kind: impl.ExpValue, Op: "+"}, {Kind: impl.ExpValue, Kids: []impl.Exp{a}},
		{Kind: impl.ExpOp, Op: "+", N: 1, Kids: []impl.Exp{a, b}}, {Kind: impl.ExpOp, Op: "+", V: yes, Kids: []impl.Exp{a, b}},
		{Kind: impl.ExpOp, Op: "and", N: -1, Kids: []impl.Exp{b, b}}, {Kind: impl.ExpOp, Op: "and", V: yes, Kids: []impl.Exp{b, b}},
	}
	for _, kind := range []int{impl.ExpNot, impl.ExpIsNull} {
		list = append(list, impl.Exp{Kind: kind, N: 1, Kids: []impl.Exp{a}}, impl.Exp{Kind: kind, V: yes, Kids: []impl.Exp{a}}, impl.Exp{Kind: kind, Op: "not", Kids: []impl.Exp{a}})
	}
	for _, sign := range []string{"", ">", "<=", "+-", "-*", "nand", "AND", "not", "and ", " +", "an", "o", "r", "\xff", "\u00d7", "%"} {
		list = append(list, op(sign, a, b))
	}
	for _, v := range wrongValues() {
		list = append(list, lit(v))
	}
	return list
}

func wrongExps() []impl.Exp {
	list := []impl.Exp{
		below(impl.MaxDepth+1, col(0)), below(impl.MaxDepth+1, lit(yes)), below(impl.MaxDepth, op("+", col(0), col(1))), below(100, col(0)),
		beside(impl.MaxDepth+1, "and", lit(yes)), beside(impl.MaxDepth+1, "or", col(0)), leftChain(lit(yes), columns(impl.MaxDepth+1)...),
	}
	for _, e := range wrongParts() {
		list = append(list, e, not(e), isNull(e), op("and", lit(no), e), op("or", e, lit(yes)), below(impl.MaxDepth, e))
	}
	return list
}

func allExps() []impl.Exp { return append(rightExps(), wrongExps()...) }

// sameTree holds expressions against each other without the program; no list and an empty one are the same.
func sameTree(a impl.Exp, b impl.Exp) bool {
	return a.Kind == b.Kind && a.N == b.N && a.V == b.V && a.Op == b.Op && slices.EqualFunc(a.Kids, b.Kids, sameTree)
}

func checkExp(t *testing.T, what string, got impl.Exp, want impl.Exp) {
	t.Helper()
	if !sameTree(got, want) {
		t.Errorf("%s: %+v, want %+v", what, got, want)
	}
}

func randomValue(r *rand.Rand) impl.Value {
	values := []impl.Value{null, num(-3), num(0), num(1), num(7), num(math.MaxInt), no, yes, yes, text(""), text("a"), text("ab")}
	return values[r.Intn(len(values))]
}

// randomExp is right, has no column beyond width, and nothing deeper than depth.
func randomExp(r *rand.Rand, depth int, width int) impl.Exp {
	switch pick := r.Intn(8); {
	case depth == 0 && pick < 5 || pick == 0:
		return col(r.Intn(width))
	case depth == 0 || pick == 1:
		return lit(randomValue(r))
	case pick == 2:
		return not(randomExp(r, depth-1, width))
	case pick == 3:
		return isNull(randomExp(r, depth-1, width))
	case pick < 6:
		return op("and", randomExp(r, depth-1, width), randomExp(r, depth-1, width))
	}
	return op(ops[r.Intn(len(ops))], randomExp(r, depth-1, width), randomExp(r, depth-1, width))
}

func randomRow(r *rand.Rand, width int) []impl.Value {
	out := []impl.Value{}
	for range width {
		out = append(out, randomValue(r))
	}
	return out
}

func TestP3RightAndWrongExps(t *testing.T) {
	for _, e := range rightExps() {
		if !impl.ExpOk(e) || impl.ExpText(e) == "" {
			t.Errorf("right: %+v", e)
		}
	}
	full := []impl.Value{}
	for range impl.MaxWidth + 2 {
		full = append(full, yes)
	}
	for _, e := range wrongExps() {
		if impl.ExpOk(e) || impl.ExpText(e) != "" || impl.Eval(e, full) != null {
			t.Errorf("wrong: %+v: %q, %v", e, impl.ExpText(e), impl.Eval(e, full))
		}
	}
}

func TestP3Eval(t *testing.T) {
	given := row(num(4), num(9), text("abc"), yes, null)
	sum := op("+", col(0), op("*", col(1), lit(num(2))))
	for _, x := range []struct {
		e    impl.Exp
		want impl.Value
	}{
		{col(0), num(4)}, {col(2), text("abc")}, {col(4), null}, {col(5), null}, {col(impl.MaxWidth - 1), null}, {lit(no), no}, {lit(text("c7")), text("c7")},
		{sum, num(22)}, {op("-", col(0), col(1)), num(-5)}, {op("/", op("-", col(0), col(1)), lit(num(2))), num(-3)}, {op("<", col(0), col(1)), yes}, {op("<", col(1), col(0)), no},
		{op("=", sum, lit(num(22))), yes}, {op("~", col(2), lit(text("bc"))), yes}, {op("~", lit(text("bc")), col(2)), no},
		{op("and", col(3), col(4)), null}, {op("or", col(3), col(4)), yes}, {op("or", col(4), col(3)), yes}, {op("and", col(9), lit(no)), no}, {op("and", lit(yes), col(3)), yes},
		{not(col(3)), no}, {not(col(0)), null}, {not(col(9)), null}, {isNull(col(4)), yes}, {isNull(col(9)), yes}, {isNull(col(0)), no}, {isNull(not(col(0))), yes}, {not(isNull(col(9))), no},
		{op("+", col(0), col(5)), null}, {op("+", col(0), col(2)), null}, {op("/", col(0), lit(num(0))), null}, {op("*", lit(num(math.MaxInt)), col(0)), null},
		{below(impl.MaxDepth, col(3)), yes}, {below(impl.MaxDepth-1, col(3)), no}, {beside(impl.MaxDepth, "and", col(3)), yes}, {beside(impl.MaxDepth+1, "and", col(3)), null},
	} {
		if got := impl.Eval(x.e, given); got != x.want {
			t.Errorf("%s: %v, want %v", impl.ExpText(x.e), got, x.want)
		}
	}
	long := wide(40, 1)
	long[impl.MaxWidth-1], long[impl.MaxWidth] = num(11), num(12)
	if impl.Eval(col(impl.MaxWidth-1), long) != num(11) || impl.Eval(col(impl.MaxWidth), long) != null || impl.Eval(col(0), nil) != null {
		t.Error("a long row, or none")
	}
}

func TestP3EachOp(t *testing.T) {
	for _, sign := range ops {
		for _, a := range allValues() {
			for _, b := range allValues() {
				want := impl.Reckon(sign, a, b)
				if got := impl.Eval(op(sign, col(0), col(1)), row(a, b)); got != want {
					t.Errorf("%v %s %v: %v, want %v", a, sign, b, got, want)
				}
				if !impl.ValueOk(a) || !impl.ValueOk(b) {
					want = null
				}
				if got := impl.Eval(op(sign, lit(a), lit(b)), nil); got != want {
					t.Errorf("values %v %s %v: %v, want %v", a, sign, b, got, want)
				}
			}
		}
	}
	for _, v := range allValues() {
		given := row(v)
		if impl.Eval(col(0), given) != v || impl.Eval(not(col(0)), given) != impl.Not(v) || impl.Eval(isNull(col(0)), given) != impl.IsNull(v) {
			t.Errorf("of %v alone", v)
		}
	}
}

func TestP3ColsOf(t *testing.T) {
	for _, x := range []struct {
		e    impl.Exp
		want []int
	}{
		{col(0), []int{0}}, {col(impl.MaxWidth - 1), []int{11}}, {lit(num(3)), nil}, {op("+", lit(num(3)), lit(num(4))), nil}, {not(isNull(col(7))), []int{7}},
		{op("+", col(3), op("-", col(1), col(3))), []int{1, 3}}, {op("or", op("and", col(10), col(2)), not(op("=", col(9), col(2)))), []int{2, 9, 10}},
		{leftChain(col(11), col(5), col(0), col(5), col(11)), []int{0, 5, 11}},
		{op("=", col(math.MaxInt), op("<", col(-1), col(12))), []int{-1, 12, math.MaxInt}}, {col(math.MinInt), []int{math.MinInt}},
		{other(), nil}, {other(col(2), not(), col(1), col(3)), []int{1, 2, 3}}, {not(), nil}, {op("%", col(1), lit(impl.Value{Kind: 9, N: 7})), []int{1}},
		{below(50, col(6)), []int{6}},
	} {
		if got := impl.ColsOf(x.e); !slices.Equal(got, x.want) {
			t.Errorf("%+v: %v, want %v", x.e, got, x.want)
		}
	}
}

func TestP3Shift(t *testing.T) {
	e := op("and", op("<", col(2), col(5)), not(op("=", col(2), lit(num(2)))))
	moved := func(by int) impl.Exp {
		return op("and", op("<", col(2+by), col(5+by)), not(op("=", col(2+by), lit(num(2)))))
	}
	for _, by := range []int{-2, -1, 0, 1, 6} {
		checkExp(t, "by "+impl.DecText(by), impl.Shift(e, by), moved(by))
	}
	for _, by := range []int{-3, 7, 9, -5, 12, -12, 1 << 32, math.MaxInt, math.MaxInt - 5, math.MinInt, math.MinInt + 11} {
		checkExp(t, "by "+impl.DecText(by), impl.Shift(e, by), e)
	}
	for _, x := range []struct {
		e    impl.Exp
		by   int
		want impl.Exp
	}{
		{col(0), 11, col(11)}, {col(0), 12, col(0)}, {col(0), -1, col(0)}, {col(11), -11, col(0)}, {col(11), -12, col(11)}, {col(11), 1, col(11)},
		{col(11), math.MaxInt, col(11)}, {col(0), math.MinInt, col(0)}, {lit(num(1)), math.MaxInt, lit(num(1))}, {not(lit(no)), math.MinInt, not(lit(no))},
		{col(12), -1, col(12)}, {col(-1), 1, col(-1)}, {col(12), 0, col(12)}, {col(-1), 0, col(-1)}, {col(math.MaxInt), math.MinInt, col(math.MaxInt)}, {col(math.MinInt), math.MinInt, col(math.MinInt)},
		{op("+", col(1), col(12)), -1, op("+", col(1), col(12))}, {op("+", col(-1), col(1)), 1, op("+", col(-1), col(1))},
		{below(50, col(3)), 2, below(50, col(5))}, {op("%", col(3), other(col(1))), 2, op("%", col(5), other(col(3)))}, {impl.Exp{Kind: 9, N: 4}, 2, impl.Exp{Kind: 9, N: 4}},
	} {
		checkExp(t, "by "+impl.DecText(x.by), impl.Shift(x.e, x.by), x.want)
	}
}

func TestP3ShiftedIsAsARowMoved(t *testing.T) {
	r := rand.New(rand.NewSource(4))
	for range 2000 {
		e, given, by := randomExp(r, 4, 4), randomRow(r, 4), r.Intn(9)
		moved := append(randomRow(r, by), given...)
		if impl.Eval(impl.Shift(e, by), moved) != impl.Eval(e, given) || !impl.SameExp(impl.Shift(impl.Shift(e, by), -by), e) {
			t.Fatalf("%s by %d of %v", impl.ExpText(e), by, moved)
		}
	}
}

func TestP3Conj(t *testing.T) {
	a, b, c, d := col(1), op("or", col(2), col(3)), not(op("and", col(4), col(5))), lit(num(6))
	for _, x := range []struct {
		e    impl.Exp
		want []impl.Exp
	}{
		{a, []impl.Exp{a}}, {b, []impl.Exp{b}}, {c, []impl.Exp{c}}, {d, []impl.Exp{d}}, {op("and", a, b), []impl.Exp{a, b}}, {op("and", a, a), []impl.Exp{a, a}},
		{leftChain(a, b, c, d), []impl.Exp{a, b, c, d}}, {op("and", a, op("and", b, op("and", c, d))), []impl.Exp{a, b, c, d}},
		{op("and", op("and", d, c), op("and", b, a)), []impl.Exp{d, c, b, a}}, {op("or", op("and", a, b), c), []impl.Exp{op("or", op("and", a, b), c)}},
		{leftChain(col(0), columns(30)...), append([]impl.Exp{col(0)}, columns(30)...)},
		{op("and"), []impl.Exp{op("and")}}, {op("and", a), []impl.Exp{op("and", a)}}, {op("and", a, b, c), []impl.Exp{op("and", a, b, c)}},
		{other(a, b), []impl.Exp{other(a, b)}}, {op("and", other(a), op("and", a)), []impl.Exp{other(a), op("and", a)}},
		{impl.Exp{Kind: 9, Op: "and", Kids: []impl.Exp{a, b}}, []impl.Exp{{Kind: 9, Op: "and", Kids: []impl.Exp{a, b}}}},
	} {
		if got := impl.Conj(x.e); !slices.EqualFunc(got, x.want, sameTree) {
			t.Errorf("%+v: %+v, want %+v", x.e, got, x.want)
		}
	}
}

func TestP3AndAll(t *testing.T) {
	a, b, c := col(1), op("or", col(2), col(3)), not(col(4))
	most := columns(impl.MaxWidth)
	most = append(most, col(0))
	nothing := lit(null)
	for _, x := range []struct {
		list []impl.Exp
		want impl.Exp
	}{
		{nil, lit(yes)}, {[]impl.Exp{}, lit(yes)}, {[]impl.Exp{a}, a}, {[]impl.Exp{b}, b}, {[]impl.Exp{a, b}, op("and", a, b)},
		{[]impl.Exp{a, b, c}, op("and", op("and", a, b), c)}, {[]impl.Exp{op("and", a, b), op("and", c, a)}, op("and", op("and", a, b), op("and", c, a))},
		{most, leftChain(most[0], most[1:]...)}, {append(most, lit(yes)), nothing}, {columns(400), nothing},
		{[]impl.Exp{below(impl.MaxDepth, a)}, below(impl.MaxDepth, a)}, {[]impl.Exp{below(impl.MaxDepth+1, a)}, nothing},
		{[]impl.Exp{below(impl.MaxDepth-1, a), a}, op("and", below(impl.MaxDepth-1, a), a)}, {[]impl.Exp{below(impl.MaxDepth, a), a}, nothing}, {[]impl.Exp{a, below(impl.MaxDepth, a)}, nothing},
		{[]impl.Exp{a, a, below(impl.MaxDepth-1, a)}, leftChain(a, a, below(impl.MaxDepth-1, a))}, {[]impl.Exp{below(impl.MaxDepth-1, a), a, a}, nothing},
		{[]impl.Exp{col(impl.MaxWidth)}, nothing}, {[]impl.Exp{col(-1), a}, nothing},
	} {
		checkExp(t, "chain", impl.AndAll(x.list), x.want)
	}
	for _, wrong := range wrongExps() {
		for _, list := range [][]impl.Exp{{wrong}, {wrong, a}, {a, b, wrong}} {
			checkExp(t, "chain of a wrong one", impl.AndAll(list), nothing)
		}
	}
}

func TestP3ChainOfPartsMeansTheSame(t *testing.T) {
	r := rand.New(rand.NewSource(5))
	chains := 0
	for range 5000 {
		e, given := randomExp(r, 5, 3), randomRow(r, r.Intn(4))
		parts := impl.Conj(e)
		chain := impl.AndAll(parts)
		if len(parts) <= 6 && !impl.ExpOk(leftChain(parts[0], parts[1:]...)) {
			t.Fatalf("parts of %s: %+v", impl.ExpText(e), parts)
		}
		if !impl.ExpOk(leftChain(parts[0], parts[1:]...)) {
			checkExp(t, "too deep", chain, lit(null))
			continue
		}
		if impl.Eval(chain, given) != impl.Eval(e, given) || !slices.EqualFunc(impl.Conj(chain), parts, sameTree) {
			t.Fatalf("%s and its chain %s differ at %v", impl.ExpText(e), impl.ExpText(chain), given)
		}
		if len(parts) > 2 {
			chains++
		}
	}
	if chains < 200 {
		t.Errorf("only %d chains of some length", chains)
	}
}

func TestP3Put(t *testing.T) {
	e := op("<", col(0), op("+", col(1), op("*", col(0), lit(num(3)))))
	a, b := op("*", col(1), col(0)), not(col(7))
	for _, x := range []struct {
		what string
		e    impl.Exp
		cols []impl.Exp
		want impl.Exp
	}{
		{"both", e, []impl.Exp{a, b}, op("<", a, op("+", b, op("*", a, lit(num(3)))))},
		{"more than are asked for", e, []impl.Exp{a, b, other()}, op("<", a, op("+", b, op("*", a, lit(num(3)))))},
		{"turned round, once each", e, []impl.Exp{col(1), col(0)}, op("<", col(1), op("+", col(0), op("*", col(1), lit(num(3)))))},
		{"one too few", e, []impl.Exp{a}, e}, {"none", e, nil, e}, {"none needed", not(lit(no)), nil, not(lit(no))},
		{"a column", col(1), []impl.Exp{a, b}, b}, {"the last column", col(11), columns(12), col(11)}, {"one behind the last", col(11), columns(11), col(11)},
		{"a column below 0", col(-1), []impl.Exp{a, b}, col(-1)}, {"the least column", op("+", col(0), col(math.MinInt)), []impl.Exp{a}, op("+", col(0), col(math.MinInt))},
		{"the greatest column", col(math.MaxInt), []impl.Exp{a}, col(math.MaxInt)}, {"a column beyond MaxWidth that is there", col(12), append(columns(12), b), b},
		{"a wrong one put in", e, []impl.Exp{a, other()}, e}, {"a column that is none put in", e, []impl.Exp{a, col(12)}, e}, {"a wrong one that is not asked for", col(1), []impl.Exp{other(), a}, a},
		{"wrong itself", op("%", col(0), col(1)), []impl.Exp{a, b}, op("%", col(0), col(1))}, {"too deep itself", below(13, col(0)), []impl.Exp{a}, below(13, col(0))},
		{"just as deep", below(impl.MaxDepth-1, col(0)), []impl.Exp{not(col(2))}, below(impl.MaxDepth, col(2))}, {"too deep", below(impl.MaxDepth, col(0)), []impl.Exp{not(col(2))}, below(impl.MaxDepth, col(0))},
		{"a leaf at the depth", below(impl.MaxDepth, col(0)), []impl.Exp{col(2)}, below(impl.MaxDepth, col(2))}, {"too deep at one place", op("+", col(0), not(col(0))), []impl.Exp{below(impl.MaxDepth-1, col(1))}, op("+", col(0), not(col(0)))},
		{"the deepest in the place of the top", col(0), []impl.Exp{below(impl.MaxDepth, col(3))}, below(impl.MaxDepth, col(3))}, {"one deeper", col(0), []impl.Exp{below(impl.MaxDepth+1, col(3))}, col(0)},
	} {
		checkExp(t, x.what, impl.Put(x.e, x.cols), x.want)
	}
	for _, wrong := range wrongExps() {
		checkExp(t, "wrong in the place of a column", impl.Put(op("and", col(0), col(0)), []impl.Exp{wrong}), op("and", col(0), col(0)))
	}
}

func TestP3PutIsAsIfARowHadThat(t *testing.T) {
	r := rand.New(rand.NewSource(6))
	for range 5000 {
		e, given := randomExp(r, 5, 3), randomRow(r, r.Intn(4))
		cols, values := []impl.Exp{}, []impl.Value{}
		for range 3 {
			c := randomExp(r, 4, 4)
			cols, values = append(cols, c), append(values, impl.Eval(c, given))
		}
		put := impl.Put(e, cols)
		if !impl.ExpOk(put) || impl.Eval(put, given) != impl.Eval(e, values) {
			t.Fatalf("%s with %+v at %v: %s", impl.ExpText(e), cols, given, impl.ExpText(put))
		}
		if few := impl.ColsOf(e); len(few) > 0 {
			checkExp(t, "too few", impl.Put(e, cols[:few[len(few)-1]]), e)
		}
		checkExp(t, "each by itself", impl.Put(e, columns(3)), e)
	}
}

func TestP3SameExp(t *testing.T) {
	list := []impl.Exp{
		col(0), col(1), lit(num(0)), lit(num(1)), lit(null), lit(no), lit(text("")), lit(text("a")), lit(text("a'")), not(), not(col(0)), not(col(1)), isNull(col(0)), not(not(col(0))), isNull(not(col(0))),
		op("and", col(0), col(1)), op("or", col(0), col(1)), op("and", col(1), col(0)), op("and", col(0), col(1), col(1)), op("and", col(0)), op("and"), op(""), {Kind: 9}, {Kind: 9, N: 1}, {Kind: 9, V: yes}, {Kind: 9, Op: "x"},
		op("and", op("and", col(0), col(1)), col(2)), op("and", col(0), op("and", col(1), col(2))), op("and", not(col(0)), col(1)), op("and", col(0), not(col(1))), op("and", not(), col(0), col(1)), op("and", not(col(0)), not()), op("and", not(), not(col(0))),
		below(impl.MaxDepth+1, col(0)), below(impl.MaxDepth+1, col(1)), below(impl.MaxDepth+2, col(0)),
	}
	for i, a := range list {
		for k, b := range list {
			if impl.SameExp(a, b) != (i == k) {
				t.Errorf("%+v %+v: %v", a, b, i != k)
			}
		}
	}
	for i, a := range allExps() {
		for k, b := range allExps() {
			if impl.SameExp(a, b) != sameTree(a, b) {
				t.Errorf("%d %d: %+v %+v", i, k, a, b)
			}
		}
	}
	if !impl.SameExp(impl.Exp{Kids: []impl.Exp{}}, impl.Exp{}) || !impl.SameExp(not(impl.Exp{}), not(impl.Exp{Kids: make([]impl.Exp, 0, 4)})) {
		t.Error("no list and an empty list")
	}
}

func TestP3ExpText(t *testing.T) {
	for _, x := range []struct {
		e    impl.Exp
		want string
	}{
		{col(0), "c0"}, {col(11), "c11"}, {lit(null), "null"}, {lit(num(-5)), "-5"}, {lit(yes), "true"}, {lit(text("it's")), "'it''s'"}, {lit(text("\xff\xfe\u00e9")), "'\xff\xfe\u00e9'"},
		{not(isNull(col(7))), "not(isnull(c7))"}, {isNull(op("or", col(1), lit(no))), "isnull((c1 or false))"}, {op("and", op("<", col(0), col(1)), not(col(2))), "((c0 < c1) and not(c2))"},
		{op("~", col(1), lit(text(""))), "(c1 ~ '')"}, {op("/", op("*", lit(num(2)), col(3)), op("-", col(4), lit(num(-1)))), "((2 * c3) / (c4 - -1))"}, {op("=", op("+", col(0), col(0)), col(1)), "((c0 + c0) = c1)"},
		{below(impl.MaxDepth, col(3)), strings.Repeat("not(", 12) + "c3" + strings.Repeat(")", 12)}, {below(impl.MaxDepth+1, col(3)), ""}, {col(12), ""}, {col(-1), ""}, {op(">", col(0), col(1)), ""}, {other(), ""},
	} {
		if got := impl.ExpText(x.e); got != x.want {
			t.Errorf("%+v: %q, want %q", x.e, got, x.want)
		}
	}
}

// roomyExp lays an expression out with spare room behind each list, filled with marks.
func roomyExp(e impl.Exp) impl.Exp {
	kids := make([]impl.Exp, 0, len(e.Kids)+2)
	for _, kid := range e.Kids {
		kids = append(kids, roomyExp(kid))
	}
	e.Kids = append(kids, lit(text("mark")), lit(text("mark")))[:len(e.Kids)]
	return e
}

// seenExp is all that can be read of an expression, its spare room too.
func seenExp(e impl.Exp) impl.Exp {
	kids := []impl.Exp{}
	for _, kid := range e.Kids[:cap(e.Kids)] {
		kids = append(kids, seenExp(kid))
	}
	e.Kids = kids
	return e
}

// roomOf lists the places of an expression's memory, list by list, with the spare room.
func roomOf(e impl.Exp) []*impl.Exp {
	out := []*impl.Exp{}
	all := e.Kids[:cap(e.Kids)]
	for i := range all {
		out = append(out, &all[i])
	}
	for _, kid := range e.Kids {
		out = append(out, roomOf(kid)...)
	}
	return out
}

// checkExpApart wants an answer whose lists share no memory, neither with each other nor with an argument.
func checkExpApart(t *testing.T, what string, answer impl.Exp, arguments ...impl.Exp) {
	t.Helper()
	taken := map[*impl.Exp]bool{}
	for _, e := range arguments {
		for _, place := range roomOf(e) {
			taken[place] = true
		}
	}
	for _, place := range roomOf(answer) {
		if taken[place] {
			t.Fatalf("%s: an answer shares memory", what)
		}
		taken[place] = true
	}
}

func TestP13ExpsAnswerAtAnyArguments(t *testing.T) {
	given := append(row(num(1), yes, text("a")), wrongValues()...)
	for _, e := range allExps() {
		a := roomyExp(e)
		want := seenExp(a)
		impl.ExpOk(a)
		impl.Eval(a, nil)
		impl.Eval(a, given)
		impl.ExpText(a)
		impl.ColsOf(a)
		impl.SameExp(a, a)
		for _, by := range []int{math.MinInt, -1, 0, 1, math.MaxInt} {
			checkExpApart(t, "shift", impl.Shift(a, by), a)
		}
		parts := impl.Conj(a)
		checkExpApart(t, "conj", impl.Exp{Kids: parts}, a)
		checkExpApart(t, "chain", impl.AndAll(parts), impl.Exp{Kids: parts})
		checkExpApart(t, "put", impl.Put(a, nil), a)
		if !reflect.DeepEqual(seenExp(a), want) {
			t.Errorf("an argument was written into: %+v", e)
		}
	}
	if !slices.Equal(given[3:], wrongValues()) {
		t.Error("the row was written into")
	}
}

func TestP13ExpsInListsAreLeftAsTheyAre(t *testing.T) {
	for _, e := range allExps() {
		a, holder := roomyExp(e), roomyExp(op("and", op("=", col(0), col(0)), not(col(1))))
		list := roomyExp(impl.Exp{Kids: []impl.Exp{a, col(1), a}})
		wantHolder, wantList := seenExp(holder), seenExp(list)
		checkExpApart(t, "put", impl.Put(holder, list.Kids), holder, list)
		checkExpApart(t, "put into it", impl.Put(a, list.Kids), a, list)
		checkExpApart(t, "chain", impl.AndAll(list.Kids), list)
		checkExpApart(t, "chain of one", impl.AndAll(list.Kids[:1]), list)
		if !reflect.DeepEqual(seenExp(holder), wantHolder) || !reflect.DeepEqual(seenExp(list), wantList) {
			t.Errorf("an argument was written into: %+v", e)
		}
	}
}

func TestP13ExpsOfAnyDepth(t *testing.T) {
	const depth = 200000
	deep, chain := below(depth, col(3)), beside(depth, "and", col(3))
	for _, e := range []impl.Exp{deep, chain} {
		if impl.ExpOk(e) || impl.Eval(e, nil) != null || impl.ExpText(e) != "" || !slices.Equal(impl.ColsOf(e), []int{3}) {
			t.Error("a deep one")
		}
		moved := impl.Shift(e, 1)
		if !impl.SameExp(e, e) || impl.SameExp(e, moved) || !impl.SameExp(impl.Shift(moved, -1), e) || !impl.SameExp(impl.Put(e, columns(12)), e) {
			t.Error("a deep one, shifted or put")
		}
		checkExp(t, "a deep one alone", impl.AndAll([]impl.Exp{e}), lit(null))
	}
	if len(impl.Conj(deep)) != 1 || len(impl.Conj(chain)) != depth+1 {
		t.Error("parts of a deep one")
	}
	checkExp(t, "a long chain", impl.AndAll(impl.Conj(chain)), lit(null))
}

func TestP13ExpsOfSharedLists(t *testing.T) {
	shared, other := col(3), col(3)
	for range 100 {
		shared, other = op("and", shared, shared), op("and", other, other)
	}
	if !impl.SameExp(shared, other) || impl.SameExp(shared, op("and", other, other)) {
		t.Error("a list at many places")
	}
	for _, length := range []int{1, 2, 3} {
		ring, twice := ringExp(length), ringExp(2*length)
		if !impl.SameExp(ring, ring) || !impl.SameExp(ring, twice) || impl.SameExp(ring, below(50, col(0))) || impl.SameExp(ring, isNull(ring)) {
			t.Error("a list within itself")
		}
		if len(impl.ColsOf(ring)) != 0 || !impl.SameExp(impl.Shift(ring, 1), ring) || !impl.SameExp(impl.Put(ring, columns(3)), ring) || !impl.SameExp(impl.Conj(ring)[0], ring) {
			t.Error("a list within itself, copied")
		}
	}
	moved := impl.Shift(shared, 1)
	if !slices.Equal(impl.ColsOf(shared), []int{3}) || !slices.Equal(impl.ColsOf(moved), []int{4}) || !impl.SameExp(impl.Shift(moved, -1), shared) || !impl.SameExp(impl.Put(shared, columns(12)), shared) {
		t.Error("a list at many places, copied")
	}
}

// ringOf is an and of these two, of which the first one, the second one or both are itself.
func ringOf(left impl.Exp, right impl.Exp, places ...int) impl.Exp {
	list := []impl.Exp{left, right}
	e := impl.Exp{Kind: impl.ExpOp, Op: "and", Kids: list}
	for _, i := range places {
		list[i] = e
	}
	return e
}

func TestP13ChainsWithoutEnd(t *testing.T) {
	shared := col(3)
	for range 100 {
		shared = op("and", shared, shared)
	}
	endless, deep := ringExp(2), below(10, shared)
	for _, x := range []struct {
		e    impl.Exp
		part impl.Exp
	}{
		{shared, col(3)}, {ringOf(col(0), col(3), 0), col(3)}, {ringOf(col(3), col(0), 1), col(3)}, {ringOf(endless, col(0), 1), endless}, {ringOf(col(0), endless, 0), endless}, {ringOf(deep, col(0), 1), deep}, {ringOf(ringOf(col(3), col(0), 1), col(0), 1), col(3)},
	} {
		parts := impl.Conj(x.e)
		if len(parts) < 1<<impl.MaxDepth || slices.ContainsFunc(parts, func(e impl.Exp) bool { return !impl.SameExp(e, x.part) }) {
			t.Errorf("%d parts", len(parts))
		}
		if impl.ExpOk(x.e) || impl.ExpText(x.e) != "" || !impl.SameExp(impl.AndAll(parts), lit(null)) {
			t.Error("a chain without end is right")
		}
	}
	impl.Conj(ringOf(col(0), col(0), 0, 1))
	if tree := beside(impl.MaxDepth, "and", col(3)); len(impl.Conj(tree)) != impl.MaxDepth+1 {
		t.Error("the deepest chain that is right")
	}
	full := fullTree()
	if len(impl.Conj(full)) != 1<<impl.MaxDepth || !impl.ExpOk(full) {
		t.Error("the greatest chain that is right")
	}
}

// ringExp is a not of a not and so on without end: the last of so many has the first for its kid.
func ringExp(length int) impl.Exp {
	last := make([]impl.Exp, 1)
	first := below(length-1, not(last...))
	last[0] = first
	return first
}
