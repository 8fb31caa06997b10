package tests

import (
	"math"
	"math/rand"
	"reflect"
	"slices"
	"strings"
	"testing"

	"loop.example/g00312/impl"
)

const mostTimes = 1000000000

func row(values ...impl.Value) []impl.Value { return values }

func times(n int, values ...impl.Value) impl.Counted { return impl.Counted{Row: values, N: n} }

func bag(width int, rows ...impl.Counted) impl.Bag { return impl.Bag{Width: width, Rows: rows} }

// wide is a row of so many values, the last one n.
func wide(width int, n int) []impl.Value {
	out := make([]impl.Value, width)
	out[width-1] = num(n)
	return out
}

// numbered is a bag of one column with the numbers from .. from+count-1.
func numbered(from int, count int) impl.Bag {
	b := bag(1)
	for i := range count {
		b.Rows = append(b.Rows, times(1, num(from+i)))
	}
	return b
}

func rowsOf(b impl.Bag) [][]impl.Value {
	out := [][]impl.Value{}
	for _, c := range b.Rows {
		out = append(out, c.Row)
	}
	return out
}

func rightBags() []impl.Bag {
	all := bag(1)
	for _, v := range rightValues() {
		all.Rows = append(all.Rows, times(3, v))
	}
	return []impl.Bag{
		bag(0), bag(1), bag(impl.MaxWidth),
		bag(0, times(1)), bag(0, times(-7)), bag(0, times(mostTimes)), bag(0, times(-mostTimes)),
		bag(1, times(2, num(7))), bag(1, times(-1, null), times(5, text("a,b\n"))),
		bag(2, times(1, num(-1), text("b")), times(-2, num(-1), text("bb")), times(3, num(0), no)),
		bag(impl.MaxWidth, times(1, wide(impl.MaxWidth, 1)...), times(mostTimes, wide(impl.MaxWidth, 2)...)),
		numbered(-200, impl.MaxRows), all,
	}
}

func wrongBags() []impl.Bag {
	list := []impl.Bag{
		bag(-1), bag(math.MinInt), bag(impl.MaxWidth + 1), bag(256), bag(math.MaxInt), bag(-1, times(1)),
		bag(impl.MaxWidth+1, times(1, wide(impl.MaxWidth+1, 1)...)),
		bag(1, times(1)), bag(0, times(1, num(1))), bag(1, times(1, num(1)), times(1, num(1), num(2))),
		bag(1, times(0, num(1))), bag(1, times(mostTimes+1, num(1))), bag(1, times(-mostTimes-1, num(1))), bag(1, times(math.MinInt, num(1))), bag(1, times(math.MaxInt, num(1))),
		bag(0, times(1), times(1)), bag(1, times(1, num(1)), times(2, num(1))), bag(1, times(1, num(2)), times(1, num(1))),
		bag(2, times(1, num(1), num(2)), times(1, num(1), num(1))), bag(1, times(1, text("a")), times(1, num(1))),
		numbered(0, impl.MaxRows+1),
	}
	for _, v := range wrongValues() {
		list = append(list, bag(1, times(1, v)), bag(2, times(1, num(1), v)))
	}
	return list
}

func allBags() []impl.Bag { return append(rightBags(), wrongBags()...) }

// sameBag takes no list and an empty list for the same.
func sameBag(a impl.Bag, b impl.Bag) bool {
	return a.Width == b.Width && slices.EqualFunc(a.Rows, b.Rows, func(x impl.Counted, y impl.Counted) bool {
		return x.N == y.N && slices.Equal(x.Row, y.Row)
	})
}

func checkBag(t *testing.T, what string, got impl.Bag, want impl.Bag) {
	t.Helper()
	if !sameBag(got, want) {
		t.Errorf("%s: %v, want %v", what, got, want)
	}
}

func randomBag(r *rand.Rand, width int) impl.Bag {
	values := []impl.Value{null, num(-1), num(0), num(1), no, yes, text(""), text("a")}
	b := bag(width)
	for range r.Intn(12) {
		next := []impl.Value{}
		for range width {
			next = append(next, values[r.Intn(len(values))])
		}
		at, there := slices.BinarySearchFunc(b.Rows, next, func(c impl.Counted, x []impl.Value) int { return impl.CompareRow(c.Row, x) })
		if n := r.Intn(7) - 3; !there && n != 0 {
			b.Rows = slices.Insert(b.Rows, at, times(n, next...))
		}
	}
	return b
}

func TestP2CompareRow(t *testing.T) {
	ascending := [][]impl.Value{
		{}, row(null), row(null, null), row(null, num(5)), row(num(-1)), row(num(-1), text("z")), row(num(0)), row(num(0), num(1)), row(num(0), num(1), null),
		row(num(0), num(2)), row(num(1)), row(num(256)), row(no, yes), row(yes), row(text("")), row(text("a"), null), row(text("a"), num(1)), row(text("b")),
	}
	for i, a := range ascending {
		for j, b := range ascending {
			want := 0
			if i < j {
				want = -1
			} else if i > j {
				want = 1
			}
			if got := impl.CompareRow(a, b); got != want {
				t.Errorf("%v %v: %d, want %d", a, b, got, want)
			}
		}
	}
	if impl.CompareRow(nil, []impl.Value{}) != 0 || impl.CompareRow(wide(40, 1), wide(40, 2)) != -1 {
		t.Error("no list, or a long one")
	}
}

func TestP2RightAndWrongBags(t *testing.T) {
	for _, b := range rightBags() {
		plain := true
		for _, c := range b.Rows {
			plain = plain && c.N > 0
		}
		if !impl.BagOk(b) || impl.Plain(b) != plain {
			t.Errorf("right: %v", b)
		}
	}
	for _, b := range wrongBags() {
		if impl.BagOk(b) || impl.Plain(b) {
			t.Errorf("wrong: %v", b)
		}
		if impl.PutBag(b) != "" || impl.BagText(b) != "" {
			t.Errorf("bytes or text of %v", b)
		}
	}
}

func TestP2BagOf(t *testing.T) {
	for _, x := range []struct {
		width int
		rows  [][]impl.Value
		want  impl.Bag
	}{
		{0, nil, bag(0)}, {3, nil, bag(3)}, {impl.MaxWidth, nil, bag(impl.MaxWidth)}, {0, [][]impl.Value{{}, nil, {}}, bag(0, times(3))},
		{1, [][]impl.Value{{num(2)}, {num(-1)}, {null}, {num(2)}, {text("a")}, {num(-1)}, {num(2)}}, bag(1, times(1, null), times(2, num(-1)), times(3, num(2)), times(1, text("a")))},
		{2, [][]impl.Value{{num(1), text("b")}, {num(1), text("a")}, {num(0), yes}}, bag(2, times(1, num(0), yes), times(1, num(1), text("a")), times(1, num(1), text("b")))},
		{2, [][]impl.Value{{text("a"), text("bc")}, {text("ab"), text("c")}}, bag(2, times(1, text("a"), text("bc")), times(1, text("ab"), text("c")))},
		{impl.MaxWidth, [][]impl.Value{wide(impl.MaxWidth, 5)}, bag(impl.MaxWidth, times(1, wide(impl.MaxWidth, 5)...))},
		{impl.MaxWidth + 1, [][]impl.Value{wide(impl.MaxWidth+1, 5)}, bag(impl.MaxWidth + 1)}, {impl.MaxWidth + 1, nil, bag(impl.MaxWidth + 1)},
		{-1, nil, bag(-1)}, {-1, [][]impl.Value{{}}, bag(-1)}, {math.MinInt, nil, bag(math.MinInt)},
		{1, [][]impl.Value{{num(1)}, {}}, bag(1)}, {1, [][]impl.Value{{num(1)}, {num(1), num(2)}}, bag(1)}, {0, [][]impl.Value{{}, {null}}, bag(0)},
		{1, rowsOf(numbered(5, impl.MaxRows)), numbered(5, impl.MaxRows)}, {1, rowsOf(numbered(5, impl.MaxRows+1)), bag(1)},
		{1, append(rowsOf(numbered(0, impl.MaxRows)), row(num(impl.MaxRows-1))), bag(1, append(numbered(0, impl.MaxRows-1).Rows, times(2, num(impl.MaxRows-1)))...)},
	} {
		checkBag(t, "bag of rows", impl.BagOf(x.width, x.rows), x.want)
	}
	for _, v := range wrongValues() {
		checkBag(t, "a wrong value", impl.BagOf(2, [][]impl.Value{{num(1), num(2)}, {num(1), v}}), bag(2))
	}
}

func TestP2Together(t *testing.T) {
	r := rand.New(rand.NewSource(2))
	for range 2000 {
		width := r.Intn(4)
		a, b := randomBag(r, width), randomBag(r, width)
		sum := impl.AddBag(a, b)
		if !impl.BagOk(sum) || sum.Width != width || impl.SizeOf(sum) != impl.SizeOf(a)+impl.SizeOf(b) {
			t.Fatalf("%v and %v: %v", a, b, sum)
		}
		for _, c := range slices.Concat(a.Rows, b.Rows, sum.Rows) {
			if impl.CountOf(sum, c.Row) != impl.CountOf(a, c.Row)+impl.CountOf(b, c.Row) {
				t.Fatalf("%v and %v: %v", a, b, sum)
			}
		}
		checkBag(t, "the other way round", impl.AddBag(b, a), sum)
		checkBag(t, "nothing more", impl.AddBag(a, bag(width)), a)
		checkBag(t, "and its opposite", impl.AddBag(a, impl.TimesBag(a, -1)), bag(width))
		checkBag(t, "twice", impl.AddBag(a, a), impl.TimesBag(a, 2))
	}
}

func TestP2AddBagEdges(t *testing.T) {
	a := bag(1, times(mostTimes, num(1)), times(-mostTimes, num(2)))
	for _, x := range []struct {
		what    string
		a, b, w impl.Bag
	}{
		{"to 0", a, bag(1, times(-mostTimes, num(1))), bag(1, times(-mostTimes, num(2)))},
		{"down", a, bag(1, times(-1, num(1))), bag(1, times(mostTimes-1, num(1)), times(-mostTimes, num(2)))},
		{"just the most", bag(0, times(mostTimes-1)), bag(0, times(1)), bag(0, times(mostTimes))},
		{"just the least", bag(0, times(1-mostTimes)), bag(0, times(-1)), bag(0, times(-mostTimes))},
		{"beyond the most", a, bag(1, times(1, num(1))), a},
		{"beyond the least", a, bag(1, times(-1, num(2)), times(5, num(3))), a},
		{"no columns", bag(0, times(2)), bag(0, times(-2)), bag(0)},
		{"no columns, no rows", bag(0), bag(0), bag(0)},
		{"just the most rows", numbered(0, 250), numbered(150, 250), bag(1, slices.Concat(numbered(0, 150).Rows, impl.TimesBag(numbered(150, 100), 2).Rows, numbered(250, 150).Rows)...)},
		{"a row too many", numbered(0, 250), numbered(150, 251), numbered(0, 250)},
		{"rows that go make room", numbered(0, impl.MaxRows), bag(1, times(-1, num(0)), times(1, num(impl.MaxRows))), numbered(1, impl.MaxRows)},
		{"two widths", a, bag(2), a}, {"two widths, the other way", bag(2), a, bag(2)},
	} {
		checkBag(t, x.what, impl.AddBag(x.a, x.b), x.w)
	}
	for _, wrong := range wrongBags() {
		for _, right := range rightBags() {
			checkBag(t, "no bag behind", impl.AddBag(right, wrong), right)
			checkBag(t, "no bag ahead", impl.AddBag(wrong, right), wrong)
		}
		checkBag(t, "no bags", impl.AddBag(wrong, wrong), wrong)
	}
}

func TestP2TimesBag(t *testing.T) {
	a := bag(1, times(2, num(1)), times(-3, num(2)))
	for _, x := range []struct {
		a    impl.Bag
		n    int
		want impl.Bag
	}{
		{a, 1, a}, {a, -1, bag(1, times(-2, num(1)), times(3, num(2)))}, {a, 5, bag(1, times(10, num(1)), times(-15, num(2)))},
		{a, 333333333, bag(1, times(666666666, num(1)), times(-999999999, num(2)))}, {a, 333333334, bag(1)}, {a, -333333334, bag(1)},
		{a, 0, bag(1)}, {a, math.MinInt, bag(1)}, {a, math.MaxInt, bag(1)}, {a, 1 << 63 / 2, bag(1)}, {a, 1 << 32, bag(1)},
		{bag(0, times(1)), mostTimes, bag(0, times(mostTimes))}, {bag(0, times(1)), -mostTimes, bag(0, times(-mostTimes))},
		{bag(0, times(1)), mostTimes + 1, bag(0)}, {bag(0, times(1)), -mostTimes - 1, bag(0)}, {bag(0, times(-1)), math.MinInt, bag(0)},
		{bag(0, times(mostTimes)), -1, bag(0, times(-mostTimes))}, {bag(0, times(-mostTimes)), -1, bag(0, times(mostTimes))},
		{bag(0, times(4)), 1<<62 + 1, bag(0)}, {bag(0, times(-8)), 1<<61 + 1, bag(0)},
		{bag(2), 7, bag(2)}, {bag(2), 0, bag(2)}, {bag(2), math.MinInt, bag(2)}, {bag(0), -1, bag(0)},
	} {
		checkBag(t, "times "+impl.DecText(x.n), impl.TimesBag(x.a, x.n), x.want)
	}
	for _, b := range wrongBags() {
		for _, n := range []int{math.MinInt, -1, 0, 1, 2, 1<<62 + 1, math.MaxInt} {
			checkBag(t, "no bag times "+impl.DecText(n), impl.TimesBag(b, n), bag(b.Width))
		}
	}
}

func TestP2HowOften(t *testing.T) {
	b := bag(2, times(2, num(1), text("a")), times(-5, num(1), text("b")), times(mostTimes, yes, null))
	for _, x := range []struct {
		row  []impl.Value
		want int
	}{
		{row(num(1), text("a")), 2}, {row(num(1), text("b")), -5}, {row(yes, null), mostTimes},
		{row(num(1), text("c")), 0}, {row(num(1)), 0}, {row(num(1), text("a"), null), 0}, {nil, 0}, {row(impl.Value{Kind: 9}, null), 0},
	} {
		if got := impl.CountOf(b, x.row); got != x.want {
			t.Errorf("%v: %d, want %d", x.row, got, x.want)
		}
	}
	if got := impl.SizeOf(b); got != mostTimes-3 {
		t.Errorf("size: %d", got)
	}
	if impl.CountOf(bag(0, times(4)), nil) != 4 || impl.CountOf(bag(0), nil) != 0 || impl.SizeOf(bag(0, times(-4))) != -4 || impl.SizeOf(bag(5)) != 0 {
		t.Error("no columns or no rows")
	}
	full := impl.TimesBag(numbered(0, impl.MaxRows), mostTimes)
	if impl.SizeOf(full) != impl.MaxRows*mostTimes || impl.CountOf(full, row(num(impl.MaxRows-1))) != mostTimes {
		t.Error("a full bag")
	}
}

func TestP2PutBag(t *testing.T) {
	one, less := impl.PutValue(num(1)), impl.PutValue(num(-2))
	for _, x := range []struct {
		b    impl.Bag
		want string
	}{
		{bag(0), "\x00"}, {bag(impl.MaxWidth), "\x0c"}, {bag(0, times(1)), "\x00" + one},
		{bag(1, times(-2, num(1))), "\x01" + less + one},
		{bag(2, times(1, num(-2), text("a'")), times(-2, no, null)), "\x02" + one + less + "\x03\x02a'" + less + "\x02\x00\x00"},
	} {
		if got := impl.PutBag(x.b); got != x.want {
			t.Errorf("%v: %q, want %q", x.b, got, x.want)
		}
	}
}

func checkNoBag(t *testing.T, s string) {
	t.Helper()
	if b, ok := impl.GetBag(s); ok || b.Width != 0 || len(b.Rows) != 0 {
		t.Errorf("%q: %v, %v", s, b, ok)
	}
}

func checkComesBack(t *testing.T, b impl.Bag) {
	t.Helper()
	if got, ok := impl.GetBag(impl.PutBag(b)); !ok || !sameBag(got, b) {
		t.Errorf("%v: %v, %v", b, got, ok)
	}
}

func TestP2BagComesBack(t *testing.T) {
	for _, b := range rightBags() {
		checkComesBack(t, b)
	}
	r := rand.New(rand.NewSource(3))
	for range 500 {
		b := randomBag(r, r.Intn(4))
		checkComesBack(t, b)
		put := impl.PutBag(b)
		for cut := range len(put) {
			if got, ok := impl.GetBag(put[:cut]); ok && impl.PutBag(got) != put[:cut] {
				t.Fatalf("%v cut to %d: %v", b, cut, got)
			}
		}
	}
	b := bag(2, times(1, num(1), text("a")), times(2, num(1), text("bc")))
	put := impl.PutBag(b)
	first := len(impl.PutBag(bag(2, b.Rows[0])))
	for cut := range len(put) {
		if cut != 1 && cut != first {
			checkNoBag(t, put[:cut])
		}
	}
	for _, more := range []string{"x", "\x00", "\x01", put, put[1:], impl.PutValue(num(1))} {
		checkNoBag(t, put+more)
	}
}

// bytesOf writes down what a bag would be, right or not.
func bytesOf(b impl.Bag) string {
	out := []byte{byte(b.Width)}
	for _, c := range b.Rows {
		out = append(out, impl.PutValue(num(c.N))...)
		for _, v := range c.Row {
			out = append(out, impl.PutValue(v)...)
		}
	}
	return string(out)
}

func TestP2NoBagInOtherBytes(t *testing.T) {
	one, two := impl.PutValue(num(1)), impl.PutValue(num(2))
	for _, s := range []string{
		"", "\x0d", "\xff", "\x00\x00", "\x00\x02\x01", "\x01" + one, "\x01\x00" + one, "\x01" + one + "\x04", "\x01" + one + "\x02\x02", "\x01" + one + one + two,
		"\x01" + one + "\x03\x65" + longest + "x", "\x01\x03\x01a" + one, "\x0d" + one + strings.Repeat("\x00", 13), "\xff" + one + strings.Repeat("\x00", 255),
		"\x00" + strings.Repeat(one, 100000),
		bytesOf(bag(1, times(0, num(1)))), bytesOf(bag(1, times(mostTimes+1, num(1)))), bytesOf(bag(1, times(-mostTimes-1, num(1)))),
		bytesOf(bag(0, times(1), times(1))), bytesOf(bag(1, times(1, num(1)), times(2, num(1)))), bytesOf(bag(1, times(1, num(1)), times(1, num(0)))),
		bytesOf(bag(1, times(1, num(0)), times(1, num(-1)))), bytesOf(numbered(0, impl.MaxRows+1)), bytesOf(numbered(0, 50000)),
	} {
		checkNoBag(t, s)
	}
}

func TestP2BagText(t *testing.T) {
	for _, x := range []struct {
		b    impl.Bag
		want string
	}{
		{bag(0), ""}, {bag(3), ""}, {bag(0, times(2)), "2x \n"}, {bag(0, times(-mostTimes)), "-1000000000x \n"},
		{bag(1, times(1, null), times(-2, text("a'b,\n"))), "1x null\n-2x 'a''b,\n'\n"},
		{bag(3, times(10, num(-7), yes, text("")), times(1, num(0), no, null)), "10x -7,true,''\n1x 0,false,null\n"},
	} {
		if got := impl.BagText(x.b); got != x.want {
			t.Errorf("%v: %q, want %q", x.b, got, x.want)
		}
	}
}

// roomy lays a bag out with spare room behind each list, filled with marks.
func roomy(b impl.Bag) impl.Bag {
	out := impl.Bag{Width: b.Width, Rows: make([]impl.Counted, 0, len(b.Rows)+2)}
	for _, c := range b.Rows {
		values := append(make([]impl.Value, 0, len(c.Row)+2), c.Row...)
		values = append(values, text("mark"), text("mark"))[:len(c.Row)]
		out.Rows = append(out.Rows, impl.Counted{Row: values, N: c.N})
	}
	return impl.Bag{Width: b.Width, Rows: append(out.Rows, times(99, text("mark")), times(98))[:len(b.Rows)]}
}

// seen is all that can be read of a bag, its spare room too.
func seen(b impl.Bag) impl.Bag {
	out := impl.Bag{Width: b.Width}
	for _, c := range b.Rows[:cap(b.Rows)] {
		out.Rows = append(out.Rows, times(c.N, slices.Clone(c.Row[:cap(c.Row)])...))
	}
	return out
}

// spoil writes over all that a bag holds, and over its spare room, each row with a mark of its own.
func spoil(b impl.Bag) {
	rows := b.Rows[:cap(b.Rows)]
	for i := range rows {
		rows[i].N = -i
		values := rows[i].Row[:cap(rows[i].Row)]
		for j := range values {
			values[j] = impl.Value{Kind: 50 + j, N: i}
		}
	}
}

// checkApart spoils an answer: neither its other rows nor the arguments may show a row's mark.
func checkApart(t *testing.T, what string, answer impl.Bag, arguments ...impl.Bag) {
	t.Helper()
	before := []impl.Bag{}
	for _, b := range arguments {
		before = append(before, seen(b))
	}
	spoil(answer)
	for i, c := range answer.Rows {
		for j, v := range c.Row {
			if c.N != -i || v.Kind != 50+j || v.N != i {
				t.Fatalf("%s: two rows of an answer share memory", what)
			}
		}
	}
	for i, b := range arguments {
		if !reflect.DeepEqual(seen(b), before[i]) {
			t.Fatalf("%s: an answer shares memory with an argument", what)
		}
	}
}

func TestP13BagsWriteIntoNoArgument(t *testing.T) {
	for _, b := range allBags() {
		for _, other := range allBags() {
			a, c := roomy(b), roomy(other)
			wantA, wantC := seen(a), seen(c)
			sum := impl.AddBag(a, c)
			if !reflect.DeepEqual(seen(a), wantA) || !reflect.DeepEqual(seen(c), wantC) {
				t.Fatalf("adding %v and %v wrote into one", b, other)
			}
			checkApart(t, "add", sum, a, c)
		}
	}
}

func TestP13BagsAnswerAtAnyArguments(t *testing.T) {
	for _, b := range allBags() {
		a := roomy(b)
		want := seen(a)
		impl.BagOk(a)
		impl.Plain(a)
		impl.SizeOf(a)
		impl.BagText(a)
		impl.GetBag(impl.PutBag(a))
		impl.GetBag(impl.BagText(a))
		for _, c := range a.Rows {
			impl.CountOf(a, c.Row)
			impl.CompareRow(c.Row, want.Rows[0].Row)
		}
		for _, n := range []int{math.MinInt, -1, 0, 1, 2, math.MaxInt} {
			checkApart(t, "times", impl.TimesBag(a, n), a)
			impl.BagOf(n, rowsOf(a))
		}
		checkApart(t, "bag of", impl.BagOf(a.Width, rowsOf(a)), a)
		if !reflect.DeepEqual(seen(a), want) {
			t.Errorf("an argument was written into: %v", b)
		}
	}
}

func TestP13ListOfRowsIsLeftAsItIs(t *testing.T) {
	rows := [][]impl.Value{row(num(2)), row(num(1)), row(num(2)), row(num(0))}
	given := rows[:3]
	impl.BagOf(1, given)
	if !reflect.DeepEqual(rows, [][]impl.Value{row(num(2)), row(num(1)), row(num(2)), row(num(0))}) {
		t.Errorf("the rows were written into: %v", rows)
	}
}
