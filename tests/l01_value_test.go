package tests

import (
	"cmp"
	"math"
	"math/big"
	"strconv"
	"strings"
	"testing"

	"loop.example/g00312/impl"
)

func num(n int) impl.Value { return impl.Value{Kind: impl.VInt, N: n} }

func truth(n int) impl.Value { return impl.Value{Kind: impl.VBool, N: n} }

func text(s string) impl.Value { return impl.Value{Kind: impl.VText, S: s} }

var (
	null    = impl.Value{}
	yes     = truth(1)
	no      = truth(0)
	longest = strings.Repeat("x", impl.MaxText)
)

// rightValues are in the one order of values.
func rightValues() []impl.Value {
	return []impl.Value{
		null,
		num(math.MinInt), num(math.MinInt + 1), num(-256), num(-1), num(0), num(1), num(255), num(256), num(math.MaxInt),
		no, yes,
		text(""), text("\x00"), text("'"), text("''"), text("a"), text("a'b"), text("ab"), text("b"), text(longest), text("\xff\xfe"),
	}
}

func wrongValues() []impl.Value {
	return []impl.Value{
		{Kind: -1}, {Kind: 4}, {Kind: 256}, {Kind: 257, N: 1}, {Kind: math.MinInt}, {Kind: math.MaxInt, N: 1, S: "a"},
		{Kind: impl.VNull, N: 1}, {Kind: impl.VNull, S: "a"},
		{Kind: impl.VInt, N: 1, S: "a"},
		truth(2), truth(-1), truth(256), {Kind: impl.VBool, N: 0, S: "a"}, {Kind: impl.VBool, N: 1, S: "a"},
		{Kind: impl.VText, N: 1, S: "a"}, text(longest + "x"), text(strings.Repeat("x", 256)),
	}
}

func allValues() []impl.Value { return append(rightValues(), wrongValues()...) }

func TestP1RightAndWrongValues(t *testing.T) {
	for _, v := range rightValues() {
		if !impl.ValueOk(v) {
			t.Errorf("right: %#v", v)
		}
	}
	for _, v := range wrongValues() {
		if impl.ValueOk(v) {
			t.Errorf("wrong: %#v", v)
		}
		if got := impl.ValueText(v); got != "" {
			t.Errorf("text of %#v: %q", v, got)
		}
		if got := impl.PutValue(v); got != "" {
			t.Errorf("bytes of %#v: %q", v, got)
		}
	}
}

func checkAscending(t *testing.T, list []impl.Value) {
	t.Helper()
	for i, a := range list {
		for k, b := range list {
			if got, want := impl.CompareValue(a, b), cmp.Compare(i, k); got != want {
				t.Errorf("%#v %#v: %d, want %d", a, b, got, want)
			}
		}
	}
}

func TestP1OrderOfRightValues(t *testing.T) { checkAscending(t, rightValues()) }

func TestP1OrderIsByKindThenNThenS(t *testing.T) {
	ascending := []impl.Value{
		{Kind: math.MinInt, N: 9, S: "z"},
		{Kind: -1, N: 1},
		{Kind: 0, N: -1, S: "z"}, {Kind: 0, N: 0, S: ""}, {Kind: 0, N: 0, S: "a"},
		{Kind: 1, N: 5, S: "a"}, {Kind: 1, N: 5, S: "b"}, {Kind: 1, N: 6},
		{Kind: 3, N: 0, S: "z"}, {Kind: 3, N: 1, S: "a"},
		{Kind: math.MaxInt, N: math.MinInt},
	}
	checkAscending(t, ascending)
}

func TestP1OneOrderOfAllValues(t *testing.T) {
	all := allValues()
	for _, a := range all {
		for _, b := range all {
			ab := impl.CompareValue(a, b)
			if ab != -impl.CompareValue(b, a) || (ab == 0) != (a == b) {
				t.Errorf("%#v %#v: %d", a, b, ab)
			}
			for _, c := range all {
				if ab <= 0 && impl.CompareValue(b, c) <= 0 && impl.CompareValue(a, c) > 0 {
					t.Errorf("%#v %#v %#v", a, b, c)
				}
			}
		}
	}
}

// exactly reckons without a limit of bits; false where there is no such number.
func exactly(op string, a int, b int) (*big.Int, bool) {
	x, y := big.NewInt(int64(a)), big.NewInt(int64(b))
	switch op {
	case "+":
		return x.Add(x, y), true
	case "-":
		return x.Sub(x, y), true
	case "*":
		return x.Mul(x, y), true
	}
	if b == 0 {
		return nil, false
	}
	rest := new(big.Int)
	down, rest := new(big.Int).QuoRem(x, y, rest)
	if rest.Sign() != 0 && rest.Sign() != y.Sign() {
		down.Sub(down, big.NewInt(1))
	}
	return down, true
}

func TestP1Numbers(t *testing.T) {
	numbers := []int{
		math.MinInt, math.MinInt + 1, math.MinInt + 2, math.MinInt / 2, math.MinInt/2 - 1, -4294967297, -4294967296, -3037000500, -8, -7, -3, -2, -1, 0,
		1, 2, 3, 7, 8, 3037000499, 3037000500, 4294967296, 4294967297, math.MaxInt / 2, math.MaxInt/2 + 1, math.MaxInt - 1, math.MaxInt,
	}
	for _, op := range []string{"+", "-", "*", "/"} {
		for _, a := range numbers {
			for _, b := range numbers {
				want := null
				if n, ok := exactly(op, a, b); ok && n.IsInt64() {
					want = num(int(n.Int64()))
				}
				if got := impl.Reckon(op, num(a), num(b)); got != want {
					t.Errorf("%d %s %d: %#v, want %#v", a, op, b, got, want)
				}
			}
		}
	}
}

func TestP1QuotientDown(t *testing.T) {
	for a := -60; a <= 60; a++ {
		for b := -12; b <= 12; b++ {
			got := impl.Reckon("/", num(a), num(b))
			if b == 0 {
				if got != null {
					t.Errorf("%d / 0: %#v", a, got)
				}
				continue
			}
			rest := a - got.N*b
			if got != num(got.N) || b > 0 && (rest < 0 || rest >= b) || b < 0 && (rest > 0 || rest <= b) {
				t.Errorf("%d / %d: %#v", a, b, got)
			}
		}
	}
}

type reckoning struct {
	op         string
	a, b, want impl.Value
}

func checkReckonings(t *testing.T, list []reckoning) {
	t.Helper()
	for _, x := range list {
		if got := impl.Reckon(x.op, x.a, x.b); got != x.want {
			t.Errorf("%#v %s %#v: %#v, want %#v", x.a, x.op, x.b, got, x.want)
		}
	}
}

func TestP1EqualAndLess(t *testing.T) {
	for _, a := range rightValues() {
		for _, b := range rightValues() {
			equal, less := null, null
			if a.Kind == b.Kind && a.Kind != impl.VNull {
				equal, less = no, no
				switch impl.CompareValue(a, b) {
				case 0:
					equal = yes
				case -1:
					less = yes
				}
			}
			checkReckonings(t, []reckoning{{"=", a, b, equal}, {"<", a, b, less}})
		}
	}
	stray := impl.Value{Kind: impl.VInt, N: 1, S: "a"}
	checkReckonings(t, []reckoning{
		{"=", stray, stray, yes}, {"=", num(1), stray, no}, {"<", num(1), stray, yes},
		{"=", truth(2), truth(2), yes}, {"<", yes, truth(2), yes},
		{"=", impl.Value{Kind: 9}, impl.Value{Kind: 9}, yes}, {"=", impl.Value{Kind: 9}, impl.Value{Kind: 8}, null},
		{"=", impl.Value{S: "a"}, impl.Value{S: "a"}, null},
	})
}

func TestP1Holds(t *testing.T) {
	checkReckonings(t, []reckoning{
		{"~", text("abc"), text("b"), yes}, {"~", text("abc"), text("abc"), yes}, {"~", text("abc"), text("ac"), no},
		{"~", text("abc"), text(""), yes}, {"~", text(""), text(""), yes}, {"~", text(""), text("a"), no},
		{"~", text("b"), text("abc"), no}, {"~", text("a\xffb"), text("\xff"), yes}, {"~", text(longest), text(longest), yes},
		{"~", text("a"), null, null}, {"~", null, text("a"), null}, {"~", text("1"), num(1), null}, {"~", yes, yes, null}, {"~", null, null, null},
	})
}

func TestP1AndOr(t *testing.T) {
	neither := append([]impl.Value{null, num(0), num(1), text("a"), text("")}, wrongValues()...)
	checkReckonings(t, []reckoning{
		{"and", no, no, no}, {"and", no, yes, no}, {"and", yes, no, no}, {"and", yes, yes, yes},
		{"or", no, no, no}, {"or", no, yes, yes}, {"or", yes, no, yes}, {"or", yes, yes, yes},
	})
	for _, v := range neither {
		checkReckonings(t, []reckoning{
			{"and", v, no, no}, {"and", no, v, no}, {"and", v, yes, null}, {"and", yes, v, null}, {"and", v, v, null},
			{"or", v, yes, yes}, {"or", yes, v, yes}, {"or", v, no, null}, {"or", no, v, null}, {"or", v, v, null},
		})
	}
}

func TestP1ReckonOfAllElseIsNull(t *testing.T) {
	for _, op := range []string{"", "%", ">", "!", "not", "AND", "Or", "==", "+ ", "\xff", strings.Repeat("+", 1000)} {
		for _, v := range rightValues() {
			checkReckonings(t, []reckoning{{op, v, v, null}})
		}
	}
	for _, op := range []string{"+", "-", "*", "/"} {
		for _, v := range allValues() {
			if v.Kind != impl.VInt {
				checkReckonings(t, []reckoning{{op, v, num(1), null}, {op, num(1), v, null}, {op, v, v, null}})
			}
		}
	}
	for _, op := range []string{"+", "-", "*", "/", "=", "<", "~"} {
		for _, v := range allValues() {
			checkReckonings(t, []reckoning{{op, null, v, null}, {op, v, null, null}})
		}
	}
}

func TestP1NotNullTrue(t *testing.T) {
	for _, v := range allValues() {
		not := null
		if v.Kind == impl.VBool {
			not = no
			if v.N == 0 {
				not = yes
			}
		}
		if got := impl.Not(v); got != not {
			t.Errorf("not %#v: %#v, want %#v", v, got, not)
		}
		isNull := no
		if v.Kind == impl.VNull {
			isNull = yes
		}
		if got := impl.IsNull(v); got != isNull {
			t.Errorf("is null %#v: %#v, want %#v", v, got, isNull)
		}
		if got := impl.IsTrue(v); got != (v.Kind == impl.VBool && v.N == 1) {
			t.Errorf("is true %#v: %v", v, got)
		}
	}
}

func TestP1ValueText(t *testing.T) {
	for _, x := range []struct {
		v    impl.Value
		want string
	}{
		{null, "null"}, {num(0), "0"}, {num(-5), "-5"}, {num(math.MinInt), "-9223372036854775808"}, {num(math.MaxInt), "9223372036854775807"},
		{yes, "true"}, {no, "false"}, {text(""), "''"}, {text("a b"), "'a b'"}, {text("'"), "''''"}, {text("a''b"), "'a''''b'"},
		{text("\xff\n"), "'\xff\n'"}, {text(longest), "'" + longest + "'"},
	} {
		if got := impl.ValueText(x.v); got != x.want {
			t.Errorf("%#v: %q, want %q", x.v, got, x.want)
		}
	}
}

func TestP1PutValue(t *testing.T) {
	for _, x := range []struct {
		v    impl.Value
		want string
	}{
		{null, "\x00"}, {num(0), "\x01\x00\x00\x00\x00\x00\x00\x00\x00"}, {num(258), "\x01\x00\x00\x00\x00\x00\x00\x01\x02"},
		{num(0x0102030405060708), "\x01\x01\x02\x03\x04\x05\x06\x07\x08"}, {num(-2), "\x01\xff\xff\xff\xff\xff\xff\xff\xfe"},
		{num(math.MinInt), "\x01\x80\x00\x00\x00\x00\x00\x00\x00"}, {num(math.MaxInt), "\x01\x7f\xff\xff\xff\xff\xff\xff\xff"},
		{no, "\x02\x00"}, {yes, "\x02\x01"}, {text(""), "\x03\x00"}, {text("a\xff"), "\x03\x02a\xff"}, {text(longest), "\x03\x64" + longest},
	} {
		if got := impl.PutValue(x.v); got != x.want {
			t.Errorf("%#v: %q, want %q", x.v, got, x.want)
		}
	}
}

func checkNone(t *testing.T, s string, i int) {
	t.Helper()
	if v, at := impl.GetValue(s, i); v != null || at != -1 {
		t.Errorf("%q from %d: %#v, %d", s, i, v, at)
	}
}

func TestP1ValueComesBack(t *testing.T) {
	for _, v := range rightValues() {
		put := impl.PutValue(v)
		for _, ahead := range []string{"", "z", "\x01\x02\x03"} {
			for _, behind := range []string{"", "z", "\x00\x00"} {
				got, at := impl.GetValue(ahead+put+behind, len(ahead))
				if got != v || at != len(ahead)+len(put) {
					t.Errorf("%#v: %#v, %d", v, got, at)
				}
			}
		}
		for cut := range len(put) {
			checkNone(t, put[:cut], 0)
		}
		for _, i := range []int{math.MinInt, -2, -1, len(put), len(put) + 1, math.MaxInt} {
			checkNone(t, put, i)
		}
	}
}

func TestP1NoValueInOtherBytes(t *testing.T) {
	for _, s := range []string{
		"", "\x01", "\x01abcdefg", "\x02", "\x02\x02", "\x02\xff", "\x03", "\x03\x01", "\x03\x02a", "\x04", "\x04\x00", "\xff",
		"\x03\x65" + longest, "\x03\x65" + longest + "x", "\x03\xff" + strings.Repeat("x", 255),
	} {
		checkNone(t, s, 0)
		checkNone(t, "z"+s, 1)
	}
}

func TestP1BytesAreThoseOfTheirValue(t *testing.T) {
	for first := range 256 {
		for second := range 256 {
			s := string([]byte{byte(first), byte(second), 1, 2, 3, 4, 5, 6, 7, 8})
			v, at := impl.GetValue(s, 0)
			if at == -1 {
				if v != null || first == 0 || first == 1 || first == 2 && second < 2 || first == 3 && second <= 8 {
					t.Errorf("%q: %#v", s, v)
				}
				continue
			}
			if !impl.ValueOk(v) || at > len(s) || impl.PutValue(v) != s[:at] {
				t.Errorf("%q: %#v, %d", s, v, at)
			}
		}
	}
}

func TestP1Names(t *testing.T) {
	for _, s := range []string{"a", "z", "a1", "z09", "abcdefghij", "a123456789"} {
		if !impl.NameOk(s) {
			t.Errorf("name: %q", s)
		}
	}
	for _, s := range []string{"", "1", "1a", "A", "aB", "a b", "a_", "a.b", " a", "a ", "a\n", "\x00", "a\x00", "é", "aé", "`", "a{", "a/", "a:", "abcdefghijk", "a1234567890", longest} {
		if impl.NameOk(s) {
			t.Errorf("no name: %q", s)
		}
	}
}

func TestP1DecText(t *testing.T) {
	for _, n := range []int{math.MinInt, -1000, -10, -9, -1, 0, 1, 9, 10, 100, 1000, math.MaxInt} {
		if got := impl.DecText(n); got != strconv.FormatInt(int64(n), 10) {
			t.Errorf("%d: %q", n, got)
		}
	}
}

func TestP13ValuesAnswerAtAnyArguments(t *testing.T) {
	ops := []string{"+", "-", "*", "/", "=", "<", "~", "and", "or", "", "?"}
	places := []int{math.MinInt, -1, 0, 1, 2, 99, math.MaxInt}
	for _, a := range allValues() {
		impl.Not(a)
		impl.IsNull(a)
		impl.IsTrue(a)
		impl.DecText(a.N)
		impl.NameOk(a.S)
		for _, i := range places {
			impl.GetValue(a.S, i)
			impl.GetValue(impl.PutValue(a), i)
		}
		for _, b := range allValues() {
			for _, op := range ops {
				if got := impl.Reckon(op, a, b); !impl.ValueOk(got) {
					t.Errorf("%#v %s %#v: %#v is no value", a, op, b, got)
				}
			}
		}
	}
}
