package impl

import (
	"cmp"
	"strconv"
	"strings"
)

const (
	VNull = iota
	VInt
	VBool
	VText
	MaxText = 100
)

const (
	maxName   = 10
	numberLen = 8
)

type Value struct {
	Kind int
	N    int
	S    string
}

// A form holds of a value only what its kind has, so that a stray N or S can't be read by mistake.
type form interface{ inRange() bool }

type nullForm struct{}

type intForm struct{ n int }

// A boolForm keeps the number: a VBool with another N than 0 and 1 still is one to Not.
type boolForm struct{ n int }

type textForm struct{ s string }

func (nullForm) inRange() bool { return true }

func (intForm) inRange() bool { return true }

func (f boolForm) inRange() bool { return f.n == 0 || f.n == 1 }

func (f textForm) inRange() bool { return len(f.s) <= MaxText }

// formOf answers nil for another kind: each question after a form then says no.
func formOf(v Value) form {
	switch v.Kind {
	case VNull:
		return nullForm{}
	case VInt:
		return intForm{v.N}
	case VBool:
		return boolForm{v.N}
	case VText:
		return textForm{v.S}
	}
	return nil
}

func valueOf(f form) Value {
	if x, ok := f.(intForm); ok {
		return Value{Kind: VInt, N: x.n}
	}
	if x, ok := f.(boolForm); ok {
		return Value{Kind: VBool, N: x.n}
	}
	if x, ok := f.(textForm); ok {
		return Value{Kind: VText, S: x.s}
	}
	return Value{}
}

// ValueOk makes the value anew from its form: where anything was lost, something stood that its kind has not.
func ValueOk(v Value) bool {
	f := formOf(v)
	return f != nil && f.inRange() && valueOf(f) == v
}

func CompareValue(a Value, b Value) int {
	return cmp.Or(cmp.Compare(a.Kind, b.Kind), cmp.Compare(a.N, b.N), cmp.Compare(a.S, b.S))
}

func Reckon(op string, a Value, b Value) Value {
	switch op {
	case "+", "-", "*", "/":
		return reckonInts(op, a, b)
	case "=", "<":
		return reckonOrder(op, a, b)
	case "~":
		return reckonHolds(a, b)
	case "and":
		return reckonChain(a, b, 0)
	case "or":
		return reckonChain(a, b, 1)
	}
	return Value{}
}

func reckonInts(op string, a Value, b Value) Value {
	x, isInt := formOf(a).(intForm)
	y, alsoInt := formOf(b).(intForm)
	if !isInt || !alsoInt {
		return Value{}
	}
	n, ok := 0, false
	switch op {
	case "+":
		n, ok = addInts(x.n, y.n)
	case "-":
		n, ok = subInts(x.n, y.n)
	case "*":
		n, ok = mulInts(x.n, y.n)
	case "/":
		n, ok = divInts(x.n, y.n)
	}
	if !ok {
		return Value{}
	}
	return Value{Kind: VInt, N: n}
}

// addInts sees that a sum went around 64 bits by its going the wrong way.
func addInts(a int, b int) (int, bool) {
	n := a + b
	return n, (n > a) == (b > 0)
}

func subInts(a int, b int) (int, bool) {
	n := a - b
	return n, (n < a) == (b > 0)
}

// mulInts takes -1 apart: the least number times -1 is itself again, which dividing back can't tell.
func mulInts(a int, b int) (int, bool) {
	if b == 0 {
		return 0, true
	}
	if b == -1 {
		return subInts(0, a)
	}
	n := a * b
	return n, n/b == a
}

// divInts takes -1 apart: the least number has no quotient by it.
func divInts(a int, b int) (int, bool) {
	if b == 0 {
		return 0, false
	}
	if b == -1 {
		return subInts(0, a)
	}
	n := a / b
	if a%b != 0 && (a < 0) != (b < 0) {
		n--
	}
	return n, true
}

func reckonOrder(op string, a Value, b Value) Value {
	if a.Kind != b.Kind || a.Kind == VNull {
		return Value{}
	}
	order := CompareValue(a, b)
	if op == "=" {
		return boolValue(order == 0)
	}
	return boolValue(order < 0)
}

func reckonHolds(a Value, b Value) Value {
	x, isText := formOf(a).(textForm)
	y, alsoText := formOf(b).(textForm)
	if !isText || !alsoText {
		return Value{}
	}
	return boolValue(strings.Contains(x.s, y.s))
}

// reckonChain serves and (strong 0) and or (strong 1): one strong side settles it, whatever the other is.
func reckonChain(a Value, b Value, strong int) Value {
	wins, yields := Value{Kind: VBool, N: strong}, Value{Kind: VBool, N: 1 - strong}
	if a == wins || b == wins {
		return wins
	}
	if a == yields && b == yields {
		return yields
	}
	return Value{}
}

func boolValue(is bool) Value {
	if is {
		return Value{Kind: VBool, N: 1}
	}
	return Value{Kind: VBool}
}

func Not(v Value) Value {
	x, ok := formOf(v).(boolForm)
	if !ok {
		return Value{}
	}
	return boolValue(x.n == 0)
}

func IsNull(v Value) Value {
	_, ok := formOf(v).(nullForm)
	return boolValue(ok)
}

func IsTrue(v Value) bool {
	x, ok := formOf(v).(boolForm)
	return ok && x.n == 1
}

func ValueText(v Value) string {
	if !ValueOk(v) {
		return ""
	}
	return formText(formOf(v))
}

func formText(f form) string {
	if _, ok := f.(nullForm); ok {
		return "null"
	}
	if x, ok := f.(intForm); ok {
		return DecText(x.n)
	}
	if x, ok := f.(boolForm); ok {
		return strconv.FormatBool(x.n == 1)
	}
	// A value that is ValueOk has no other kind.
	return "'" + strings.ReplaceAll(f.(textForm).s, "'", "''") + "'"
}

func PutValue(v Value) string {
	if !ValueOk(v) {
		return ""
	}
	return string(formBytes(formOf(v)))
}

func formBytes(f form) []byte {
	if _, ok := f.(nullForm); ok {
		return []byte{VNull}
	}
	if x, ok := f.(intForm); ok {
		return numberBytes(x.n)
	}
	if x, ok := f.(boolForm); ok {
		return []byte{VBool, byte(x.n)}
	}
	// A value that is ValueOk has no other kind.
	s := f.(textForm).s
	return append([]byte{VText, byte(len(s))}, s...)
}

func numberBytes(n int) []byte {
	out := []byte{VInt}
	for i := numberLen - 1; i >= 0; i-- {
		out = append(out, byte(uint64(n)>>(8*i)))
	}
	return out
}

func GetValue(s string, i int) (Value, int) {
	if i < 0 || i >= len(s) {
		return Value{}, -1
	}
	f, size := firstForm(s[i:])
	if f == nil || !f.inRange() {
		return Value{}, -1
	}
	return valueOf(f), i + size
}

// firstForm takes a text that is not empty; it answers nil where the bytes are of no kind or break off.
func firstForm(s string) (form, int) {
	kind, rest := int(s[0]), s[1:]
	switch {
	case kind == VNull:
		return nullForm{}, 1
	case kind == VInt && len(rest) >= numberLen:
		return intForm{numberOf(rest[:numberLen])}, 1 + numberLen
	case kind == VBool && len(rest) >= 1:
		return boolForm{int(rest[0])}, 2
	case kind == VText && len(rest) >= 1 && len(rest) > int(rest[0]):
		n := int(rest[0])
		return textForm{strings.Clone(rest[1 : 1+n])}, 2 + n
	}
	return nil, 0
}

func numberOf(s string) int {
	bits := uint64(0)
	for i := 0; i < len(s); i++ {
		bits = bits<<8 | uint64(s[i])
	}
	return int(bits)
}

func NameOk(s string) bool {
	if s == "" || len(s) > maxName || !isSmall(s[0]) {
		return false
	}
	for i := 1; i < len(s); i++ {
		if !isSmall(s[i]) && !isDigit(s[i]) {
			return false
		}
	}
	return true
}

func isSmall(c byte) bool { return 'a' <= c && c <= 'z' }

func isDigit(c byte) bool { return '0' <= c && c <= '9' }

func DecText(n int) string { return strconv.Itoa(n) }
