package tests

import (
	"encoding/binary"
	"hash/fnv"
	"math"
	"math/rand"
	"reflect"
	"regexp"
	"slices"
	"strings"
	"testing"

	"loop.example/g00312/impl"
)

// entryHead is how many bytes stand ahead of a step in a log: its size and its sum.
const entryHead = 8

// tableStep has columns with a blank between two.
func tableStep(name string, cols string) impl.Step {
	return impl.Step{Kind: impl.StTable, Name: name, Cols: strings.Fields(cols)}
}

func viewStep(name string, query string) impl.Step {
	return impl.Step{Kind: impl.StView, Name: name, Query: query}
}

func dropStep(name string) impl.Step { return impl.Step{Kind: impl.StDrop, Name: name} }

func changeStep(list ...impl.Rel) impl.Step { return impl.Step{Kind: impl.StChange, Change: list} }

// ordinarySteps are small, and some of each kind.
func ordinarySteps() []impl.Step {
	return []impl.Step{
		tableStep("a", "x y"), tableStep("p", "id name age"), viewStep("v", "select"), viewStep("w", "select x, count(*) from a group by x"), dropStep("v"),
		changeStep(rel("a", bag(2, times(1, num(1), text("it's")), times(-3, yes, null)))),
		changeStep(rel("a", bag(2, times(-1, num(1), num(2)))), rel("b", bag(1)), rel("p", bag(3, times(2, num(7), text("ann"), null)))),
		dropStep("a"),
	}
}

// edgeSteps are right ones that meet a limit.
func edgeSteps() []impl.Step {
	long := "abcdefghij"
	list := []impl.Step{
		tableStep("a", "x"), tableStep(long, long), tableStep("a", numberedCols("c", impl.MaxWidth)), tableStep("a", "a"), tableStep("a", "x x0 x1"), tableStep("select", "from where"),
		{Kind: impl.StTable, Name: "a", Cols: []string{"x"}, Change: []impl.Rel{}},
		viewStep("v", ""), viewStep(long, "?"), viewStep("v", strings.Repeat("q", 255)), viewStep("v", strings.Repeat("q", 256)), viewStep("v", strings.Repeat("q", impl.MaxQuery)), viewStep("v", strings.Repeat("\x00", impl.MaxQuery)), viewStep("v", "\x00\xff'\n\u00e9"),
		{Kind: impl.StView, Name: "v", Query: "q", Cols: []string{}, Change: []impl.Rel{}},
		dropStep(long), dropStep("z9"), {Kind: impl.StDrop, Name: "a", Cols: []string{}, Change: []impl.Rel{}},
		changeStep(manyRels(mostRels)...), changeStep(rel(long, bag(0))), changeStep(rel("a", bag(1)), rel("a0", bag(2)), rel("aa", bag(0)), rel(long, bag(1)), rel("b", bag(1))),
		{Kind: impl.StChange, Cols: []string{}, Change: []impl.Rel{rel("a", bag(0))}},
		changeStep(rel("a", tallBag())),
	}
	for _, b := range rightBags() {
		list = append(list, changeStep(rel("a", b)), changeStep(rel("a", bag(1)), rel("b", b), rel("c", bag(2))))
	}
	return list
}

// tallBag has as many bytes as a bag can have.
func tallBag() impl.Bag {
	b := bag(impl.MaxWidth)
	for i := range impl.MaxRows {
		values := slices.Repeat([]impl.Value{text(longest)}, impl.MaxWidth)
		values[0] = text(strings.Repeat("x", impl.MaxText-2) + string([]byte{byte(i / 256), byte(i % 256)}))
		b.Rows = append(b.Rows, times(1, values...))
	}
	return b
}

func rightSteps() []impl.Step { return append(ordinarySteps(), edgeSteps()...) }

func wrongNames() []string {
	return []string{"", "A", "aB", "1", "1a", "a b", " a", "a ", "a.b", ".", "_", "a_", "abcdefghijk", strings.Repeat("a", 256), strings.Repeat("a", 65537), "\u00e9", "a\u00e9", "a\x00", "\x00", "a\n", "*", "\xff"}
}

// extras are a right step of each kind with what that kind has not, one thing each.
func extras() []impl.Step {
	some, one := change(rel("a", bag(1, times(1, num(1))))), []string{"x"}
	return []impl.Step{
		{Kind: impl.StTable, Name: "a", Cols: one, Query: "q"}, {Kind: impl.StTable, Name: "a", Cols: one, Query: "\x00"}, {Kind: impl.StTable, Name: "a", Cols: one, Change: some}, {Kind: impl.StTable, Name: "a", Cols: one, Change: change(impl.Rel{})},
		{Kind: impl.StView, Name: "a", Query: "q", Cols: one}, {Kind: impl.StView, Name: "a", Query: "q", Cols: []string{""}}, {Kind: impl.StView, Name: "a", Query: "q", Change: some}, {Kind: impl.StView, Name: "a", Query: "q", Change: change(impl.Rel{})}, {Kind: impl.StView, Name: "a", Cols: one}, {Kind: impl.StView, Name: "a", Change: some},
		{Kind: impl.StDrop, Name: "a", Cols: one}, {Kind: impl.StDrop, Name: "a", Cols: []string{""}}, {Kind: impl.StDrop, Name: "a", Query: "q"}, {Kind: impl.StDrop, Name: "a", Query: " "}, {Kind: impl.StDrop, Name: "a", Change: some}, {Kind: impl.StDrop, Name: "a", Change: change(impl.Rel{})},
		{Kind: impl.StChange, Change: some, Name: "a"}, {Kind: impl.StChange, Change: some, Name: " "}, {Kind: impl.StChange, Change: some, Cols: one}, {Kind: impl.StChange, Change: some, Cols: []string{""}}, {Kind: impl.StChange, Change: some, Query: "q"}, {Kind: impl.StChange, Change: some, Query: "\x00"},
	}
}

// wrongStepParts are steps with names, columns, texts or changes that are none.
func wrongStepParts() []impl.Step {
	list := []impl.Step{
		{}, {Kind: impl.StView}, {Kind: impl.StDrop}, {Kind: impl.StChange}, {Kind: impl.StChange, Change: []impl.Rel{}},
		tableStep("a", ""), tableStep("a", numberedCols("c", impl.MaxWidth+1)), tableStep("a", numberedCols("c", 256)), tableStep("a", numberedCols("c", 257)), tableStep("a", numberedCols("c", 256+impl.MaxWidth)), tableStep("", "x"), {Cols: []string{"x"}}, {Name: "a"},
		tableStep("a", "x x"), tableStep("a", "x y x"), tableStep("a", "x y y"), tableStep("a", numberedCols("c", impl.MaxWidth-1)+" c0"),
		viewStep("", "q"), viewStep("v", strings.Repeat("q", impl.MaxQuery+1)), viewStep("v", strings.Repeat("q", 65535)), viewStep("v", strings.Repeat("q", 65536)), viewStep("v", strings.Repeat("q", 65540)),
		changeStep(manyRels(mostRels + 1)...), changeStep(slices.Repeat(manyRels(1), 256)...), changeStep(slices.Repeat(manyRels(1), 257)...),
		changeStep(rel("b", bag(1)), rel("a", bag(1))), changeStep(rel("a", bag(1)), rel("a", bag(1))), changeStep(rel("a", bag(1)), rel("a", bag(2))), changeStep(rel("a", bag(1)), rel("c", bag(1)), rel("b", bag(1))), changeStep(rel("a", bag(1)), rel("b", bag(1)), rel("a", bag(1))), changeStep(rel("a", bag(1)), rel("b", bag(1)), rel("b", bag(1))), changeStep(rel("aa", bag(1)), rel("a0", bag(1))), changeStep(rel("aa", bag(1)), rel("a", bag(1))),
		changeStep(impl.Rel{}),
	}
	for _, name := range wrongNames() {
		list = append(list, tableStep(name, "x"), viewStep(name, "q"), dropStep(name), changeStep(rel(name, bag(1))), changeStep(rel(name, bag(1)), rel("zz", bag(1))))
		list = append(list, impl.Step{Name: "a", Cols: []string{name}}, impl.Step{Name: "a", Cols: []string{"x", name, "y"}}, impl.Step{Name: "a", Cols: []string{"x", "y", name}}, changeStep(rel("a", bag(1)), rel(name, bag(1))))
	}
	for _, b := range wrongBags() {
		list = append(list, changeStep(rel("a", b)), changeStep(rel("a", b), rel("b", bag(1))), changeStep(rel("a", bag(1)), rel("b", b)), changeStep(rel("a", bag(1)), rel("b", b), rel("c", bag(0))))
	}
	return list
}

// otherKinds are none, however the rest of a step is.
func otherKinds() []impl.Step {
	list := []impl.Step{}
	for _, s := range append(ordinarySteps(), impl.Step{}) {
		for _, kind := range []int{4, 5, 100, 255, 256, 256 + s.Kind, 512 + s.Kind, 65536 + s.Kind, 1<<32 + s.Kind, math.MaxInt, -1, -2, -3, -4, -256, s.Kind - 256, s.Kind - 1<<32, math.MinInt, math.MinInt + s.Kind} {
			next := s
			next.Kind = kind
			list = append(list, next)
		}
	}
	table, view, some := tableStep("a", "x"), viewStep("a", "q"), changeStep(rel("a", bag(1)))
	for kind := range 4 {
		for _, s := range []impl.Step{table, view, some} {
			if s.Kind != kind {
				s.Kind = kind
				list = append(list, s)
			}
		}
	}
	return append(list, impl.Step{Kind: impl.StTable, Name: "a"}, impl.Step{Kind: impl.StChange, Name: "a"})
}

// noStepBytes are what wrong steps would be in bytes, but for a width beyond a byte: that looks like another one.
func noStepBytes() []string {
	out := []string{}
	for _, s := range slices.Concat(extras(), wrongStepParts()) {
		if !slices.ContainsFunc(s.Change, func(r impl.Rel) bool { return r.Bag.Width < 0 || r.Bag.Width > 255 }) {
			out = append(out, string(layoutOf(s).out))
		}
	}
	return out
}

func wrongSteps() []impl.Step { return slices.Concat(extras(), wrongStepParts(), otherKinds()) }

// sameStep takes no list and an empty list for the same.
func sameStep(a impl.Step, b impl.Step) bool {
	return a.Kind == b.Kind && a.Name == b.Name && slices.Equal(a.Cols, b.Cols) && a.Query == b.Query && sameDb(a.Change, b.Change)
}

func sameSteps(a []impl.Step, b []impl.Step) bool { return slices.EqualFunc(a, b, sameStep) }

// A field is where a size, or how many there are, stands in a step's bytes, and in how many of them.
type field struct {
	at   int
	size int
}

// A layout is a step's bytes by hand, right or not.
type layout struct {
	out   []byte
	sizes []field
}

func (w *layout) size(n int, size int) {
	w.sizes = append(w.sizes, field{len(w.out), size})
	eight := binary.BigEndian.AppendUint64(nil, uint64(n))
	w.out = append(w.out, eight[8-size:]...)
}

func (w *layout) text(s string, size int) {
	w.size(len(s), size)
	w.out = append(w.out, s...)
}

func layoutOf(s impl.Step) layout {
	w := layout{out: []byte{byte(s.Kind)}}
	w.text(s.Name, 2)
	w.size(len(s.Cols), 1)
	for _, name := range s.Cols {
		w.text(name, 2)
	}
	w.text(s.Query, 2)
	w.size(len(s.Change), 1)
	for _, r := range s.Change {
		w.text(r.Name, 2)
		w.text(bytesOf(r.Bag), 4)
	}
	return w
}

func sumByHand(s string) uint32 {
	h := fnv.New32a()
	h.Write([]byte(s))
	return h.Sum32()
}

// framed is how any bytes stand in a log, with that size and the sum of what there is.
func framed(size int, s string) string {
	head := binary.BigEndian.AppendUint32(nil, uint32(size))
	return string(binary.BigEndian.AppendUint32(head, sumByHand(s))) + s
}

func entryOf(s impl.Step) string {
	out := string(layoutOf(s).out)
	return framed(len(out), out)
}

func checkStepComesBack(t *testing.T, s impl.Step) {
	t.Helper()
	put := impl.PutStep(s)
	if put != string(layoutOf(s).out) {
		t.Errorf("%.300v: bytes %.300q", s, put)
	}
	if got, ok := impl.GetStep(put); !ok || !sameStep(got, s) {
		t.Errorf("%.300v: %.300v, %v", s, got, ok)
	}
}

func checkNoStep(t *testing.T, s string) {
	t.Helper()
	if got, ok := impl.GetStep(s); ok || !sameStep(got, impl.Step{}) {
		t.Errorf("%.300q: %.300v, %v", s, got, ok)
	}
}

// checkAnyBytes asks of any bytes that they are none, or just those of the step that they tell.
func checkAnyBytes(t *testing.T, s string) bool {
	t.Helper()
	got, ok := impl.GetStep(s)
	if !ok {
		checkNoStep(t, s)
		return false
	}
	if !impl.StepOk(got) || string(layoutOf(got).out) != s {
		t.Errorf("%.300q: %.300v", s, got)
	}
	return true
}

// mustAppend is the log of steps, with the byte behind which each of them ends.
func mustAppend(t *testing.T, steps ...impl.Step) (string, []int) {
	t.Helper()
	log, ends := "", []int{}
	for i, s := range steps {
		next, ok := impl.Append(log, s)
		if !ok || next != log+entryOf(s) {
			t.Fatalf("step %d: %v, %.300q", i, ok, next)
		}
		log = next
		ends = append(ends, len(log))
	}
	return log, ends
}

func checkReadLog(t *testing.T, what string, log string, want []impl.Step, wantEnd int) {
	t.Helper()
	if got, end := impl.ReadLog(log); !sameSteps(got, want) || end != wantEnd {
		t.Errorf("%s: %d steps to %d, want %d to %d", what, len(got), end, len(want), wantEnd)
	}
}

func checkNotAppended(t *testing.T, what string, log string, s impl.Step) {
	t.Helper()
	if got, ok := impl.Append(log, s); ok || got != log {
		t.Errorf("%s: %v, %d bytes of %d", what, ok, len(got), len(log))
	}
}

func TestP10BytesOfEachKind(t *testing.T) {
	b := bag(2, times(1, num(1), text("it's")), times(-3, yes, null))
	for _, x := range []struct {
		s    impl.Step
		want string
	}{
		{tableStep("a", "x y"), "\x00\x00\x01a\x02\x00\x01x\x00\x01y\x00\x00\x00"},
		{tableStep("abcdefghij", numberedCols("c", impl.MaxWidth)), "\x00\x00\x0aabcdefghij\x0c\x00\x02c0\x00\x02c1\x00\x02c2\x00\x02c3\x00\x02c4\x00\x02c5\x00\x02c6\x00\x02c7\x00\x02c8\x00\x02c9\x00\x03c10\x00\x03c11\x00\x00\x00"},
		{viewStep("v", "select"), "\x01\x00\x01v\x00\x00\x06select\x00"},
		{viewStep("v1", ""), "\x01\x00\x02v1\x00\x00\x00\x00"},
		{viewStep("v", strings.Repeat("q", impl.MaxQuery)), "\x01\x00\x01v\x00\x03\xe8" + strings.Repeat("q", impl.MaxQuery) + "\x00"},
		{viewStep("v", "\x00\xff"), "\x01\x00\x01v\x00\x00\x02\x00\xff\x00"},
		{dropStep("v"), "\x02\x00\x01v\x00\x00\x00\x00"},
		{changeStep(rel("a", bag(3))), "\x03\x00\x00\x00\x00\x00\x01\x00\x01a\x00\x00\x00\x01\x03"},
		{changeStep(rel("a", b)), "\x03\x00\x00\x00\x00\x00\x01\x00\x01a\x00\x00\x00\x25\x02\x01\x00\x00\x00\x00\x00\x00\x00\x01\x01\x00\x00\x00\x00\x00\x00\x00\x01\x03\x04it's\x01\xff\xff\xff\xff\xff\xff\xff\xfd\x02\x01\x00"},
		{changeStep(rel("a", bag(0, times(-1))), rel("ab", bag(12))), "\x03\x00\x00\x00\x00\x00\x02\x00\x01a\x00\x00\x00\x0a\x00\x01\xff\xff\xff\xff\xff\xff\xff\xff\x00\x02ab\x00\x00\x00\x01\x0c"},
		{changeStep(rel("a", numbered(0, impl.MaxRows))), "\x03\x00\x00\x00\x00\x00\x01\x00\x01a\x00\x00\x1c\x21" + impl.PutBag(numbered(0, impl.MaxRows))},
		{changeStep(rel("a", tallBag())), "\x03\x00\x00\x00\x00\x00\x01\x00\x01a\x00\x07\x86\x91" + impl.PutBag(tallBag())},
	} {
		if got := impl.PutStep(x.s); got != x.want {
			t.Errorf("%.300v: %.300q, want %.300q", x.s, got, x.want)
		}
		if got, ok := impl.GetStep(x.want); !ok || !sameStep(got, x.s) {
			t.Errorf("%.300q: %.300v, %v, want %.300v", x.want, got, ok, x.s)
		}
	}
}

func TestP10RightStepsComeBack(t *testing.T) {
	for i, s := range rightSteps() {
		if !impl.StepOk(s) {
			t.Errorf("right: %d: %.300v", i, s)
		}
		checkStepComesBack(t, s)
	}
}

func TestP10WrongSteps(t *testing.T) {
	log, _ := mustAppend(t, ordinarySteps()...)
	for i, s := range wrongSteps() {
		if impl.StepOk(s) || impl.PutStep(s) != "" {
			t.Errorf("wrong: %d: %.300v", i, s)
		}
		for _, ahead := range []string{"", log, "no log"} {
			checkNotAppended(t, "wrong", ahead, s)
		}
		checkAnyBytes(t, string(layoutOf(s).out))
	}
	for _, s := range noStepBytes() {
		checkNoStep(t, s)
	}
	for kind := range 256 {
		s := dropStep("a")
		s.Kind = kind
		if kind != impl.StView && kind != impl.StDrop {
			checkNoStep(t, string(layoutOf(s).out))
		}
	}
}

func TestP10StepsCutOffOrWithMore(t *testing.T) {
	for _, s := range ordinarySteps() {
		put := impl.PutStep(s)
		for cut := range len(put) {
			checkNoStep(t, put[:cut])
		}
		for from := 1; from < len(put); from++ {
			checkNoStep(t, put[from:])
		}
		for c := range 256 {
			checkNoStep(t, put+string([]byte{byte(c)}))
		}
		for _, more := range []string{put, "\x00\x00", put[1:], strings.Repeat("\x00", 1000), "x"} {
			checkNoStep(t, put+more)
		}
	}
}

// withSize writes another number over a field.
func withSize(out []byte, f field, n uint64) string {
	spoilt := slices.Clone(out)
	copy(spoilt[f.at:f.at+f.size], binary.BigEndian.AppendUint64(nil, n)[8-f.size:])
	return string(spoilt)
}

// moreThanThereIs are sizes that the bytes behind a field can't have.
func moreThanThereIs(w layout, f field) []uint64 {
	most := uint64(1)<<(8*f.size) - 1
	left := uint64(len(w.out) - f.at - f.size)
	sizes := []uint64{}
	for _, n := range []uint64{left + 1, left + 2, left + 100, 127, 128, 255, 256, 32767, 32768, 65535, 65536, 1<<31 - 1, 1 << 31, most / 2, most - 1, most} {
		if left < n && n <= most {
			sizes = append(sizes, n)
		}
	}
	return sizes
}

func TestP10SizesOfStepsThatAreOther(t *testing.T) {
	tried := 0
	for _, s := range ordinarySteps() {
		w := layoutOf(s)
		for _, f := range w.sizes {
			for _, n := range moreThanThereIs(w, f) {
				checkNoStep(t, withSize(w.out, f, n))
				tried++
			}
			right := binary.BigEndian.Uint64(append(make([]byte, 8-f.size), w.out[f.at:f.at+f.size]...))
			for n := range uint64(256) {
				if n != right {
					checkNoStep(t, withSize(w.out, f, n))
				}
			}
		}
	}
	if tried < 200 {
		t.Errorf("only %d sizes were more than there is", tried)
	}
}

func TestP10StepsSpoiltAtEachByte(t *testing.T) {
	for _, s := range ordinarySteps() {
		put := impl.PutStep(s)
		for i := range len(put) {
			for c := range 256 {
				spoilt := put[:i] + string([]byte{byte(c)}) + put[i+1:]
				if checkAnyBytes(t, spoilt) && spoilt != put {
					got, _ := impl.GetStep(spoilt)
					if sameStep(got, s) {
						t.Errorf("%q and %q are one step", put, spoilt)
					}
				}
			}
		}
	}
}

func TestP10Sum(t *testing.T) {
	for _, x := range []struct {
		s    string
		want uint32
	}{
		{"", 2166136261}, {"a", 3826002220}, {"b", 0xe70c2de5}, {"foobar", 0xbf9cf968}, {"\x00", 0x050c5d1f}, {"\xff", 0x7a0b824e}, {"ab", 0x4d2505ca}, {"ba", 0x3c2ba6cc}, {"\x00\x00", 0x117697cd},
	} {
		if got := impl.Sum(x.s); got != x.want {
			t.Errorf("%q: %d, want %d", x.s, got, x.want)
		}
	}
	around := 0
	for c := range 256 {
		whole := uint64(2166136261^c) * 16777619
		if whole > math.MaxUint32 {
			around++
		}
		if got := impl.Sum(string([]byte{byte(c)})); uint64(got) != whole%(1<<32) {
			t.Errorf("byte %d: %d, want %d", c, got, whole%(1<<32))
		}
	}
	if around != 256 {
		t.Error("none goes around", around)
	}
	r := rand.New(rand.NewSource(100))
	for range 2000 {
		s := anyBytes(r, 300)
		if got := impl.Sum(s); got != sumByHand(s) {
			t.Errorf("%q: %d, want %d", s, got, sumByHand(s))
		}
	}
	for _, s := range []string{strings.Repeat("\x00", 100000), strings.Repeat("\xff", 1000000), strings.Repeat("\u00e9", 1000)} {
		if got := impl.Sum(s); got != sumByHand(s) {
			t.Errorf("%d bytes: %d, want %d", len(s), got, sumByHand(s))
		}
	}
}

func anyBytes(r *rand.Rand, most int) string {
	out := make([]byte, r.Intn(most))
	for i := range out {
		out[i] = byte(r.Intn(256))
	}
	return string(out)
}

func TestP10EntriesOfALog(t *testing.T) {
	for _, x := range []struct {
		s    impl.Step
		want string
	}{
		{dropStep("v"), "\x00\x00\x00\x08\x52\x11\x43\x64\x02\x00\x01v\x00\x00\x00\x00"},
		{viewStep("v", strings.Repeat("q", 600)), "\x00\x00\x02\x60\x85\xe7\xf7\x41\x01\x00\x01v\x00\x02\x58" + strings.Repeat("q", 600) + "\x00"},
	} {
		if got, ok := impl.Append("", x.s); !ok || got != x.want {
			t.Errorf("%.100v: %.100q, %v, want %.100q", x.s, got, ok, x.want)
		}
		if got, ok := impl.Append(x.want, x.s); !ok || got != x.want+x.want {
			t.Errorf("%.100v twice: %.100q, %v", x.s, got, ok)
		}
		checkReadLog(t, "written out", x.want, []impl.Step{x.s}, len(x.want))
	}
}

func TestP10LogsAreReadBack(t *testing.T) {
	checkReadLog(t, "no bytes", "", nil, 0)
	steps := ordinarySteps()
	for count := range len(steps) + 1 {
		log, _ := mustAppend(t, steps[:count]...)
		checkReadLog(t, "ordinary", log, steps[:count], len(log))
		for _, more := range []string{"x", "xyz", "\x00", strings.Repeat("\x00", 7), strings.Repeat("\x00", 8), strings.Repeat("\xff", 100), "select"} {
			checkReadLog(t, "with more behind", log+more, steps[:count], len(log))
		}
	}
	for _, s := range rightSteps() {
		if len(impl.PutStep(s)) > impl.MaxLog/3 {
			continue
		}
		log, _ := mustAppend(t, s, dropStep("a"), s)
		checkReadLog(t, "each right step", log, []impl.Step{s, dropStep("a"), s}, len(log))
	}
	same := slices.Repeat([]impl.Step{dropStep("a")}, 1000)
	log, _ := mustAppend(t, same...)
	checkReadLog(t, "very many", log, same, len(log))
}

// aheadOf is how many of these end no later, and behind which byte the last of them ends.
func aheadOf(ends []int, at int) (int, int) {
	count, end := 0, 0
	for _, e := range ends {
		if e <= at {
			count, end = count+1, e
		}
	}
	return count, end
}

func TestP10LogsCutOffAtEachByte(t *testing.T) {
	steps := ordinarySteps()
	log, ends := mustAppend(t, steps...)
	for cut := range len(log) + 1 {
		count, end := aheadOf(ends, cut)
		checkReadLog(t, "cut to "+impl.DecText(cut), log[:cut], steps[:count], end)
	}
	for cut := range ends[0] {
		if cut > 0 {
			checkReadLog(t, "without "+impl.DecText(cut)+" ahead", log[cut:], nil, 0)
		}
	}
	// What is left of a log goes on with another step.
	for cut := range len(log) {
		_, end := aheadOf(ends, cut)
		next, ok := impl.Append(log[:end], dropStep("z"))
		count := slices.Index(ends, end) + 1
		if !ok {
			t.Fatal("not appended", cut)
		}
		checkReadLog(t, "mended at "+impl.DecText(end), next, append(slices.Clone(steps[:count]), dropStep("z")), len(next))
	}
}

func TestP10LogsSpoiltAtEachByte(t *testing.T) {
	steps := ordinarySteps()
	log, ends := mustAppend(t, steps...)
	for at := range len(log) {
		count, end := aheadOf(ends, at)
		for _, by := range []byte{1, 2, 4, 8, 16, 32, 64, 128, 255, 0x7f, 0x55} {
			spoilt := log[:at] + string([]byte{log[at] ^ by}) + log[at+1:]
			checkReadLog(t, "spoilt at "+impl.DecText(at), spoilt, steps[:count], end)
		}
		// A byte may go that the next entry begins with: the step is whole then.
		shorter := log[:at] + log[at+1:]
		left, leftEnd := readByHand(shorter)
		checkReadLog(t, "one byte less at "+impl.DecText(at), shorter, left, leftEnd)
		if len(left) < count || len(left) > count+1 || !sameSteps(left, steps[:len(left)]) {
			t.Errorf("one byte less at %d: %d steps, want %d", at, len(left), count)
		}
	}
}

func TestP10StepsOfALogThatChangePlaces(t *testing.T) {
	steps := ordinarySteps()
	log, ends := mustAppend(t, steps...)
	for i := range len(steps) - 1 {
		first, last := log[:ends[i]], log[ends[i]:]
		checkReadLog(t, "turned round", last+first, append(slices.Clone(steps[i+1:]), steps[:i+1]...), len(log))
		// Something between two is the end, whatever whole ones stand behind it.
		for _, between := range []string{"x", "\x00", strings.Repeat("\x00", 8), framed(0, ""), framed(3, "abc")} {
			checkReadLog(t, "with something between", first+between+last, steps[:i+1], len(first))
		}
	}
}

// filled is a log of just so many bytes: views, the last one with as long a text as is left for it.
func filled(t *testing.T, size int) (string, []impl.Step) {
	t.Helper()
	steps, log := []impl.Step{}, ""
	for size-len(log) > 2*entryHead+impl.MaxQuery {
		steps = append(steps, viewStep("v", strings.Repeat("q", impl.MaxQuery-300)))
		log += entryOf(steps[len(steps)-1])
	}
	empty := len(entryOf(viewStep("w", "")))
	steps = append(steps, viewStep("w", strings.Repeat("r", size-len(log)-empty)))
	log, _ = mustAppend(t, steps...)
	if len(log) != size {
		t.Fatalf("%d bytes, want %d", len(log), size)
	}
	return log, steps
}

func TestP10TheLongestLog(t *testing.T) {
	for _, size := range []int{impl.MaxLog - 1, impl.MaxLog} {
		log, steps := filled(t, size)
		checkReadLog(t, "filled", log, steps, size)
		checkNotAppended(t, "full", log, dropStep("a"))
		checkReadLog(t, "one byte beyond", log+strings.Repeat("x", impl.MaxLog-size+1), nil, 0)
		checkReadLog(t, "a whole one beyond", log+entryOf(dropStep("a")), nil, 0)
		checkReadLog(t, "twice", log+log, nil, 0)
	}
	log, steps := filled(t, impl.MaxLog-1)
	checkReadLog(t, "filled up with a byte", log+"x", steps, impl.MaxLog-1)
	for _, s := range ordinarySteps() {
		entry := entryOf(s)
		for less := range 3 {
			ahead, before := filled(t, impl.MaxLog-len(entry)-less)
			next, ok := impl.Append(ahead, s)
			if !ok || next != ahead+entry {
				t.Errorf("%d bytes less than there may be: %v", less, ok)
			}
			checkReadLog(t, "up to the limit", next, append(before, s), impl.MaxLog-less)
		}
		for _, more := range []int{1, 2, entryHead, len(entry) - 1, len(entry)} {
			ahead, _ := filled(t, impl.MaxLog-len(entry)+more)
			checkNotAppended(t, "beyond the limit", ahead, s)
		}
	}
	junk := strings.Repeat("x", impl.MaxLog)
	checkReadLog(t, "no log at all", junk, nil, 0)
	for _, ahead := range []string{junk, junk + "x", strings.Repeat(junk, 3), junk[8:], junk[15:]} {
		checkNotAppended(t, "junk", ahead, dropStep("a"))
	}
	if next, ok := impl.Append(junk[16:], dropStep("a")); !ok || next != junk[16:]+entryOf(dropStep("a")) {
		t.Error("junk that leaves just as much", ok, len(next))
	}
}

// stepOfSize is one of just so many bytes: a change of texts.
func stepOfSize(t *testing.T, size int) impl.Step {
	t.Helper()
	b := bag(2)
	for i := range 120 {
		b.Rows = append(b.Rows, times(1, num(i), text("")))
	}
	s := changeStep(rel("a", b), rel("b", tallBag()))
	s.Change[1].Bag.Rows = s.Change[1].Bag.Rows[:75]
	left := size - len(impl.PutStep(s))
	for i := range b.Rows {
		some := min(left, impl.MaxText)
		b.Rows[i].Row[1].S = strings.Repeat("y", some)
		left -= some
	}
	if got := len(impl.PutStep(s)); got != size {
		t.Fatalf("%d bytes, want %d", got, size)
	}
	return s
}

func TestP10AStepThatIsAWholeLog(t *testing.T) {
	most := stepOfSize(t, impl.MaxLog-entryHead)
	log, _ := mustAppend(t, most)
	checkReadLog(t, "one step alone", log, []impl.Step{most}, impl.MaxLog)
	checkReadLog(t, "and a byte", log+"x", nil, 0)
	checkNotAppended(t, "and another step", log, most)
	checkNotAppended(t, "with a byte ahead", "x", most)
	for _, more := range []int{1, 2, 8, 9, 1000} {
		s := stepOfSize(t, impl.MaxLog-entryHead+more)
		checkStepComesBack(t, s)
		checkNotAppended(t, "too much for a log", "", s)
		checkReadLog(t, "too much for a log", entryOf(s), nil, 0)
	}
	checkNotAppended(t, "the greatest bag", "", changeStep(rel("a", tallBag())))
}

func TestP10SizesInALogThatAreOther(t *testing.T) {
	ahead := ordinarySteps()[:3]
	log, _ := mustAppend(t, ahead...)
	for _, s := range ordinarySteps() {
		put := impl.PutStep(s)
		for _, more := range []int{1, 2, 3, 7, 8, 100, 256, 65536, impl.MaxLog, 1 << 24, 1<<31 - 1, 1 << 31, 1<<32 - 1, 1<<32 - 8} {
			size := min(len(put)+more, math.MaxUint32)
			checkReadLog(t, "more than there is", framed(size, put), nil, 0)
			checkReadLog(t, "more than there is, behind others", log+framed(size, put), ahead, len(log))
			checkReadLog(t, "more than there is, with others behind", framed(size, put)+log, nil, 0)
		}
		for size := range len(put) {
			checkReadLog(t, "less than there is", log+framed(size, put), ahead, len(log))
			// The sum is right of so many bytes, but these are no step.
			checkReadLog(t, "a step in two parts", log+framed(size, put[:size])+put[size:], ahead, len(log))
		}
	}
	for _, head := range []string{"\xff\xff\xff\xff", "\xff\xff\xff\xff\xff\xff\xff\xff", "\x7f\xff\xff\xff\x81\x1c\x9d\xc5", "\x80\x00\x00\x00\x81\x1c\x9d\xc5", "\xff\xff\xff\xff\x81\x1c\x9d\xc5", "\xff\xff\xff\xf8\x81\x1c\x9d\xc5", "\x00\x00\x00\x00\x81\x1c\x9d\xc5", "\x00\x00\x00\x01\x81\x1c\x9d\xc5", strings.Repeat("\x00", 8)} {
		checkReadLog(t, "a head alone", head, nil, 0)
		checkReadLog(t, "a head alone, behind others", log+head, ahead, len(log))
		checkReadLog(t, "a head ahead of others", head+log, nil, 0)
	}
}

// A size within a step may not reach into what stands behind it in a log, though there is as much.
func TestP10SizesWithinALogsStep(t *testing.T) {
	ahead := ordinarySteps()[:2]
	log, _ := mustAppend(t, ahead...)
	for _, s := range ordinarySteps() {
		w := layoutOf(s)
		for _, f := range w.sizes {
			for _, n := range moreThanThereIs(w, f) {
				spoilt := withSize(w.out, f, n)
				for _, more := range []string{"", entryOf(s), strings.Repeat("\x00", 70000)} {
					checkReadLog(t, "a size within", log+framed(len(spoilt), spoilt)+more, ahead, len(log))
				}
			}
		}
	}
}

func TestP10SumsThatAreOther(t *testing.T) {
	ahead := ordinarySteps()[:3]
	log, _ := mustAppend(t, ahead...)
	for _, s := range ordinarySteps() {
		entry := []byte(entryOf(s))
		sum := binary.BigEndian.Uint32(entry[4:8])
		for _, wrong := range []uint32{sum + 1, sum - 1, 0, math.MaxUint32, ^sum, sum ^ 1<<31, sum << 8, sum >> 8, 2166136261} {
			binary.BigEndian.PutUint32(entry[4:8], wrong)
			checkReadLog(t, "another sum", string(entry), nil, 0)
			checkReadLog(t, "another sum, behind others", log+string(entry), ahead, len(log))
			checkReadLog(t, "another sum, ahead of others", string(entry)+log, nil, 0)
		}
		binary.LittleEndian.PutUint32(entry[4:8], sum)
		checkReadLog(t, "a sum with the low ones first", log+string(entry), ahead, len(log))
	}
}

func TestP10RightSumsOfWhatIsNoStep(t *testing.T) {
	ahead := ordinarySteps()[:3]
	log, _ := mustAppend(t, ahead...)
	none := []string{"", "\x00", "x", "select", strings.Repeat("\x00", 8), strings.Repeat("\xff", 60), log}
	for _, s := range ordinarySteps() {
		put := impl.PutStep(s)
		none = append(none, put+"\x00", put+put, put[1:], "\x00"+put, entryOf(s))
	}
	none = append(none, slices.DeleteFunc(noStepBytes(), func(s string) bool { return len(s) > impl.MaxLog/2 })...)
	for _, s := range none {
		checkReadLog(t, "no step", framed(len(s), s), nil, 0)
		checkReadLog(t, "no step, behind others", log+framed(len(s), s), ahead, len(log))
		checkReadLog(t, "no step, between others", log+framed(len(s), s)+log, ahead, len(log))
	}
}

func TestP10AppendToWhatIsNoLog(t *testing.T) {
	whole, ends := mustAppend(t, ordinarySteps()...)
	for _, ahead := range []string{"x", "\x00", "no log", strings.Repeat("\xff", 500), whole[:len(whole)-1], whole[1:], whole + "x", framed(0, "")} {
		for _, s := range ordinarySteps() {
			got, ok := impl.Append(ahead, s)
			if !ok || got != ahead+entryOf(s) {
				t.Errorf("behind %.100q: %v, %.100q", ahead, ok, got)
			}
			steps, end := readByHand(got)
			checkReadLog(t, "behind what is no log", got, steps, end)
		}
	}
	last := len(ends) - 1
	got, _ := impl.Append(whole[:len(whole)-5], dropStep("a"))
	checkReadLog(t, "behind a torn end", got, ordinarySteps()[:last], ends[last-1])
}

var nameForm = regexp.MustCompile(`^[a-z][a-z0-9]{0,9}$`)

func stepOkByHand(s impl.Step) bool {
	numbers := map[string]int{}
	switch s.Kind {
	case impl.StTable:
		for _, name := range s.Cols {
			if !nameForm.MatchString(name) {
				return false
			}
			numbers[name]++
		}
		return nameForm.MatchString(s.Name) && len(s.Cols) > 0 && len(s.Cols) <= 12 && len(numbers) == len(s.Cols) && s.Query == "" && len(s.Change) == 0
	case impl.StView:
		return nameForm.MatchString(s.Name) && len(s.Cols) == 0 && len(s.Query) <= 1000 && len(s.Change) == 0
	case impl.StDrop:
		return nameForm.MatchString(s.Name) && len(s.Cols) == 0 && s.Query == "" && len(s.Change) == 0
	case impl.StChange:
		names := []string{}
		for _, r := range s.Change {
			if !nameForm.MatchString(r.Name) || !impl.BagOk(r.Bag) {
				return false
			}
			numbers[r.Name]++
			names = append(names, r.Name)
		}
		return s.Name == "" && len(s.Cols) == 0 && s.Query == "" && len(names) > 0 && len(names) <= 20 && len(numbers) == len(names) && slices.IsSorted(names)
	}
	return false
}

// readByHand goes by GetStep for the steps alone.
func readByHand(log string) ([]impl.Step, int) {
	steps, end := []impl.Step{}, 0
	if len(log) > 100000 {
		return nil, 0
	}
	for len(log)-end >= entryHead {
		head, rest := []byte(log[end:end+entryHead]), log[end+entryHead:]
		size := uint64(binary.BigEndian.Uint32(head))
		if size > uint64(len(rest)) || sumByHand(rest[:size]) != binary.BigEndian.Uint32(head[4:]) {
			break
		}
		s, ok := impl.GetStep(rest[:size])
		if !ok {
			break
		}
		steps = append(steps, s)
		end += entryHead + int(size)
	}
	return steps, end
}

func pick[T any](r *rand.Rand, list []T) T { return list[r.Intn(len(list))] }

func pickSome[T any](r *rand.Rand, list []T, most int) []T {
	out := []T{}
	for range r.Intn(most + 1) {
		out = append(out, pick(r, list))
	}
	return out
}

var someNames = []string{"a", "b", "b2", "c", "x", "xy", "abcdefghij"}

// anyStep has fields of any content, most of them of few, so that some are right.
func anyStep(r *rand.Rand) impl.Step {
	names := slices.Concat(someNames, someNames, someNames, someNames, wrongNames()[:10])
	s := impl.Step{Kind: r.Intn(4)}
	if r.Intn(10) == 0 {
		s.Kind = r.Intn(600) - 300
	}
	if s.Kind != impl.StChange || r.Intn(10) == 0 {
		s.Name = pick(r, names)
	}
	if s.Kind == impl.StTable || r.Intn(10) == 0 {
		s.Cols = pickSome(r, names, pick(r, []int{1, 2, 3, 20}))
	}
	if s.Kind == impl.StView || r.Intn(10) == 0 {
		s.Query = anyBytes(r, pick(r, []int{1, 2, 30, 1002}))
	}
	if s.Kind == impl.StChange || r.Intn(10) == 0 {
		for _, name := range pickSome(r, names, 3) {
			s.Change = append(s.Change, rel(name, pick(r, []impl.Bag{randomBag(r, r.Intn(4)), randomBag(r, 2), pick(r, allBags())})))
		}
	}
	return s
}

func TestP10StepsOfAnyContent(t *testing.T) {
	r := rand.New(rand.NewSource(10))
	right := [4]int{}
	log, steps, ends := "", []impl.Step{}, []int{}
	for range 20000 {
		s := anyStep(r)
		want := stepOkByHand(s)
		if impl.StepOk(s) != want {
			t.Fatalf("%v: %v", s, !want)
		}
		if !want {
			checkNotAppended(t, "wrong", log, s)
			if impl.PutStep(s) != "" {
				t.Fatalf("%v: %q", s, impl.PutStep(s))
			}
			continue
		}
		right[s.Kind]++
		checkStepComesBack(t, s)
		next, ok := impl.Append(log, s)
		if !ok {
			checkReadLog(t, "until it is full", log, steps, len(log))
			log, steps, ends = "", nil, nil
			continue
		}
		log, steps, ends = next, append(steps, s), append(ends, len(next))
		if r.Intn(50) == 0 {
			cut := r.Intn(len(log))
			count, end := aheadOf(ends, cut)
			checkReadLog(t, "cut", log[:cut], steps[:count], end)
		}
	}
	if slices.Min(right[:]) < 500 {
		t.Errorf("only so many were right: %v", right)
	}
}

// mauled is a text with some of its bytes changed, gone, more or moved.
func mauled(r *rand.Rand, s string) string {
	for range r.Intn(4) {
		i, k := r.Intn(len(s)+1), r.Intn(len(s)+1)
		from, to := min(i, k), max(i, k)
		s = pick(r, []string{s[:from] + s[to:], s[:to] + s[from:], s[:from] + anyBytes(r, 5) + s[from:], s[:from] + anyBytes(r, 5) + s[min(len(s), from+3):], s[to:] + s[:to]})
	}
	return s
}

func TestP10AnyTexts(t *testing.T) {
	r := rand.New(rand.NewSource(11))
	small := slices.DeleteFunc(rightSteps(), func(s impl.Step) bool { return len(impl.PutStep(s)) > 3000 })
	told, read := 0, 0
	for range 20000 {
		s := mauled(r, impl.PutStep(pick(r, small)))
		if checkAnyBytes(t, s) {
			told++
		}
		log := mauled(r, entryOf(pick(r, small))+entryOf(pick(r, small))+framed(len(s), s)+entryOf(pick(r, small)))
		want, end := readByHand(log)
		checkReadLog(t, "mauled", log, want, end)
		if len(want) > 0 && end < len(log) {
			read++
		}
		if t.Failed() {
			t.Fatalf("%q, %q", s, log)
		}
	}
	if told < 1000 || read < 1000 {
		t.Errorf("only %d steps, and %d logs", told, read)
	}
	for range 20000 {
		s := anyBytes(r, 100)
		checkAnyBytes(t, s)
		checkReadLog(t, "any bytes", s, nil, 0)
	}
	for first := range 256 {
		for _, c := range []string{"\x00", "\x01", "\x02", "\x03", "\x10", "\x7f", "\x80", "\xff"} {
			for _, size := range []int{0, 1, 7, 8, 9, 20, 1000} {
				s := string([]byte{byte(first)}) + strings.Repeat(c, size)
				checkNoStep(t, s)
				checkReadLog(t, "one byte over and over", s, nil, 0)
			}
		}
	}
}

// roomyStep lays a step out with spare room behind each list, filled with marks.
func roomyStep(s impl.Step) impl.Step {
	s.Cols = roomySchemas([]impl.Schema{{Cols: s.Cols}})[0].Cols
	s.Change = roomyDb(s.Change)
	return s
}

func seenStep(s impl.Step) impl.Step {
	s.Cols = slices.Clone(s.Cols[:cap(s.Cols)])
	s.Change = seenDb(s.Change)
	return s
}

func TestP13LogWritesIntoNoArgument(t *testing.T) {
	r := rand.New(rand.NewSource(12))
	given := append(rightSteps(), wrongSteps()...)
	for range 2000 {
		given = append(given, anyStep(r))
	}
	for i, one := range given {
		s := roomyStep(one)
		want := seenStep(s)
		impl.StepOk(s)
		put := impl.PutStep(s)
		log, _ := impl.Append("", s)
		impl.Append(log, s)
		if !reflect.DeepEqual(seenStep(s), want) {
			t.Errorf("an argument was written into: %d", i)
		}
		if put != impl.PutStep(one) {
			t.Errorf("with room behind the lists: %d", i)
		}
	}
}

// spoilSteps writes marks over all that steps hold, and over their spare room, and asks that no two lists show the same.
func spoilSteps(t *testing.T, steps []impl.Step) {
	t.Helper()
	bags := []impl.Bag{}
	for i, s := range steps {
		names := s.Cols[:cap(s.Cols)]
		for k := range names {
			names[k] = impl.DecText(i)
		}
		rels := s.Change[:cap(s.Change)]
		for k := range rels {
			rels[k].Name = impl.DecText(i)
		}
		bags = append(bags, bagsOf(s.Change)...)
	}
	for i, s := range steps {
		if slices.ContainsFunc(s.Cols, func(name string) bool { return name != impl.DecText(i) }) || slices.ContainsFunc(s.Change, func(r impl.Rel) bool { return r.Name != impl.DecText(i) }) {
			t.Fatal("two steps of an answer share memory")
		}
	}
	for i, b := range bags {
		checkApart(t, "bags of steps", b, bags[:i]...)
	}
}

func TestP13StepsThatAreReadShareNothing(t *testing.T) {
	steps := ordinarySteps()
	steps = append(steps, steps...)
	log, _ := mustAppend(t, steps...)
	got, _ := impl.ReadLog(log)
	again, _ := impl.ReadLog(log)
	spoilSteps(t, got)
	if !sameSteps(again, steps) {
		t.Error("two answers share memory")
	}
	for _, s := range rightSteps() {
		put := impl.PutStep(s)
		got, _ := impl.GetStep(put)
		again, _ := impl.GetStep(put)
		spoilSteps(t, []impl.Step{got})
		if !sameStep(again, s) || impl.PutStep(s) != put {
			t.Errorf("two answers share memory: %.100v", s)
		}
	}
}

func TestP13LogOfVeryMuch(t *testing.T) {
	much := strings.Repeat("a", 20000000)
	names := slices.Repeat([]string{"a"}, 3000000)
	rels := slices.Repeat([]impl.Rel{rel("a", bag(1))}, 1000000)
	rows := slices.Repeat([]impl.Counted{times(1, num(1))}, 1000000)
	for i, s := range []impl.Step{
		tableStep(much, "x"), {Name: "a", Cols: []string{much}}, {Name: "a", Cols: names}, viewStep(much, "q"), viewStep("v", much), dropStep(much), changeStep(rels...), changeStep(rel(much, bag(1))), changeStep(rel("a", bag(1, rows...))), changeStep(rel("a", bag(1, times(1, slices.Repeat(row(num(1)), 1000000)...)))),
		{Kind: 9, Name: much, Cols: names, Query: much, Change: rels}, {Kind: impl.StDrop, Name: "a", Cols: names, Query: much, Change: rels},
	} {
		if impl.StepOk(s) || impl.PutStep(s) != "" {
			t.Error("right", i)
		}
		checkNotAppended(t, "very much", "", s)
	}
	for _, s := range []string{much, "\x00" + much, "\x02\x00\x01a\x00\x00\x00\x00" + much, "\x03\x00\x00\x00\x00\x00\x01\x00\x01a\x01\x00\x00\x00" + much, "\x03\x00\x00\x00\x00\x00\xff" + strings.Repeat("\x00\x01a\x00\x00\x00\x0a\x00\x01\x00\x00\x00\x00\x00\x00\x00\x01", 255)} {
		checkNoStep(t, s)
		checkReadLog(t, "very much", s, nil, 0)
		checkNotAppended(t, "behind very much", s+much, dropStep("a"))
	}
	if impl.Sum(much) != sumByHand(much) {
		t.Error("the sum of very much")
	}
	most := changeStep()
	for i := range mostRels {
		most.Change = append(most.Change, rel("r"+string(rune('a'+i)), tallBag()))
	}
	checkStepComesBack(t, most)
	checkNotAppended(t, "the greatest step", "", most)
}

func TestP13LogIsTheSameEachTime(t *testing.T) {
	log, _ := mustAppend(t, ordinarySteps()...)
	for _, s := range []string{log, log + "x", log[:100], log[1:]} {
		want, wantEnd := impl.ReadLog(s)
		for range 20 {
			checkReadLog(t, "again", s, want, wantEnd)
		}
	}
}
