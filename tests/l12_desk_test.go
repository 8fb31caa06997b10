package tests

import (
	"maps"
	"math"
	"math/big"
	"math/rand"
	"regexp"
	"slices"
	"strings"
	"testing"

	"loop.example/g00312/impl"
)

const mostLines = 100

// rowWords are ValueTexts with a comma between two.
func rowWords(row []impl.Value) string {
	texts := []string{}
	for _, v := range row {
		texts = append(texts, impl.ValueText(v))
	}
	return strings.Join(texts, ",")
}

func checkRow(t *testing.T, s string, want ...impl.Value) {
	t.Helper()
	got, ok := impl.ReadRow(s)
	if !ok || !slices.Equal(got, want) {
		t.Errorf("%.200q: %v, %v, want %v", s, got, ok, want)
	}
	if told := rowWords(got); ok && told != s {
		t.Errorf("%.200q: read as the row of %.200q", s, told)
	}
}

func checkNoRow(t *testing.T, s string) {
	t.Helper()
	if got, ok := impl.ReadRow(s); ok || len(got) != 0 {
		t.Errorf("%.200q: %v, %v", s, got, ok)
	}
}

func TestP12RowsComeBack(t *testing.T) {
	values := append(rightValues(), text(","), text("a,b"), text("',"), text(",'"), text("','"), text("''''"), text(" "), text("null"), text("1"), text("true"), text(";"), text("\n"), text("a\nb"), text("\u00e9"), text(strings.Repeat("'", impl.MaxText)), text(strings.Repeat(",", impl.MaxText)))
	for _, v := range values {
		checkRow(t, impl.ValueText(v), v)
		for _, w := range values {
			checkRow(t, impl.ValueText(v)+","+impl.ValueText(w), v, w)
		}
	}
	checkRow(t, rowWords(values), values...)
	for c := range 256 {
		s := string([]byte{byte(c)})
		checkRow(t, rowWords(row(text(s), text("a"+s), text(s+s), num(c))), text(s), text("a"+s), text(s+s), num(c))
	}
	r := rand.New(rand.NewSource(12))
	for range 5000 {
		list := row()
		for range 1 + r.Intn(impl.MaxWidth) {
			list = append(list, pick(r, []impl.Value{pick(r, values), num(int(r.Uint64())), num(r.Intn(2000) - 1000), text(anyBytes(r, impl.MaxText+1)), text(strings.Repeat("'", r.Intn(4)) + anyBytes(r, 4))}))
		}
		checkRow(t, rowWords(list), list...)
	}
}

func TestP12TextsThatAreRows(t *testing.T) {
	for s, want := range map[string][]impl.Value{
		"1": {num(1)}, "0": {num(0)}, "-1": {num(-1)}, "10": {num(10)}, "null": {null}, "true": {yes}, "false": {no}, "''": {text("")}, "''''": {text("'")}, "'a'": {text("a")}, "' a '": {text(" a ")},
		"1,'it''s, x',null,true,-9223372036854775808": {num(1), text("it's, x"), null, yes, num(math.MinInt)}, "9223372036854775807,false": {num(math.MaxInt), no}, "'',''": {text(""), text("")}, "''',',','''": {text("',"), text(",'")}, "',',','": {text(","), text(",")}, "'null',null": {text("null"), null}, "'\x00\xff\n'": {text("\x00\xff\n")}, "'" + longest + "'": {text(longest)}, "null,null": {null, null},
	} {
		checkRow(t, s, want...)
	}
	doubled := strings.Repeat("''", impl.MaxText)
	checkRow(t, "'"+doubled+"'", text(strings.Repeat("'", impl.MaxText)))
	checkNoRow(t, "'"+doubled+"'''")
	for _, s := range []string{
		"", " ", ",", ",,", "1,", ",1", "1,,2", ",1,", "'a',", ",'a'", "'a',,'b'", "null,", "1 ", " 1", "1 ,2", "1, 2", "'a' ,1", "'a', 1", "1,'a' ", " 'a'", "1;2", "1\n", "\n", "1\x00", "1 2",
		"'", "'a", "a'", "'''", "'a''", "'a'b", "'a'b'", "'a'1", "'a'null", "'a' 'b'", "1'a'", "null'a'", "''a", "''a'", "'a,1", "1,'a", "1,'", "\"a\"", "a", "x", "nul", "nulll", "Null", "NULL", "TRUE", "True", "t", "truefalse", "nulltrue", "tru", "false1",
		"01", "00", "-0", "-", "--1", "-01", "+1", "+0", "1-", "1.0", "1e3", "0x1", "1_000", "0b1", "\u0661", "- 1", "9223372036854775808", "-9223372036854775809", "18446744073709551616", "99999999999999999999", "-99999999999999999999", "18446744073709551617", "1,9223372036854775808", "009223372036854775807", strings.Repeat("1", 1000), "'" + longest + "x'", "1,'" + longest + "x'", "\xff", "\xff,1",
	} {
		checkNoRow(t, s)
	}
}

// No sentence says how many values ReadRow takes: a row that is too wide for a bag is refused behind it, by Do.
func TestP12TheWidestRows(t *testing.T) {
	for _, width := range []int{1, impl.MaxWidth - 1, impl.MaxWidth, impl.MaxWidth + 1, 1000} {
		checkRow(t, rowWords(wide(width, 7)), wide(width, 7)...)
	}
	script := "table t " + numberedCols("c", impl.MaxWidth) + "\nadd t " + rowWords(wide(impl.MaxWidth, 7)) + "\nadd t " + rowWords(wide(impl.MaxWidth+1, 7)) + "\ndel t " + rowWords(wide(impl.MaxWidth+1, 7)) + "\nadd t " + rowWords(wide(impl.MaxWidth-1, 7)) + "\nshow t\n"
	checkDesk(t, script, "ok", "ok", "bad", "bad", "rows", "1x "+rowWords(wide(impl.MaxWidth, 7))+";")
}

var cellForm = regexp.MustCompile(`(?s)^(?:null|true|false|0|-?[1-9][0-9]*|'(?:[^']|'')*')`)

// rowByHand goes by a form for each value, and tells numbers without a limit.
func rowByHand(s string) ([]impl.Value, bool) {
	list := row()
	for {
		cell := cellForm.FindString(s)
		v, n := null, big.NewInt(0)
		switch {
		case cell == "":
			return nil, false
		case cell == "true" || cell == "false":
			v = map[string]impl.Value{"true": yes, "false": no}[cell]
		case cell[0] == '\'':
			v = text(strings.ReplaceAll(cell[1:len(cell)-1], "''", "'"))
		case cell != "null":
			n.SetString(cell, 10)
			v = num(int(n.Int64()))
		}
		if !n.IsInt64() || len(v.S) > impl.MaxText {
			return nil, false
		}
		list, s = append(list, v), s[len(cell):]
		if s == "" {
			return list, true
		}
		if s[0] != ',' {
			return nil, false
		}
		s = s[1:]
	}
}

// anyRowText is made of what rows are made of, whether it is one or not.
func anyRowText(r *rand.Rand) string {
	words := []string{"null", "true", "false", "0", "1", "-", "-1", "9223372036854775807", "-9223372036854775808", "9223372036854775808", "'", "''", "'a'", "'b,c'", "'''", ",", ",", ",", ",", ",", " ", "x", "\xff", "\n", "00", longest, "'" + longest + "'"}
	return strings.Join(pickSome(r, words, 7), "")
}

func TestP12AnyTextIsTheTextOfItsRow(t *testing.T) {
	r := rand.New(rand.NewSource(121))
	read := 0
	for i := range 60000 {
		s := anyRowText(r)
		switch {
		case i%3 == 0:
			s = mauled(r, rowWords(row(randomValue(r), randomValue(r), pick(r, rightValues()))))
		case i%50 == 1:
			s = anyBytes(r, 20)
		}
		want, wantOk := rowByHand(s)
		got, ok := impl.ReadRow(s)
		if ok != wantOk || !slices.Equal(got, want) || ok && rowWords(got) != s {
			t.Fatalf("%q: %v, %v, want %v, %v", s, got, ok, want, wantOk)
		}
		if ok {
			read++
		}
	}
	if read < 5000 {
		t.Errorf("only %d are rows", read)
	}
}

// checkDesk wants an answer for each line of a script, of which it also asks for each beginning.
func checkDesk(t *testing.T, script string, want ...string) {
	t.Helper()
	whole := strings.Join(append(slices.Clone(want), ""), "\n")
	if got := impl.Desk(script); got != whole {
		t.Errorf("%.2000q:\n%.3000q, want\n%.3000q", script, got, whole)
		return
	}
	checkBeginnings(t, script, want)
}

// checkBeginnings wants a script whose answers these are.
func checkBeginnings(t *testing.T, script string, answers []string) {
	t.Helper()
	lines := strings.SplitAfter(script, "\n")
	for count := range lines {
		want := strings.Join(append(slices.Clone(answers[:count]), ""), "\n")
		if got := impl.Desk(strings.Join(lines[:count], "")); got != want {
			t.Errorf("%.2000q: its first %d lines: %.3000q, want %.3000q", script, count, got, want)
		}
	}
}

func TestP12ASession(t *testing.T) {
	checkDesk(t, `table t x y
add t 1,'a'
add t 2,'b'
add t 2,'b'
view v select x, count(*) from t group by x
show v
sync
del t 2,'b'
show v
ask select y, x from t where x > 1
plan select x, count(*) from t group by x
plan select distinct x, count(*) from t group by x
views
crash 0
show t
ask select x, count(*) from t group by x
table b x k
add b 2,'it''s, one; two'
add b 3,null
view pairs select t.x, k from t, b where t.x = b.x
show pairs
views
ask select k from b where k is null union all select y from t where x = 1
ask select x from t where x = 9
plan select x from t where x = 9
plan select x from t, b
ask select q from t
drop t
drop pairs
drop v
drop t
show t
ask select * from t
views
show b
crash 999999
views
show b
`, "ok", "ok", "ok", "ok", "ok", "1x 1,1;1x 2,2;", "ok", "ok", "1x 1,1;1x 2,1;", "y,x;1x 'b',2;", "v", "distinct(v)", "v=select x, count(*) from t group by x", "5", "1x 1,'a';2x 2,'b';", "x,count;1x 1,1;1x 2,2;",
		"ok", "ok", "ok", "ok", "2x 2,'it''s, one; two';", "pairs=select t.x, k from t, b where t.x = b.x;v=select x, count(*) from t group by x", "k;1x null;1x 'a';", "x;", "project([c0], filter((c0 = 9), t))", "query", "query",
		"used", "ok", "ok", "ok", "what", "query", "-", "1x 2,'it''s, one; two';1x 3,null;", "12", "-", "1x 2,'it''s, one; two';1x 3,null;")
}

// A lineCase is a line, and what is told of it behind deskStart.
type lineCase struct {
	line string
	want string
}

const (
	deskStart   = "table t x y\nadd t 1,'a'\nadd t 2,'b'\nadd t 2,'b'\ntable e k\nview v select x, count(*) from t group by x\nsync\nview w select y from t where x = 2\nadd t 3,null\n"
	deskAfter   = "show t\nshow e\nshow v\nviews\ncrash 999999\n"
	deskRows    = "1x 1,'a';2x 2,'b';1x 3,null;"
	deskOfV     = "1x 1,1;1x 2,2;1x 3,1;"
	deskViews   = "v=select x, count(*) from t group by x;w=select y from t where x = 2"
	deskSteps   = 8
	deskSafe    = 6
	deskAnswers = "ok\nok\nok\nok\nok\nok\nok\nok\nok\n"
)

// checkLines asks of each line what is told of it, and, unless that is ok or the line cuts the power, that all stands behind it as it did.
func checkLines(t *testing.T, list []lineCase) {
	t.Helper()
	for _, x := range list {
		got := impl.Desk(deskStart + x.line + "\n")
		if got != deskAnswers+x.want+"\n" {
			t.Errorf("%.300q: %.300q, want %.300q", x.line, strings.TrimPrefix(got, deskAnswers), x.want+"\n")
		}
		if x.want == "ok" || strings.HasPrefix(x.line, "crash") && x.want != "what" {
			continue
		}
		want := deskAnswers + x.want + "\n" + strings.Join([]string{deskRows, "-", deskOfV, deskViews, impl.DecText(deskSteps)}, "\n") + "\n"
		if got := impl.Desk(deskStart + x.line + "\n" + deskAfter); got != want {
			t.Errorf("behind %.300q: %.1000q, want %.1000q", x.line, got, want)
		}
	}
}

func TestP12OtherLines(t *testing.T) {
	list := []lineCase{}
	for _, line := range []string{"", " ", "  ", "\t", "\r", "what", "x", "ok", "-", "#", "Table n x", "TABLE n x", "tables", "tablen x", "table\tn x", " table n x", "view,n", "viewss", "view", "adds t 1,2", "show\tt", "shows t", "\x00", "\xff", "sync\r", "views\r", "views;", "views\x00", "select * from t", "long", "insert t 1,'a'", "'a'", "1"} {
		list = append(list, lineCase{line, "what"})
	}
	for _, word := range []string{"table", "view", "drop", "add", "del", "ask", "plan", "show", "crash"} {
		for _, line := range []string{word, " " + word, " " + word + " ", strings.ToUpper(word), strings.ToUpper(word) + " "} {
			list = append(list, lineCase{line, "what"})
		}
	}
	for _, word := range []string{"table", "view", "add", "del", "show", "crash"} {
		list = append(list, lineCase{word + " ", "what"})
	}
	for _, word := range []string{"views", "sync"} {
		for _, line := range []string{word + " ", " " + word, word + "  ", word + " t", word + " now", word + " " + word, strings.ToUpper(word)} {
			list = append(list, lineCase{line, "what"})
		}
	}
	for _, word := range []string{"drop", "show", "crash"} {
		for _, line := range []string{word + "  v", word + " v ", word + " v w", word + "  ", word + "  1", word + " 1 ", word + " 1 2", word + " v  "} {
			list = append(list, lineCase{line, "what"})
		}
	}
	checkLines(t, list)
}

func TestP12Tables(t *testing.T) {
	checkLines(t, []lineCase{
		{"table n x", "ok"}, {"table n x y z", "ok"}, {"table abcdefghij abcdefghij", "ok"}, {"table n n", "ok"}, {"table select from where", "ok"}, {"table n " + numberedCols("c", impl.MaxWidth), "ok"}, {"table n " + numberedCols("c", impl.MaxWidth+1), "bad"},
		{"table n", "what"}, {"table t", "what"}, {"table ", "what"},
		{"table t x", "name"}, {"table v x", "name"}, {"table e k", "name"}, {"table n x x", "bad"}, {"table n x y x", "bad"}, {"table t x x", "bad"}, {"table n X", "bad"}, {"table n x 1", "bad"}, {"table n abcdefghijk", "bad"}, {"table n x,y", "bad"}, {"table n x\ty", "bad"}, {"table n \xff", "bad"}, {"table n x \u00e9", "bad"},
	})
	// A Name that is none, but for the empty one, makes it another line: so the given test of the stage has it of A.
	for _, name := range []string{"A", "1", "1n", "nN", "abcdefghijk", "n.x", "n,", "_", "\xff", "\u00e9", "'n'", "*"} {
		checkLines(t, []lineCase{{"table " + name + " x", "what"}, {"table " + name + " x x", "what"}, {"table " + name, "what"}, {"table " + name + " ", "what"}})
	}
}

// The empty text is a name that is none: it is for Do to tell wherever a line with it is done.
func TestP12EmptyNames(t *testing.T) {
	checkLines(t, []lineCase{
		{"table n ", "bad"}, {"table n  ", "bad"}, {"table n  x", "bad"}, {"table n x ", "bad"}, {"table n x  y", "bad"}, {"table n x   y", "bad"}, {"table t ", "bad"}, {"table t x ", "bad"}, {"table  x", "bad"}, {"table  n x", "bad"}, {"table  ", "bad"}, {"table   ", "bad"},
		{"view  select x from t", "bad"}, {"view  n select x from t", "bad"}, {"view  select", "bad"}, {"view  ", "bad"}, {"view   ", "bad"}, {"drop ", "bad"},
		{"add  1", "bad"}, {"add  1,'a'", "bad"}, {"del  1", "bad"}, {"del  1,'a'", "bad"}, {"add  ' '", "bad"}, {"add  x", "what"}, {"add  t 1,'a'", "what"}, {"del  ", "what"}, {"add  ", "what"}, {"add   1", "what"}, {"show ", "what"},
	})
}

// The empty text is no question: what refuses a question refuses it, and what comes ahead of that still does.
func TestP12EmptyQuestions(t *testing.T) {
	checkLines(t, []lineCase{
		{"ask ", "query"}, {"ask  ", "query"}, {"plan ", "query"}, {"plan  ", "query"}, {"view n ", "query"}, {"view n  ", "query"}, {"view v ", "name"}, {"view t ", "name"}, {"view A ", "bad"},
		{"ask", "what"}, {"plan", "what"}, {"view n", "what"}, {"view v", "what"},
	})
	checkDesk(t, "ask \nplan \nview w \nviews\ncrash 999999\n", "query", "query", "query", "-", "0")
}

// A name that is none is for Do to tell, but behind table and show.
func TestP12NamesThatAreNone(t *testing.T) {
	for _, name := range []string{"A", "1", "1n", "nN", "abcdefghijk", "n.x", "n,", "_", "\xff", "\u00e9", "'n'", "*", "-", "n\t"} {
		checkLines(t, []lineCase{
			{"view " + name + " select * from t", "bad"}, {"view " + name + " select", "bad"}, {"drop " + name, "bad"}, {"add " + name + " 1", "bad"}, {"del " + name + " 1,'a'", "bad"}, {"add " + name + " x", "what"}, {"add " + name, "what"}, {"view " + name, "what"},
			{"show " + name, "what"}, {"table n " + name, "bad"}, {"table n x " + name, "bad"},
		})
	}
}

func TestP12Views(t *testing.T) {
	query := func(size int) string { return "select * from t" + strings.Repeat(" ", size-len("select * from t")) }
	checkLines(t, []lineCase{
		{"view n select x from t", "ok"}, {"view n  select x from t ", "ok"}, {"view n select k from e union all select x from t", "ok"}, {"view n select x from t where y = 'a, b'", "ok"}, {"view n " + query(impl.MaxQuery), "ok"}, {"view n " + query(impl.MaxQuery+1), "bad"}, {"view v " + query(impl.MaxQuery+1), "bad"},
		{"view v select x from t", "name"}, {"view t select x from t", "name"}, {"view t select", "name"}, {"view n select", "query"}, {"view n x", "query"}, {"view n select q from t", "query"}, {"view n select * from n", "query"}, {"view n select * from v", "query"}, {"view n select x from t where y = 'a", "query"}, {"view n select x, k from t, e union all select k from e", "query"}, {"view n \xff", "query"}, {"view n " + unions(10, "select k from e"), "query"},
	})
	checkDesk(t, "views\ntable t x\nviews\nview w  select x  from t \nviews\nview v select * from t\nviews\ndrop w\nviews\ndrop v\nviews\n", "-", "ok", "-", "ok", "w= select x  from t ", "ok", "v=select * from t;w= select x  from t ", "ok", "v=select * from t", "ok", "-")
}

func TestP12Drops(t *testing.T) {
	checkLines(t, []lineCase{{"drop e", "ok"}, {"drop v", "ok"}, {"drop w", "ok"}, {"drop t", "used"}, {"drop n", "name"}, {"drop x", "name"}, {"drop select", "name"}})
	checkDesk(t, deskStart+"drop v\ndrop t\ndrop w\ndrop w\ndrop t\ndrop t\nshow t\nshow v\nadd t 1,'a'\ntable t z\nshow t\ndrop e\nshow e\n", append(strings.Split(strings.TrimSuffix(deskAnswers, "\n"), "\n"), "ok", "used", "ok", "name", "ok", "name", "what", "what", "name", "ok", "-", "ok", "what")...)
}

func TestP12RowsAddedAndGone(t *testing.T) {
	checkLines(t, []lineCase{
		{"add t 1,'a'", "ok"}, {"add t null,null", "ok"}, {"add t 'a b','  '", "ok"}, {"add t true,false", "ok"}, {"del t 1,'a'", "ok"}, {"del t 2,'b'", "ok"}, {"del t 3,null", "ok"}, {"add e 1", "ok"}, {"add e ' , '", "ok"}, {"add e '" + longest + "'", "ok"},
		{"add t 1", "rows"}, {"add t 1,2,3", "rows"}, {"add e 1,2", "rows"}, {"del t 1", "rows"}, {"del t 9,'a'", "rows"}, {"del t 1,'b'", "rows"}, {"del t 1,a", "what"}, {"del e 1", "rows"}, {"del t null,3", "rows"},
		{"add n 1", "name"}, {"add n 1,'a'", "name"}, {"del n 1", "name"}, {"add v 1,1", "name"}, {"del v 1,1", "name"}, {"del w 'b'", "name"},
		{"add t", "what"}, {"add t ", "what"}, {"add t  1,'a'", "what"}, {"add t 1,'a' ", "what"}, {"add t 1, 'a'", "what"}, {"add t 1 ,'a'", "what"}, {"add t 1,", "what"}, {"add t ,1", "what"}, {"add t 1,,'a'", "what"}, {"add t 1 'a'", "what"}, {"add t 1,x", "what"}, {"add t 1,'a", "what"}, {"add t 01,'a'", "what"}, {"add t -0,'a'", "what"}, {"add e '" + longest + "x'", "what"}, {"add n x", "what"}, {"del t", "what"}, {"del t ", "what"}, {"del n 'a", "what"},
		{"add e 9223372036854775807", "ok"}, {"add e -9223372036854775808", "ok"}, {"add e 9223372036854775808", "what"}, {"add e -9223372036854775809", "what"}, {"add e " + rowWords(wide(impl.MaxWidth, 1)), "rows"}, {"add e " + rowWords(wide(impl.MaxWidth+1, 1)), "bad"}, {"add n " + rowWords(wide(impl.MaxWidth+1, 1)), "bad"},
	})
	checkDesk(t, "table t x\nadd t 9223372036854775807\nadd t -9223372036854775808\nadd t 'a,;''\xff\x00 b'\nadd t 'a,;''\xff\x00 b'\nshow t\nask select x + 1 from t\ndel t 'a,;''\xff\x00 b'\ndel t 'a,;''\xff\x00 b'\ndel t 'a,;''\xff\x00 b'\nshow t\ndel t 9223372036854775807\ndel t -9223372036854775808\nshow t\ndel t -9223372036854775808\n",
		"ok", "ok", "ok", "ok", "ok", "1x -9223372036854775808;1x 9223372036854775807;2x 'a,;''\xff\x00 b';", "c0;3x null;1x -9223372036854775807;", "ok", "ok", "rows", "1x -9223372036854775808;1x 9223372036854775807;", "ok", "ok", "-", "rows")
}

func TestP12Questions(t *testing.T) {
	checkLines(t, []lineCase{
		{"ask select * from t", "x,y;" + deskRows}, {"ask  select * from t ", "x,y;" + deskRows}, {"ask select x, count(*) from t group by x", "x,count;" + deskOfV}, {"ask select y, count(*), sum(x) from t group by y", "y,count,sum;1x null,1,3;1x 'a',1,1;1x 'b',2,4;"}, {"ask select k from e", "k;"}, {"ask select x + 1, y, x from t where x = 3", "c0,y,x;1x 4,null,3;"}, {"ask select y from t where x = 2", "y;2x 'b';"}, {"ask select ',;''' from t where x = 3", "c0;1x ',;''';"}, {"ask select t.x from t, e", "x;"},
		{"ask select", "query"}, {"ask select q from t", "query"}, {"ask select * from v", "query"}, {"ask select * from n", "query"}, {"ask select x from t, t", "query"}, {"ask \xff", "query"}, {"ask " + unions(10, "select k from e"), "query"}, {"ask " + strings.Repeat("x", impl.MaxQuery+1), "query"},
		{"plan select * from t", "t"}, {"plan select x, count(*) from t group by x", "v"}, {"plan select y from t where x = 2", "w"}, {"plan select x from t where x = 2", "project([c0], filter((c0 = 2), t))"}, {"plan select distinct y from t where x = 2", "distinct(w)"}, {"plan  select k from e", "project([c0], e)"}, {"plan select x from t where y = 'a, b'", "project([c0], filter((c1 = 'a, b'), t))"},
		{"plan select", "query"}, {"plan select q from t", "query"}, {"plan select * from w", "query"}, {"plan \xff", "query"},
	})
}

func TestP12ShowSyncAndCrash(t *testing.T) {
	list := []lineCase{{"show t", deskRows}, {"show e", "-"}, {"show v", deskOfV}, {"show w", "2x 'b';"}, {"show n", "what"}, {"show x", "what"}, {"views", deskViews}, {"sync", "ok"}}
	for _, n := range []string{"0", "1", "10"} {
		list = append(list, lineCase{"crash " + n, impl.DecText(deskSafe)})
	}
	list = append(list, lineCase{"crash 999999", impl.DecText(deskSteps)})
	for _, n := range []string{"1000000", "00", "01", "0999999", "-1", "-0", "+1", "x", "1x", "x1", "1.0", "1_0", "0x1", "1e3", "1,2", "'1'", "null", "true", "9223372036854775807", "9223372036854775808", "18446744073709551616", "99999999999999999999", "-9223372036854775808", "\u0661", "1\t", "\xff"} {
		list = append(list, lineCase{"crash " + n, "what"})
	}
	checkLines(t, list)
}

func TestP12PowerIsCutByBytes(t *testing.T) {
	size := len(entryOf(changeStep(rel("t", bag(1, times(1, num(1)))))))
	for keep, want := range map[int]int{0: 1, 1: 1, size - 1: 1, size: 2, size + 1: 2, 2*size - 1: 2, 2 * size: 3, 2*size + 1: 3, 999999: 3} {
		script := "table t x\nsync\nadd t 1\nadd t 1\ncrash " + impl.DecText(keep) + "\nshow t\ncrash 0\nadd t 1\nsync\ndel t 1\ncrash 0\nshow t\n"
		rows := []string{"-", "1x 1;", "2x 1;", "3x 1;"}
		checkDesk(t, script, "ok", "ok", "ok", "ok", impl.DecText(want), rows[want-1], impl.DecText(want), "ok", "ok", "ok", impl.DecText(want+1), rows[want])
	}
	checkDesk(t, "crash 0\ncrash 999999\nsync\ncrash 5\ntable t x\ntable t x\nadd t x\ncrash 0\nshow t\ntable t x y\nshow t\nsync\ncrash 0\nshow t\n", "0", "0", "ok", "0", "ok", "name", "what", "0", "what", "ok", "-", "ok", "1", "-")
}

func TestP12AsManyAsThereMayBe(t *testing.T) {
	lines, want := []string{}, []string{}
	for i := range mostTables + 1 {
		lines, want = append(lines, "table t"+impl.DecText(i)+" x"), append(want, "ok")
	}
	for i := range impl.MaxViews + 1 {
		lines, want = append(lines, "view v"+impl.DecText(i)+" select x from t0"), append(want, "ok")
	}
	want[mostTables], want[len(want)-1] = "full", "full"
	lines = append(lines, "table v0 x", "view t0 select", "view v10 select", "drop t0", "drop v3", "view v10 select", "view v10 select x from t1", "drop t9", "table t10 x", "table t11 x", "show t9", "show t10")
	checkDesk(t, strings.Join(lines, "\n")+"\n", append(want, "name", "name", "full", "used", "ok", "query", "ok", "ok", "ok", "full", "what", "-")...)
}

// 21 rows and as many beside them are more than a bag may have.
func TestP12RowsThatDoNotFit(t *testing.T) {
	lines, want := []string{"table a x", "table b x"}, []string{"ok", "ok"}
	for i := range 20 {
		lines, want = append(lines, "add a "+impl.DecText(i), "add b "+impl.DecText(i)), append(want, "ok", "ok")
	}
	lines = append(lines, "add a 20", "view v select a.x from a, b", "ask select a.x from a, b", "plan select a.x from a, b", "del a 20", "view v select a.x from a, b", "ask select a.x, count(*) from a, b where a.x = 3 group by a.x", "plan select a.x from a, b", "add b 20", "add a 0", "show b")
	rows := ""
	for i := range 20 {
		rows += "1x " + impl.DecText(i) + ";"
	}
	checkDesk(t, strings.Join(lines, "\n")+"\n", append(want, "ok", "rows", "rows", "rows", "ok", "ok", "x,count;1x 3,20;", "v", "rows", "ok", rows)...)
}

func TestP12ScriptsAndOthers(t *testing.T) {
	if got := impl.Desk(""); got != "" {
		t.Errorf("no line: %q", got)
	}
	checkDesk(t, "\n", "what")
	checkDesk(t, strings.Repeat("views\n", mostLines), slices.Repeat([]string{"-"}, mostLines)...)
	checkDesk(t, strings.Repeat("\n", mostLines), slices.Repeat([]string{"what"}, mostLines)...)
	checkDesk(t, strings.Repeat("x", impl.MaxScript-1)+"\n", "what")
	checkDesk(t, strings.Repeat("views\n", 50)+strings.Repeat("x", impl.MaxScript-301)+"\n", append(slices.Repeat([]string{"-"}, 50), "what")...)
	full := strings.Repeat(strings.Repeat("x", impl.MaxScript/mostLines-1)+"\n", mostLines)
	checkDesk(t, full, slices.Repeat([]string{"what"}, mostLines)...)
	for _, s := range []string{
		"views", "x", " ", "views\nviews", "views\n ", "\nx", "views\r", "\x00", "views\n\x00", strings.Repeat("views\n", mostLines) + "x", strings.Repeat("views\n", mostLines+1), strings.Repeat("\n", mostLines+1), strings.Repeat("\n", impl.MaxScript), strings.Repeat("\n", impl.MaxScript+1),
		strings.Repeat("x", impl.MaxScript) + "\n", strings.Repeat("x", impl.MaxScript), strings.Repeat("x", impl.MaxScript-1), "x" + full, full + "\n", full[1:] + "\n", strings.Repeat("table t x\n", 1000000),
	} {
		if got := impl.Desk(s); got != "long\n" {
			t.Errorf("%d bytes, %.50q: %.50q", len(s), s, got)
		}
	}
}

// A paper is a desk by hand: lines are told apart by forms, and what is done stands in ledgers.
type paper struct{ session }

var lineForms = map[string]*regexp.Regexp{
	"table": regexp.MustCompile(`^table ([a-z][a-z0-9]{0,9}|)((?: [^ ]*)+)$`), "view": regexp.MustCompile(`^view ([^ ]*) (.*)$`), "drop": regexp.MustCompile(`^drop ([^ ]*)$`), "add": regexp.MustCompile(`^add ([^ ]*) (.*)$`), "del": regexp.MustCompile(`^del ([^ ]*) (.*)$`), "ask": regexp.MustCompile(`^ask (.*)$`), "plan": regexp.MustCompile(`^plan (.*)$`), "show": regexp.MustCompile(`^show ([^ ]*)$`), "views": regexp.MustCompile(`^views$`), "sync": regexp.MustCompile(`^sync$`), "crash": regexp.MustCompile(`^crash (0|[1-9][0-9]{0,5})$`),
}

func (p *paper) step(t *testing.T, s impl.Step) string {
	t.Helper()
	return []string{"ok", "name", "query", "used", "rows", "full", "bad"}[p.do(t, s)]
}

func (p *paper) row(t *testing.T, name string, values string, n int) string {
	t.Helper()
	list, ok := rowByHand(values)
	if !ok {
		return "what"
	}
	return p.step(t, changeStep(rel(name, bag(len(list), times(n, list...)))))
}

func rowsInLine(b impl.Bag) string {
	out := ""
	for _, c := range b.Rows {
		out += impl.DecText(c.N) + "x " + rowWords(c.Row) + ";"
	}
	return out
}

func (p *paper) asked(text string) (string, string) {
	b, code := p.now().answer(text)
	if code != impl.EnOk {
		word := map[int]string{impl.EnQuery: "query", impl.EnRows: "rows"}[code]
		return word, word
	}
	q, _ := impl.ParseQuery(text)
	plan, names, _ := impl.Bind(p.now().schemas, q)
	return strings.Join(names, ",") + ";" + rowsInLine(b), impl.PlanText(bestByHand(p.e, plan))
}

func (p *paper) shown(name string) string {
	b, known := bag(0), p.now().isView(name)
	if known {
		b, _ = p.now().answer(p.now().views[name])
	}
	for _, r := range p.now().db {
		if r.Name == name {
			b, known = r.Bag, true
		}
	}
	switch {
	case !known:
		return "what"
	case len(b.Rows) == 0:
		return "-"
	}
	return rowsInLine(b)
}

func (p *paper) viewed() string {
	texts := []string{}
	for _, name := range slices.Sorted(maps.Keys(p.now().views)) {
		texts = append(texts, name+"="+p.now().views[name])
	}
	if len(texts) == 0 {
		return "-"
	}
	return strings.Join(texts, ";")
}

func (p *paper) tell(t *testing.T, line string) string {
	t.Helper()
	word, _, _ := strings.Cut(line, " ")
	form := lineForms[word]
	if form == nil || !form.MatchString(line) {
		return "what"
	}
	m := append(form.FindStringSubmatch(line), "", "")
	asked, plan := "", ""
	if word == "ask" || word == "plan" {
		asked, plan = p.asked(m[1])
	}
	switch word {
	case "table":
		return p.step(t, impl.Step{Kind: impl.StTable, Name: m[1], Cols: strings.Split(m[2], " ")[1:]})
	case "view":
		return p.step(t, viewStep(m[1], m[2]))
	case "drop":
		return p.step(t, dropStep(m[1]))
	case "add":
		return p.row(t, m[1], m[2], 1)
	case "del":
		return p.row(t, m[1], m[2], -1)
	case "ask":
		return asked
	case "plan":
		return plan
	case "show":
		return p.shown(m[1])
	case "views":
		return p.viewed()
	case "sync":
		p.e = impl.Sync(p.e)
		return "ok"
	}
	keep := big.NewInt(0)
	keep.SetString(m[1], 10)
	p.crash(t, int(keep.Int64()))
	return impl.DecText(len(p.ends))
}

// deskLine is one of any kind over the market's names, mostly right.
func deskLine(r *rand.Rand, l ledger) string {
	name := pick(r, []string{"v", "w", "u", "a", "b", "p", "t", "t", "zz", "N"})
	values := rowWords(randomRow(r, 1+r.Intn(3)))
	if len(l.db) > 0 && r.Intn(5) > 0 {
		x := pick(r, l.db)
		name, values = x.Name, rowWords(randomRow(r, x.Bag.Width))
		if len(x.Bag.Rows) > 0 && r.Intn(2) == 0 {
			values = rowWords(pick(r, x.Bag.Rows).Row)
		}
	}
	s := pick(r, marketSchemas())
	lines := []string{
		"table " + s.Name + " " + strings.Join(s.Cols, " "), "table " + s.Name + " " + strings.Join(s.Cols, " "), "table " + name + " x y", "view " + pick(r, []string{"v", "w", "u", "a0", name}) + " " + marketText(r, l), "view " + pick(r, []string{"v", "w", "u"}) + " " + marketText(r, l), "drop " + pick(r, []string{"v", "w", "u", name, name}),
		"add " + name + " " + values, "add " + name + " " + values, "add " + name + " " + values, "add " + name + " " + values, "del " + name + " " + values, "del " + name + " " + values, "add " + name + " " + anyRowText(r), "ask " + marketText(r, l), "ask " + filteredText(r, l), "plan " + filteredText(r, l), "plan " + marketText(r, l), "show " + name, "show " + pick(r, []string{"v", "w", "u", name}), "views", "sync", "crash " + impl.DecText(r.Intn(300)), "crash 999999",
	}
	line := pick(r, lines)
	if r.Intn(12) == 0 {
		line = mauled(r, line)
	}
	if r.Intn(20) == 0 {
		line = withAnEmptyPart(r, line)
	}
	return strings.ReplaceAll(line, "\n", " ")
}

// withAnEmptyPart leaves out what stands behind one of a line's blanks, up to the next one or, now and then, all of it.
func withAnEmptyPart(r *rand.Rand, line string) string {
	parts := strings.Split(line, " ")
	at := r.Intn(len(parts))
	parts[at] = ""
	if r.Intn(3) == 0 {
		parts = parts[:at+1]
	}
	return strings.Join(parts, " ")
}

func TestP12WhateverIsWritten(t *testing.T) {
	r := rand.New(rand.NewSource(122))
	told := map[string]int{}
	for i := range 60 {
		p := paper{session{books: []ledger{{}}}}
		script, answers := "", []string{}
		for range mostLines {
			line := deskLine(r, p.now())
			if len(script)+len(line)+1 > impl.MaxScript {
				break
			}
			script += line + "\n"
			answers = append(answers, p.tell(t, line))
			told[answers[len(answers)-1]]++
		}
		want := strings.Join(append(slices.Clone(answers), ""), "\n")
		if got := impl.Desk(script); got != want {
			t.Fatalf("%q:\n%q, want\n%q", script, got, want)
		}
		if i%6 == 0 {
			checkBeginnings(t, script, answers)
		}
		if t.Failed() {
			t.FailNow()
		}
	}
	for word, least := range map[string]int{"ok": 1000, "name": 200, "query": 100, "used": 20, "rows": 200, "bad": 50, "what": 300, "-": 100} {
		if told[word] < least {
			t.Errorf("%s: only %d", word, told[word])
		}
	}
}

func TestP13DeskOfAnyTexts(t *testing.T) {
	r := rand.New(rand.NewSource(13))
	words := []string{"table", "view", "drop", "add", "del", "ask", "plan", "show", "views", "sync", "crash", "t", "x", "select", "*", "from", "1", "0", "1,'a'", "null", "'", ",", ";", "\x00", "\xff", "  ", "\t", "999999", "v"}
	for i := range 3000 {
		text := anyBytes(r, 300)
		if i%2 == 0 {
			text = strings.Join(pickSome(r, words, 60), pick(r, []string{" ", "\n", ""}))
		}
		text = strings.ReplaceAll(text, "\xff", "\n") + pick(r, []string{"", "\n"})
		lines := strings.Count(text, "\n")
		got := impl.Desk(text)
		isScript := lines <= mostLines && (text == "" || strings.HasSuffix(text, "\n"))
		if isScript && strings.Count(got, "\n") != lines || !isScript && got != "long\n" || got != impl.Desk(text) {
			t.Fatalf("%q: %q", text, got)
		}
		if isScript && lines > 0 {
			first := strings.Join(strings.SplitAfter(text, "\n")[:r.Intn(lines)], "")
			if !strings.HasPrefix(got, impl.Desk(first)) {
				t.Fatalf("%q does not begin with what is told of %q", got, first)
			}
		}
		impl.ReadRow(text)
	}
	for _, c := range []string{"'", ",", "1", "-", "''", "',", "1,", "a", "\n", "\x00", "'a',"} {
		much := strings.Repeat(c, 1000000)
		if got, ok := impl.ReadRow(much); ok || len(got) != 0 {
			t.Errorf("very many %q: %d values", c, len(got))
		}
		if impl.Desk(much) != "long\n" {
			t.Errorf("very many %q are a script", c)
		}
	}
}

func TestP13RowsAreNewEachTime(t *testing.T) {
	s := "1,'it''s',null,true,'b'"
	first, _ := impl.ReadRow(s)
	clear(first[:cap(first)])
	checkRow(t, s, num(1), text("it's"), null, yes, text("b"))
	for range 5 {
		if impl.Desk(deskStart+deskAfter) != impl.Desk(deskStart+deskAfter) {
			t.Error("told another way")
		}
	}
}
