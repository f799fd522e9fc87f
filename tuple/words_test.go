package tuple_test

import (
	"math"
	"math/big"
	"math/rand"
	"regexp"
	"strconv"
	"strings"
	"testing"

	"heartwood/api"
	"heartwood/tuple"
)

func TestPrintExamples(t *testing.T) {
	for _, x := range []struct {
		row  []api.Item
		want string
	}{
		{nil, `()`},
		{[]api.Item{null(), number(-7), float(1.5), minusNought(), text("a b"), list(list(), truth(true))}, `(null,-7,3p-1,-0p0,"a\20b",[[],true])`},
		{[]api.Item{null()}, `(null)`},
		{[]api.Item{truth(true), truth(false)}, `(true,false)`},
		{[]api.Item{number(0), number(10), number(math.MinInt64), number(math.MaxInt64)}, `(0,10,-9223372036854775808,9223372036854775807)`},
		{[]api.Item{float(0), float(math.Inf(1)), float(math.Inf(-1)), bits(oneNaN)}, `(0p0,inf,-inf,nan)`},
		{[]api.Item{float(1), float(-1), float(2), float(-6), float(0.75), float(10)}, `(1p0,-1p0,1p1,-3p1,3p-2,5p1)`},
		{[]api.Item{float(5e-324), float(-0x3p-1074), float(0x1p-1022), float(0x1p-1023)}, `(1p-1074,-3p-1074,1p-1022,1p-1023)`},
		{[]api.Item{float(math.MaxFloat64), float(0x1p1023), float(1<<53 - 1), float(0.1)}, `(9007199254740991p971,1p1023,9007199254740991p0,3602879701896397p-55)`},
		{[]api.Item{text("")}, `("")`},
		{[]api.Item{text("\x00\x01\x1f !\"#[\\]~\x7f\x80\xff")}, `("\00\01\1f\20!\22#[\5c]~\7f\80\ff")`},
		{[]api.Item{text(",()'null"), text("ä")}, `(",()'null","\c3\a4")`},
		{[]api.Item{list()}, `([])`},
		{[]api.Item{list(null(), null()), list(list(text("]")))}, `([null,null],[["]"]])`},
	} {
		if s, e := tuple.Print(x.row...); s != x.want || e != api.OK {
			t.Errorf("Print of %s: %s, %d, want %s", shown(x.row...), s, e, x.want)
		}
		if l, e := tuple.Parse(x.want); shown(l...) != shown(x.row...) || e != api.OK {
			t.Errorf("Parse of %s: %s, %d", x.want, shown(l...), e)
		}
	}
	for _, x := range nans() {
		if s, e := tuple.Print(x); s != "(nan)" || e != api.OK {
			t.Errorf("Print of %s: %s, %d", shown(x), s, e)
		}
	}
}

// Every byte of a text stands in its word as it is, or as a backslash and two digits.
func TestTextsOfOneByte(t *testing.T) {
	for b := range 256 {
		s := string([]byte{byte(b)})
		want := s
		if b < 0x21 || b > 0x7e || b == '"' || b == '\\' {
			want = "\\" + strconv.FormatInt(int64(b)+256, 16)[1:]
		}
		if got, e := tuple.Print(text(s)); got != `("`+want+`")` || e != api.OK {
			t.Errorf("%x: %s, %d", b, got, e)
		}
		for _, word := range []string{s, "\\" + strconv.FormatInt(int64(b)+256, 16)[1:], "\\" + strings.ToUpper(strconv.FormatInt(int64(b)+256, 16)[1:])} {
			l, e := tuple.Parse(`("` + word + `")`)
			if word == want && (e != api.OK || shown(l...) != shown(text(s))) || word != want && (e != api.ErrWord || len(l) > 0) {
				t.Errorf("%s: %s, %d", word, shown(l...), e)
			}
		}
	}
}

func notAWord(t *testing.T, word string, want api.Errno) {
	t.Helper()
	if l, e := tuple.Parse(word); len(l) != 0 || e != want {
		t.Errorf("Parse of %d bytes, %.40s: %d items, %d, want %d", len(word), word, len(l), e, want)
	}
}

func TestTextsThatAreNoWords(t *testing.T) {
	for _, s := range strings.Fields(`01 6p0 "\61" (1 1] 1) ) ] ( [ [1 [] [1,] [,1] [1,,1] [1)] [[] [1]] , 1, ,1
		-0 -00 00 +1 1.0 1e3 0x1 1_0 9223372036854775808 -9223372036854775809 - -- +
		2p0 -2p1 4p-1 0p1 0p-0 -0p1 0p00 01p0 1p00 1p+1 +1p0 1p 1p- p p0 p1 1p1p1 1P0 1.5p0 --1p0
		1p1024 3p1023 1p-1075 3p-1075 9007199254740993p0 9007199254740993p970 1p99999 1p-99999 1p9223372036854775808 9223372036854775809p0
		NaN NAN Inf +inf INF -nan infinity Infinity -Inf null0 Null NULL nul nil True TRUE t f tru False 1true
		" "" "a a" "a"b a"b" """ "\" "\0" "\2" "\g0" "\0g" "\2A" "\7E" "\21" "\x20" "\\" "\"" "\+1" "\-1" "\_1" "a"" 'a'`) {
		if s == `""` || s == `[]` {
			continue
		}
		notAWord(t, "("+s+")", api.ErrWord)
		notAWord(t, "(null,"+s+")", api.ErrWord)
		notAWord(t, "(["+s+"])", api.ErrWord)
	}
	for _, s := range []string{"", "(", ")", "()(", "())", "(()", "[]", "null", "1", "1)", "(1", "(1]", "[1)", "( 1)", "(1 )", " (1)", "(1) ", "(1)\n", "(1,\n1)", "(1, 1)", "(1)1", "(1)(1)", "{1}", "\x00", "(\x00)", "\xff", "x1)", "()x", "(\"a b\")", "(\"a\tb\")", "(\"\x00\")", "(\"ä\")", "([1 ,1])", "(\xff)", "(1\x00)"} {
		notAWord(t, s, api.ErrWord)
	}
}

func TestParseAtTheBounds(t *testing.T) {
	read := func(word string, items int) {
		t.Helper()
		l, e := tuple.Parse(word)
		if again, f := tuple.Print(l...); e != api.OK || len(l) != items || again != word || f != api.OK {
			t.Errorf("%d bytes: %d items, %d", len(word), len(l), e)
		}
	}
	repeat := strings.Repeat
	read("(0"+repeat(",0", 63)+")", 64)
	notAWord(t, "(0"+repeat(",0", 64)+")", api.ErrWord)
	read("([0"+repeat(",0", 62)+"])", 1)
	notAWord(t, "([0"+repeat(",0", 63)+"])", api.ErrWord)
	read("("+repeat("[", 8)+"null"+repeat("]", 8)+")", 1)
	notAWord(t, "("+repeat("[", 9)+repeat("]", 9)+")", api.ErrWord)
	read(`("`+repeat("x", 4093)+`")`, 1)
	notAWord(t, `("`+repeat("x", 4094)+`")`, api.ErrWord)
	read(`("`+repeat(`\ff`, 4093)+`")`, 1)
	notAWord(t, `("`+repeat(`\ff`, 4094)+`")`, api.ErrWord)
	read(`("`+repeat(`\00`, 2046)+`")`, 1)
	notAWord(t, `("`+repeat(`\00`, 2047)+`")`, api.ErrWord)
	for _, s := range []string{"[", "(", "1,", "\"", "\\", "x", "(1)", "1", "-", "\x00"} {
		word := (s + repeat(s, api.MaxWord))[:api.MaxWord]
		notAWord(t, word, api.ErrWord)
		notAWord(t, word+"]", api.ErrLong)
		notAWord(t, "("+word[1:], api.ErrWord)
		notAWord(t, "("+word, api.ErrLong)
	}
	notAWord(t, "("+repeat("[", 8191)+repeat("]", 8191)+")", api.ErrWord)
	notAWord(t, "("+repeat("[", 8191)+repeat("]", 8192)+")", api.ErrLong)
	notAWord(t, repeat(" ", 1<<20), api.ErrLong)
}

// A row's word is never too long to be read.
func TestLongestWords(t *testing.T) {
	for _, row := range [][]api.Item{
		{text(strings.Repeat("\xff", 4093))},
		{text(strings.Repeat("\xff", 4093-8*2)), lists(8)},
	} {
		word, e := tuple.Print(row...)
		if e != api.OK {
			t.Fatal(e)
		}
		if l, e := tuple.Parse(word); e != api.OK || shown(l...) != shown(row...) {
			t.Errorf("a word of %d bytes: %d", len(word), e)
		}
	}
}

// exact answers the float of a word m p e, and whether a float is just that number and m is odd: by the numbers of another make.
func exact(m, e string) (float64, bool) {
	var n big.Int
	if _, ok := n.SetString(m, 10); !ok || n.Bit(0) == 0 || n.BitLen() > 64 {
		return 0, false
	}
	power, err := strconv.Atoi(e)
	if err != nil || power < -2000 || power > 2000 {
		return 0, false
	}
	x := new(big.Float).SetPrec(200).SetInt(&n)
	f, accuracy := x.SetMantExp(x, power).Float64()
	return f, accuracy == big.Exact && !math.IsInf(f, 0)
}

// What words of numbers and of texts look like.
var (
	numbers = regexp.MustCompile(`^(?:0|-?[1-9][0-9]*)(?:p(?:0|-?[1-9][0-9]*))?$`)
	texts   = regexp.MustCompile(`^"(?:[!#-\[\]-~]|\\(?:[01][0-9a-f]|20|22|5c|7f|[89a-f][0-9a-f]))*"$`)
)

// isItem tells whether a word is an item's that is neither a text's nor a list's.
func isItem(word string) bool {
	switch word {
	case "null", "true", "false", "nan", "inf", "-inf", "0p0", "-0p0":
		return true
	}
	if !numbers.MatchString(word) {
		return false
	}
	m, e, float := strings.Cut(word, "p")
	if float {
		_, ok := exact(m, e)
		return ok
	}
	_, err := strconv.ParseInt(word, 10, 64)
	return err == nil
}

func TestParseOfAllShortStrings(t *testing.T) {
	read := map[bool]int{}
	var grow func(s, of string, most int, is func(word string) bool)
	grow = func(s, of string, most int, is func(word string) bool) {
		l, e := tuple.Parse("(" + s + ")")
		ok := e == api.OK
		again, _ := tuple.Print(l...)
		if ok != (s == "" || is(s)) || ok && again != "("+s+")" || !ok && (e != api.ErrWord || len(l) > 0) {
			t.Fatalf("Parse of (%s): %s, %d", s, shown(l...), e)
		}
		read[ok]++
		for i := range len(of) {
			if len(s) < most {
				grow(s+of[i:i+1], of, most, is)
			}
		}
	}
	grow("", "0123456789p-+_. e", 4, isItem)
	grow("", "012-p", 6, isItem)
	grow("", "\"\\027af!G \x7f", 5, func(word string) bool { return isItem(word) || texts.MatchString(word) })
	if read[true] < 500 {
		t.Error(read)
	}
}

func TestFloatWords(t *testing.T) {
	pick := rand.New(rand.NewSource(11))
	taken := 0
	for range 20000 {
		m := strconv.FormatInt(int64(pick.Uint64()>>pick.Intn(64)), 10)
		if pick.Intn(4) == 0 {
			m = strconv.FormatInt(int64(pick.Uint64()), 10)
		}
		e := strconv.Itoa([]int{pick.Intn(4200) - 2100, -1074 + pick.Intn(5) - 2, -1022 - pick.Intn(60), 1023 - pick.Intn(64), pick.Intn(9) - 4}[pick.Intn(5)])
		if m == "0" {
			continue
		}
		want, ok := exact(m, e)
		l, code := tuple.Parse("(" + m + "p" + e + ")")
		if ok != (code == api.OK) || ok && shown(l...) != shown(float(want)) {
			t.Fatalf("%sp%s: %s, %d", m, e, shown(l...), code)
		}
		if ok {
			taken++
		}
	}
	if taken < 2000 {
		t.Error(taken)
	}
	for range 20000 {
		f := math.Float64frombits(pick.Uint64())
		if pick.Intn(2) == 0 {
			f = math.Ldexp(float64(int64(pick.Uint64()>>pick.Intn(64))), pick.Intn(2200)-1100)
		}
		if math.IsNaN(f) || math.IsInf(f, 0) || f == 0 {
			continue
		}
		word, code := tuple.Print(float(f))
		m, e, _ := strings.Cut(strings.Trim(word, "()"), "p")
		if got, ok := exact(m, e); code != api.OK || !ok || got != f {
			t.Fatalf("%x: %s, %d", math.Float64bits(f), word, code)
		}
	}
}

// Words of rows in which somebody changes a byte are refused, or are another row's.
func TestWordsBackAndThere(t *testing.T) {
	pick := rand.New(rand.NewSource(12))
	read := map[bool]int{}
	for _, row := range some(t, 20000, 13) {
		word, _ := tuple.Print(row...)
		s := []byte(word)
		i, b := pick.Intn(len(s)), "()[],\"\\01abp-nx "[pick.Intn(16)]
		if pick.Intn(3) == 0 {
			s = append(s[:i], s[i+1:]...)
		} else {
			s[i] = b
		}
		l, e := tuple.Parse(string(s))
		again, _ := tuple.Print(l...)
		if e == api.OK && again != string(s) || e != api.OK && (e != api.ErrWord || len(l) > 0) {
			t.Fatalf("%s: %s, %d", s, shown(l...), e)
		}
		read[e == api.OK]++
	}
	if read[true] < 500 || read[false] < 500 {
		t.Error(read)
	}
}
