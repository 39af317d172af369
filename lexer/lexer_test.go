package lexer_test

import (
	"math"
	"math/big"
	"math/rand"
	"regexp"
	"slices"
	"strings"
	"testing"
	"unicode/utf8"

	"octroi/api"
	"octroi/lexer"
)

const (
	nines  = "999999999999999999" // as many digits as there may be
	blanks = " \t\r\n"
	signs  = "+-(),;=<>"
	small  = "abcdefghijklmnopqrstuvwxyz"
	digits = "0123456789"
)

// The model: expressions of what may begin, held against what is left of a text.
var (
	nothing = regexp.MustCompile(`\A(?:[\x20\x09\x0d\x0a]|#[^\x0a]*)+`)
	word    = regexp.MustCompile(`\A[abcdefghijklmnopqrstuvwxyz]+`)
	integer = regexp.MustCompile(`\A[0123456789]+`)
	sign    = regexp.MustCompile(`\A[+\-(),;=<>]`)
)

// told is what Lex tells.
type told struct {
	l  []lexer.Token
	at int
	e  api.Errno
}

func lex(s string) told {
	l, at, e := lexer.Lex(s)
	return told{l, at, e}
}

// model is Lex, word for word as the document says it.
func model(s string) told {
	if len(s) > 65536 {
		return told{e: api.ErrLong}
	}
	var l []lexer.Token
	for at := 0; ; {
		at += len(nothing.FindString(s[at:]))
		left := s[at:]
		t := lexer.Token{At: at}
		switch {
		case left == "":
			return told{l: l}
		case word.MatchString(left):
			t.Kind, t.Text = 1, word.FindString(left)
		case sign.MatchString(left):
			t.Kind, t.Text = 3, sign.FindString(left)
		case integer.MatchString(left):
			t.Kind, t.Text = 2, integer.FindString(left)
			n, _ := new(big.Int).SetString(t.Text, 10)
			t.N = int(n.Int64())
		}
		if t.Text == "" || t.Kind == 2 && len(t.Text) > 18 {
			return told{at: at, e: api.ErrWord}
		}
		l = append(l, t)
		at += len(t.Text)
	}
}

// short tells how a text begins: it may be long.
func short(s string) string { return s[:min(len(s), 200)] }

// check asks whether a text has the tokens, or the error, that are wanted.
func check(t *testing.T, s string, want told) {
	t.Helper()
	got := lex(s)
	if got.at != want.at || got.e != want.e || !slices.Equal(got.l, want.l) {
		t.Fatalf("%q: %v, %d, %d, not %v, %d, %d", short(s), got.l[:min(len(got.l), 20)], got.at, int(got.e), want.l[:min(len(want.l), 20)], want.at, int(want.e))
	}
	if got.e != api.OK && len(got.l) != 0 {
		t.Fatalf("%q: tokens beside an error", short(s))
	}
}

// like asks whether a text is as its model.
func like(t *testing.T, s string) {
	t.Helper()
	check(t, s, model(s))
}

// texts tells the tokens' texts.
func texts(l []lexer.Token) []string {
	var all []string
	for _, t := range l {
		all = append(all, t.Text)
	}
	return all
}

// P30.1: the example.
func TestTold(t *testing.T) {
	check(t, "box 1=sum(base) ; # all", told{l: []lexer.Token{
		{Kind: lexer.Word, At: 0, Text: "box"},
		{Kind: lexer.Int, At: 4, Text: "1", N: 1},
		{Kind: lexer.Sign, At: 5, Text: "="},
		{Kind: lexer.Word, At: 6, Text: "sum"},
		{Kind: lexer.Sign, At: 9, Text: "("},
		{Kind: lexer.Word, At: 10, Text: "base"},
		{Kind: lexer.Sign, At: 14, Text: ")"},
		{Kind: lexer.Sign, At: 16, Text: ";"},
	}})
	if lexer.Word != 1 || lexer.Int != 2 || lexer.Sign != 3 {
		t.Error("kinds")
	}
}

// P30.1: what follows close on something, and how far something goes.
func TestParted(t *testing.T) {
	for s, want := range map[string][]string{
		"":                      nil,
		" ":                     nil,
		"\t\r\n \n":             nil,
		"#":                     nil,
		"#\n":                   nil,
		"# a 1 + A ~":           nil,
		"##\n##":                nil,
		"a":                     {"a"},
		"z":                     {"z"},
		"ab":                    {"ab"},
		"a b":                   {"a", "b"},
		"a#b":                   {"a"},
		"a#b\nc":                {"a", "c"},
		"a#b\rc\nd":             {"a", "d"},
		"a#b\n#c\n#d\ne":        {"a", "e"},
		"#a\n\n b":              {"b"},
		"1#2\n3":                {"1", "3"},
		"a#\n#\nb":              {"a", "b"},
		"a1":                    {"a", "1"},
		"1a":                    {"1", "a"},
		"a1b22c":                {"a", "1", "b", "22", "c"},
		"box1":                  {"box", "1"},
		"1 2":                   {"1", "2"},
		"12":                    {"12"},
		"007":                   {"007"},
		"-1":                    {"-", "1"},
		"1+1":                   {"1", "+", "1"},
		"<=":                    {"<", "="},
		"+++":                   {"+", "+", "+"},
		signs:                   strings.Split(signs, ""),
		small:                   {small},
		digits:                  {digits},
		nines:                   {nines},
		nines + " " + nines:     {nines, nines},
		nines + "a" + nines:     {nines, "a", nines},
		nines + "#\n" + nines:   {nines, nines},
		strings.Repeat("a", 99): {strings.Repeat("a", 99)},
	} {
		if got := lex(s); !slices.Equal(texts(got.l), want) || got.at != 0 || got.e != api.OK {
			t.Errorf("%q: %v", s, got)
		}
		like(t, s)
	}
}

// P30.1: numbers.
func TestNumbers(t *testing.T) {
	for s, n := range map[string]int{
		"0": 0, "1": 1, "9": 9, "10": 10, "00": 0, "007": 7, "08": 8, "2147483648": 1 << 31, "4294967296": 1 << 32,
		nines: 999999999999999999, "100000000000000000": 100000000000000000, "000000000000000000": 0, "000000000000000009": 9, "099999999999999999": 99999999999999999,
	} {
		check(t, s, told{l: []lexer.Token{{Kind: lexer.Int, Text: s, N: n}}})
		check(t, "\n"+s+"x", told{l: []lexer.Token{{Kind: lexer.Int, At: 1, Text: s, N: n}, {Kind: lexer.Word, At: 1 + len(s), Text: "x"}}})
	}
}

// P30.1: Ints of more digits than there may be, told where they begin.
func TestTooManyDigits(t *testing.T) {
	for many := 1; many <= 40; many++ {
		for _, digit := range []string{"0", "1", "9"} {
			s := strings.Repeat(digit, many)
			for _, ahead := range []string{"", " ", "a", "#\n", "1 ", "ä"} {
				for _, behind := range []string{"", " ", "a", "#", "~", " " + nines + "0"} {
					like(t, ahead+s+behind)
				}
			}
			want := api.OK
			if many > 18 {
				want = api.ErrWord
			}
			if got := lex("a " + s); got.e != want || want != api.OK && got.at != 2 {
				t.Error(many, got)
			}
		}
	}
	check(t, strings.Repeat("0", 18)+"1", told{e: api.ErrWord})
	check(t, "a "+strings.Repeat("7", api.MaxProgram-2), told{at: 2, e: api.ErrWord})
	check(t, nines+"0~", told{e: api.ErrWord}) // the first of two
	check(t, "~"+nines+"0", told{e: api.ErrWord})
}

// P30.1: each byte, alone, between others, in a remark, and at the end.
func TestEachByte(t *testing.T) {
	for x := range 256 {
		s := string([]byte{byte(x)})
		want := api.ErrWord
		if strings.Contains(blanks+signs+small+digits+"#", s) {
			want = api.OK
		}
		if got := lex(s); got.e != want || got.at != 0 {
			t.Errorf("%q: %v", s, got)
		}
		if got := lex("ab " + s); got.e != want || want != api.OK && got.at != 3 {
			t.Errorf("%q: %v", s, got)
		}
		if s != "\n" {
			check(t, "#"+s+"\n+", told{l: []lexer.Token{{Kind: lexer.Sign, At: 3, Text: "+"}}})
			check(t, "#"+s+"+", told{})
		}
		for y := range 256 {
			like(t, s+string([]byte{byte(y)}))
			like(t, "a"+s+string([]byte{byte(y)})+"1")
			like(t, "#"+s+string([]byte{byte(y)})+"\n=")
		}
	}
}

// P30.1: each rune that is more than one byte is none of those that may be, but in a remark.
func TestEachRune(t *testing.T) {
	for r := rune(utf8.RuneSelf); r <= utf8.MaxRune; r++ {
		if !utf8.ValidRune(r) {
			continue
		}
		s := string(r)
		for ahead, at := range map[string]int{"": 0, "a": 1, "12 ": 3, "#\n": 2} {
			if l, where, e := lexer.Lex(ahead + s); e != api.ErrWord || where != at || len(l) != 0 {
				t.Fatal(ahead, r, l, where, int(e))
			}
		}
		if l, where, e := lexer.Lex("#" + s + "\n+"); e != api.OK || where != 0 || len(l) != 1 || l[0] != (lexer.Token{Kind: lexer.Sign, At: 2 + len(s), Text: "+"}) {
			t.Fatal(r, l, where, int(e))
		}
	}
}

// P30.1: bytes that are no rune's; a line feed ends a remark wherever it stands.
func TestNoRunes(t *testing.T) {
	for _, s := range []string{"\x80", "\xff", "\xc3", "\xe2\x82", "\xf0\x9f\x98", "\xed\xa0\x80", "\xc0\x8a", "\xf4\x90\x80\x80", "\xef\xbf\xbd", "\xe2\x0a", "\xf0\x0a\x0a"} {
		for _, ahead := range []string{"", "a", " ", "12", "#\n"} {
			like(t, ahead+s)
			like(t, ahead+s+"a")
			if got := lex(ahead + s); got.e != api.ErrWord || got.at != len(ahead) {
				t.Errorf("%q: %v", ahead+s, got)
			}
		}
		like(t, "#"+s+"b\nc")
		like(t, "#"+s+"\nc")
		like(t, "a#"+s)
	}
	check(t, "#\xe2\n+", told{l: []lexer.Token{{Kind: lexer.Sign, At: 3, Text: "+"}}})
	check(t, "#\xf0\x9f\n+", told{l: []lexer.Token{{Kind: lexer.Sign, At: 4, Text: "+"}}})
}

// P30.1: the first byte of all that is wrong.
func TestFirstWrong(t *testing.T) {
	for s, at := range map[string]int{
		"A": 0, "aA": 1, "a.": 1, "1.5": 1, "a_b": 1, "a*b": 1, "a / b": 2, "'": 0, "\"a\"": 0, "[": 0, "{a}": 0, "a != b": 2, "a\vb": 1, "a\fb": 1, "a\x00": 1,
		"a # ~\n~ !": 6, "box 1 = Sum(base);": 8, "a \u00a0b": 2, "\ufeffbox": 0, "a\u0301": 1, "é": 0, "１": 0, "a" + nines + "0": 1, "\x7f": 0, "`": 0, "@": 0, "/": 0, ":": 0, "a?": 1,
	} {
		check(t, s, told{at: at, e: api.ErrWord})
		like(t, s)
	}
}

// P30.1: a text that is as long as it may be, and one that is longer.
func TestLong(t *testing.T) {
	const most = api.MaxProgram
	for _, part := range []string{" ", "\n", "a", "+", "#", "a ", "1 ", "#\n", "1a", "~", "7", "ä", "\xff"} {
		s := strings.Repeat(part, most)
		for _, many := range []int{most - 1, most} {
			like(t, s[:many])
			if got := lex(s[:many]); got.e == api.ErrLong {
				t.Error(part, many)
			}
		}
		for _, many := range []int{most + 1, most + 2, most + len(part)*1000} {
			check(t, s[:min(many, len(s))]+strings.Repeat(" ", max(0, many-len(s))), told{e: api.ErrLong})
		}
	}
	check(t, strings.Repeat("~", most+1), told{e: api.ErrLong})
	check(t, strings.Repeat(" ", most-1)+"~", told{at: most - 1, e: api.ErrWord})
	check(t, strings.Repeat("é", most/2), told{e: api.ErrWord}) // bytes are counted, not runes
	check(t, strings.Repeat("é", most/2)+"a", told{e: api.ErrLong})
	check(t, "#"+strings.Repeat("é", most/2), told{e: api.ErrLong})
	if got := lex(strings.Repeat("+", most)); len(got.l) != most || got.l[most-1] != (lexer.Token{Kind: lexer.Sign, At: most - 1, Text: "+"}) {
		t.Error(len(got.l))
	}
	if got := lex(strings.Repeat("z", most)); len(got.l) != 1 || len(got.l[0].Text) != most || got.l[0].Kind != lexer.Word {
		t.Error(len(got.l))
	}
}

// P30.1: all texts of at most so many of some parts.
func TestAllShort(t *testing.T) {
	parts := []string{"a", "z", "0", "9", " ", "\n", "\t", "\r", "#", "+", "-", "(", ";", "=", "<", "B", "~", "é", "\xe2", "\x00"}
	var more func(s string, many int)
	more = func(s string, many int) {
		like(t, s)
		for _, part := range parts {
			if many > 0 {
				more(s+part, many-1)
			}
		}
	}
	more("", 4)
}

// chance tells a text of parts that may be, now and then with one that may not.
func chance(c *rand.Rand) string {
	of := func(from string, many int) string {
		var b strings.Builder
		for range 1 + c.Intn(many) {
			b.WriteByte(from[c.Intn(len(from))])
		}
		return b.String()
	}
	var b strings.Builder
	for range c.Intn(30) {
		switch c.Intn(7) {
		case 0:
			b.WriteString(of(small, 12))
		case 1:
			b.WriteString(of(digits, 6+12*c.Intn(2)))
		case 2:
			b.WriteString(of(signs, 3))
		case 3, 4:
			b.WriteString(of(blanks, 3))
		case 5:
			b.WriteString("#" + of(small+signs+"\r ~A\xff\xc3\xa9", 10) + "\n")
		case 6:
			b.WriteString([]string{"box", "sum", "min", "max", "clamp"}[c.Intn(5)])
		}
		if c.Intn(100) == 0 {
			b.WriteByte(byte(c.Intn(256)))
		}
	}
	return b.String()
}

// P30.1, P30.3: by chance.
func TestByChance(t *testing.T) {
	c, wrong := rand.New(rand.NewSource(30)), 0
	for range 100000 {
		s := chance(c)
		like(t, s)
		if lex(s).e != api.OK {
			wrong++
			continue
		}
		again(t, s)
	}
	if wrong < 1000 || wrong > 50000 {
		t.Error("texts that may not be", wrong)
	}
}

// plain tells tokens without where they begin.
func plain(l []lexer.Token) []lexer.Token {
	l = slices.Clone(l)
	for i := range l {
		l[i].At = 0
	}
	return l
}

// again asks whether what is shown of a text has its tokens, and is shown as itself.
func again(t *testing.T, s string) {
	t.Helper()
	l := lex(s).l
	shown := lexer.Show(l)
	got := lex(shown)
	if got.e != api.OK || got.at != 0 || !slices.Equal(plain(got.l), plain(l)) {
		t.Fatalf("%q: %q, %d, %d", short(s), short(shown), got.at, int(got.e))
	}
	if lexer.Show(got.l) != shown || shown != strings.Join(texts(l), " ") {
		t.Fatalf("%q: %q", short(s), short(shown))
	}
}

// P30.3: what is shown has the same tokens.
func TestAgain(t *testing.T) {
	for _, s := range []string{
		"", " ", "#", "a", "a b", "ab", "a1", "1a", "1 2", nines + " " + nines, "007", "1+-1", "box 1=sum(base) ; # all", signs, small, "a#b\nc",
		strings.Repeat("+", api.MaxProgram/2), strings.Repeat("a1", api.MaxProgram/4), strings.Repeat("z", api.MaxProgram), strings.Repeat("1\n", api.MaxProgram/2),
	} {
		if e := lex(s).e; e != api.OK {
			t.Fatal(short(s), int(e))
		}
		again(t, s)
	}
}

// P30.2: texts, whatever else the tokens say, one blank between each two.
func TestShow(t *testing.T) {
	for want, l := range map[string][]lexer.Token{
		"":            nil,
		"a":           {{Kind: lexer.Word, Text: "a"}},
		"b 1":         {{Kind: lexer.Word, At: 9, Text: "b"}, {Kind: lexer.Int, At: 2, Text: "1", N: 5}},
		"( ( 12 ) )":  {{Text: "("}, {Text: "("}, {Text: "12"}, {Text: ")"}, {Text: ")"}},
		" ":           {{}, {Kind: lexer.Sign}},
		"  ":          {{}, {}, {}},
		"x  y":        {{Text: "x"}, {}, {Text: "y"}},
		"a b c # \n ": {{Text: "a b"}, {Kind: -1, At: math.MinInt, Text: "c"}, {Kind: math.MaxInt, N: math.MaxInt, Text: "#"}, {Text: "\n"}, {}},
		"\xff é":      {{Kind: 4, Text: "\xff"}, {Text: "é"}},
	} {
		was := slices.Clone(l)
		if got := lexer.Show(l); got != want {
			t.Errorf("%q, not %q", got, want)
		}
		if !slices.Equal(l, was) {
			t.Error("changed", l)
		}
	}
	if lexer.Show([]lexer.Token{}) != "" || lexer.Show([]lexer.Token{{}}) != "" {
		t.Error("nothing")
	}
}

// P30.2: the five keywords, and no other word.
func TestKeyword(t *testing.T) {
	five := strings.Fields("box sum min max clamp")
	for _, w := range five {
		if !lexer.Keyword(w) {
			t.Error(w)
		}
		for _, other := range []string{w[1:], w[:len(w)-1], w + "s", w + " ", " " + w, w + "\x00", strings.ToUpper(w), strings.ToUpper(w[:1]) + w[1:], w + w, w + "1"} {
			if lexer.Keyword(other) {
				t.Errorf("%q", other)
			}
		}
	}
	for _, w := range []string{"", " ", "a", "base", "tax", "deduct", "clam", "total", "least", "most", "1", "+", "\xff", "box sum", "bоx", strings.Repeat("box", 30000)} {
		if lexer.Keyword(w) {
			t.Errorf("%q", short(w))
		}
	}
	letters := strings.Split(small, "")
	for _, a := range letters {
		for _, b := range letters {
			for _, c := range letters {
				if w := a + b + c; lexer.Keyword(w) != slices.Contains(five, w) {
					t.Error(w)
				}
			}
		}
	}
}

// Rule 4: what is told is the caller's own.
func TestOwn(t *testing.T) {
	const s = "box 1 = 2;"
	l, _, _ := lexer.Lex(s)
	_ = append(l, lexer.Token{})
	clear(l)
	like(t, s)
}
