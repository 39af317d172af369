package vatid_test

import (
	"math/rand"
	"regexp"
	"slices"
	"strings"
	"testing"

	"octroi/api"
	"octroi/vatid"
)

// memberList and formText are the document's own words.
const (
	memberList = "AT BE BG CY CZ DE DK EE EL ES FI FR HR HU IE IT LT LU LV MT NL PL PT RO SE SI SK"
	formText   = "AT U99999999; BE 0999999999, 1999999999; BG 999999999, 9999999999; CY 99999999A; CZ 99999999, 999999999, 9999999999; DE 999999999; DK 99999999; EE 999999999; EL 999999999; ES X9999999X; FI 99999999; FR XX999999999; HR 99999999999; HU 99999999; IE 9+99999A, 9999999AA; IT 99999999999; LT 999999999, 999999999999; LU 99999999; LV 99999999999; MT 99999999; NL 999999999B99; PL 9999999999; PT 999999999; RO 99, 999, 9999, 99999, 999999, 9999999, 99999999, 999999999, 9999999999; SE 999999999999; SI 99999999; SK 9999999999"

	letters = "ABCDEFGHIJKLMNOPQRSTUVWXYZ"
	digits  = "0123456789"
)

// noCountries are texts that are none.
var noCountries = []string{"", "D", "DEU", "de", "De", "dE", "D ", " D", " DE", "DE ", "D1", "1D", "11", "D.", "@A", "A[", "Ä", "\x00\x00", "D\x00", "\xc4E", "T B", "AT BE", "DEDE", memberList}

// thirds are countries that are no member states.
var thirds = []string{"US", "GB", "GR", "CH", "NO", "XI", "AA", "ZZ", "TB", "EB"}

func check[T comparable](t *testing.T, got, want T, what ...any) {
	t.Helper()
	if got != want {
		t.Fatalf("%q: %v, not %v", what, got, want)
	}
}

// members tells the member states, as the document lists them.
func members() []string { return strings.Split(memberList, " ") }

// forms tells each member state's forms, as the document lists them.
func forms() map[string][]string {
	told := map[string][]string{}
	for _, x := range strings.Split(formText, "; ") {
		told[x[:2]] = strings.Split(x[3:], ", ")
	}
	return told
}

// eachPair tells each text of two bytes.
func eachPair(yield func(c string) bool) {
	for i := range 1 << 16 {
		if !yield(string([]byte{byte(i >> 8), byte(i)})) {
			return
		}
	}
}

// model is the form as a regular expression.
func model(form string) *regexp.Regexp {
	sorts := map[rune]string{'9': "[0-9]", 'X': "[A-Z0-9]", 'A': "[A-Z]", '+': "[A-Z0-9+*]"}
	var s strings.Builder
	s.WriteString(`\A`)
	for _, mark := range form {
		if sort, is := sorts[mark]; is {
			s.WriteString(sort)
		} else {
			s.WriteString(regexp.QuoteMeta(string(mark)))
		}
	}
	s.WriteString(`\z`)
	return regexp.MustCompile(s.String())
}

// models tells the models of each member state's numbers, and, of no state, that of all other countries' ones.
func models() map[string][]*regexp.Regexp {
	told := map[string][]*regexp.Regexp{"": {regexp.MustCompile(`\A[A-Z0-9]{1,20}\z`)}}
	for c, l := range forms() {
		for _, form := range l {
			told[c] = append(told[c], model(form))
		}
	}
	return told
}

// right is the model of Right.
func right(held map[string][]*regexp.Regexp, c, number string) bool {
	l, is := held[c]
	if !is {
		l = held[""]
	}
	return isPair(c) && slices.ContainsFunc(l, func(x *regexp.Regexp) bool { return x.MatchString(number) })
}

// isPair tells whether a text is two letters.
func isPair(c string) bool {
	return len(c) == 2 && strings.IndexByte(letters, c[0]) >= 0 && strings.IndexByte(letters, c[1]) >= 0
}

// filled tells a number of a form, by chance.
func filled(c *rand.Rand, form string) string {
	sorts := map[byte]string{'9': digits, 'X': letters + digits, 'A': letters, '+': letters + digits + "+*"}
	b := []byte(form)
	for i := range b {
		if s := sorts[form[i]]; s != "" {
			b[i] = s[c.Intn(len(s))]
		}
	}
	return string(b)
}

// changed tells a text with another byte.
func changed(s string, i int, b byte) string { return s[:i] + string([]byte{b}) + s[i+1:] }

// P7.1
func TestCountry(t *testing.T) {
	for c := range eachPair {
		check(t, vatid.Country(c), isPair(c), c)
	}
	for _, c := range append(members(), thirds...) {
		check(t, vatid.Country(c), true, c)
	}
	for _, c := range noCountries {
		check(t, vatid.Country(c), false, c)
	}
}

// P7.1
func TestMember(t *testing.T) {
	count := 0
	for c := range eachPair {
		check(t, vatid.Member(c), slices.Contains(members(), c), c)
		if vatid.Member(c) {
			count++
		}
	}
	check(t, count, 27, "member states")
	for _, c := range append(noCountries, thirds...) {
		check(t, vatid.Member(c), false, c)
	}
}

// P7.1
func TestMembers(t *testing.T) {
	first := vatid.Members()
	check(t, strings.Join(first, " "), memberList, "in their order")
	clear(first[:cap(first)])
	check(t, strings.Join(vatid.Members(), " "), memberList, "what was told is nobody else's")
}

type zoneAnswer struct {
	zone int
	e    api.Errno
}

func toldZone(zone int, e api.Errno) zoneAnswer { return zoneAnswer{zone, e} }

// P7.1
func TestZone(t *testing.T) {
	wrong := zoneAnswer{0, api.ErrName}
	for _, home := range members() {
		for _, c := range members() {
			want := zoneAnswer{api.ZoneUnion, api.OK}
			if c == home {
				want = zoneAnswer{api.ZoneHome, api.OK}
			}
			check(t, toldZone(vatid.Zone(home, c)), want, home, c)
		}
		for _, c := range thirds {
			check(t, toldZone(vatid.Zone(home, c)), zoneAnswer{api.ZoneThird, api.OK}, home, c)
		}
		for _, c := range noCountries {
			check(t, toldZone(vatid.Zone(home, c)), wrong, home, c)
		}
	}
	for _, home := range append(noCountries, thirds...) {
		for _, c := range append(append([]string{home}, noCountries...), "DE", "FR", "US") {
			check(t, toldZone(vatid.Zone(home, c)), wrong, home, c)
		}
	}
}

// P7.2
func TestForms(t *testing.T) {
	for c := range eachPair {
		if got, want := vatid.Forms(c), forms()[c]; !slices.Equal(got, want) {
			t.Errorf("%q: %q, not %q", c, got, want)
		}
	}
	check(t, len(forms()), len(members()), "states with forms")
	for _, c := range append(noCountries, thirds...) {
		check(t, len(vatid.Forms(c)), 0, c)
	}
	for _, c := range members() {
		l := vatid.Forms(c)
		clear(l[:cap(l)])
		if !slices.Equal(vatid.Forms(c), forms()[c]) {
			t.Error("what was told is nobody else's:", c)
		}
	}
}

// P7.2
func TestRightTold(t *testing.T) {
	for _, x := range []struct {
		c, number string
		want      bool
	}{
		{"DE", "123456789", true}, {"DE", "12345678", false}, {"DE", "1234567890", false}, {"DE", "", false},
		{"DE", "12345678A", false}, {"DE", "DE123456789", false}, {"DE", " 23456789", false}, {"de", "123456789", false},
		{"AT", "U12345678", true}, {"AT", "u12345678", false}, {"AT", "X12345678", false}, {"AT", "912345678", false}, {"AT", "U1234567", false},
		{"BE", "0123456789", true}, {"BE", "1123456789", true}, {"BE", "2123456789", false}, {"BE", "123456789", false},
		{"CY", "12345678A", true}, {"CY", "123456789", false}, {"CY", "12345678a", false},
		{"CZ", "1234567", false}, {"CZ", "12345678", true}, {"CZ", "123456789", true}, {"CZ", "1234567890", true}, {"CZ", "12345678901", false},
		{"ES", "A1234567B", true}, {"ES", "112345671", true}, {"ES", "A12345678", true}, {"ES", "AB234567C", false}, {"ES", "A1234567+", false},
		{"FR", "XX123456789", true}, {"FR", "1A123456789", true}, {"FR", "123456789", false},
		{"IE", "1+23456A", true}, {"IE", "1*23456A", true}, {"IE", "1A23456A", true}, {"IE", "1234567A", true}, {"IE", "1234567AB", true},
		{"IE", "1-23456A", false}, {"IE", "1+234567", false}, {"IE", "+123456A", false}, {"IE", "1+23456AB", false}, {"IE", "1a23456A", false},
		{"LT", "123456789", true}, {"LT", "1234567890", false}, {"LT", "123456789012", true},
		{"NL", "123456789B01", true}, {"NL", "123456789A01", false}, {"NL", "123456789901", false},
		{"RO", "1", false}, {"RO", "12", true}, {"RO", "123456", true}, {"RO", "1234567890", true}, {"RO", "12345678901", false},
		{"EL", "123456789", true}, {"GR", "123456789", true}, {"GR", "+23456789", false},
		{"US", "A", true}, {"US", "0", true}, {"US", "", false}, {"US", "AB12", true}, {"US", "a", false}, {"US", "A-1", false}, {"US", "A 1", false},
		{"US", strings.Repeat("9", 20), true}, {"US", strings.Repeat("Z", 20), true}, {"US", strings.Repeat("9", 21), false},
		{"US", "\xff", false}, {"US", "Ä", false}, {"US", "\x00", false}, {"US", "1+", false}, {"US", "1*", false},
	} {
		check(t, vatid.Right(x.c, x.number), x.want, x.c, x.number)
	}
	for _, c := range noCountries {
		for _, number := range []string{"", "A", "1", "123456789", "U12345678", "12345678"} {
			check(t, vatid.Right(c, number), false, c, number)
		}
	}
}

// P7.2
func TestRightOfEachForm(t *testing.T) {
	c, held := rand.New(rand.NewSource(15)), models()
	for state, l := range forms() {
		for _, form := range l {
			for range 20 {
				number := filled(c, form)
				check(t, vatid.Right(state, number), true, state, number)
				for _, other := range []string{number[1:], number[:len(number)-1], number + "0", number + "A", number + " ", "0" + number, "A" + number, state + number} {
					check(t, vatid.Right(state, other), right(held, state, other), state, other)
				}
			}
			number := filled(c, form)
			for i := range number {
				for b := range 256 {
					other := changed(number, i, byte(b))
					check(t, vatid.Right(state, other), right(held, state, other), state, other)
				}
			}
		}
	}
}

// P7.2
func TestRightOfOtherStatesForms(t *testing.T) {
	c, held := rand.New(rand.NewSource(16)), models()
	for _, state := range append(members(), thirds...) {
		for _, others := range forms() {
			for _, form := range others {
				for range 5 {
					number := filled(c, form)
					check(t, vatid.Right(state, number), right(held, state, number), state, number)
				}
			}
		}
		for n := range 24 {
			for _, number := range []string{strings.Repeat("7", n), strings.Repeat("Q", n)} {
				check(t, vatid.Right(state, number), right(held, state, number), state, number)
			}
		}
	}
}

// P7.2
func TestRightOfThirds(t *testing.T) {
	held := models()
	for _, c := range thirds {
		for _, number := range []string{"A", "0", "AB12CD34", strings.Repeat("9A", 10)} {
			for i := range number {
				for b := range 256 {
					other := changed(number, i, byte(b))
					check(t, vatid.Right(c, other), right(held, c, other), c, other)
				}
			}
		}
	}
}

type cleanAnswer struct {
	c, number string
	e         api.Errno
}

func toldClean(c, number string, e api.Errno) cleanAnswer { return cleanAnswer{c, number, e} }

// P7.3
func TestCleanTold(t *testing.T) {
	for _, x := range []struct{ s, c, number string }{
		{"be 0123.456.789", "BE", "0123456789"},
		{"DE123456789", "DE", "123456789"},
		{"de-123/456 789", "DE", "123456789"},
		{" . - / d.e/1 2-3.4/5 6-7.8/9 ./-", "DE", "123456789"},
		{"atu12345678", "AT", "U12345678"},
		{"nl123456789b01", "NL", "123456789B01"},
		{"ie1+23456a", "IE", "1+23456A"},
		{"ie 1*23456-z", "IE", "1*23456Z"},
		{"us-1", "US", "1"},
		{"us" + strings.Repeat("z", 20), "US", strings.Repeat("Z", 20)},
		{"ro12", "RO", "12"},
	} {
		check(t, toldClean(vatid.Clean(x.s)), cleanAnswer{x.c, x.number, api.OK}, x.s)
	}
	for _, s := range []string{
		"", " ", "./- ", "D", "d ", "DE", "us", "US ", "1", "12", "D1", "1D23456789", "123456789", // no country, or no number
		"DE12345678", "DE1234567890", "DE 12345678A", "USA+", "us" + strings.Repeat("z", 21), "RO1", // numbers that are not right
		"DE\t123456789", "DE123456789\n", "DE,123456789", "DE_123456789", "DE\\123456789", "DE123\x00456789", "DE 1+23456A", // what is not taken away
		"\u00a0DE123456789", "ＤＥ123456789", "DE１23456789", "ſK1234567890", "K1A", "\xffDE123456789", "US\xff", "usä", "usı",
	} {
		check(t, toldClean(vatid.Clean(s)), cleanAnswer{"", "", api.ErrName}, s)
	}
}

// clean is the model of Clean.
func clean(s string, held map[string][]*regexp.Regexp) cleanAnswer {
	var kept []byte
	for _, b := range []byte(s) {
		if b >= 97 && b <= 122 {
			b -= 32
		}
		if b != 32 && b != 46 && b != 45 && b != 47 {
			kept = append(kept, b)
		}
	}
	if len(kept) < 2 || !right(held, string(kept[:2]), string(kept[2:])) {
		return cleanAnswer{e: api.ErrName}
	}
	return cleanAnswer{string(kept[:2]), string(kept[2:]), api.OK}
}

// P7.3
func TestCleanOfEachByte(t *testing.T) {
	held := models()
	for _, s := range []string{"DE123456789", "ATU12345678", "IE1+23456A", "NL123456789B01", "USABC123", "US" + strings.Repeat("1", 19)} {
		for i := range s {
			for b := range 256 {
				for _, other := range []string{changed(s, i, byte(b)), s[:i] + string([]byte{byte(b)}) + s[i:], s + string([]byte{byte(b)})} {
					check(t, toldClean(vatid.Clean(other)), clean(other, held), other)
				}
			}
		}
	}
}

// P7.3, P7.4
func TestCleanByChance(t *testing.T) {
	c, held := rand.New(rand.NewSource(17)), models()
	for state, l := range forms() {
		for _, form := range l {
			for range 100 {
				number := filled(c, form)
				check(t, toldClean(vatid.Clean(spoiled(c, state+number))), cleanAnswer{state, number, api.OK}, state, number)
			}
		}
	}
	some := "DEATIUSE0123+* .-/abz\xc3\x84@[`{"
	for range 200000 {
		b := make([]byte, c.Intn(14))
		for i := range b {
			b[i] = some[c.Intn(len(some))]
		}
		s := string(b)
		if c.Intn(2) == 0 {
			s = []string{"de", "US", "iE", "a.T"}[c.Intn(4)] + s
		}
		got := toldClean(vatid.Clean(s))
		check(t, got, clean(s, held), s)
		if got.e == api.OK {
			check(t, toldClean(vatid.Clean(got.c+got.number)), got, "again", s)
		}
	}
}

// spoiled tells a text with small letters and with what is taken away, by chance.
func spoiled(c *rand.Rand, s string) string {
	var b strings.Builder
	for _, x := range []byte(s) {
		for c.Intn(3) == 0 {
			b.WriteByte(" .-/"[c.Intn(4)])
		}
		if c.Intn(2) == 0 {
			b.WriteString(strings.ToLower(string(x)))
		} else {
			b.WriteByte(x)
		}
	}
	return b.String() + strings.Repeat("-", c.Intn(3))
}

// P7.4
func TestCleanAgain(t *testing.T) {
	c := rand.New(rand.NewSource(18))
	for state, l := range forms() {
		for _, form := range l {
			number := filled(c, form)
			check(t, toldClean(vatid.Clean(state+number)), cleanAnswer{state, number, api.OK}, state, number)
		}
	}
	for _, state := range thirds {
		for n := 1; n <= 20; n++ {
			number := filled(c, strings.Repeat("X", n))
			check(t, toldClean(vatid.Clean(state+number)), cleanAnswer{state, number, api.OK}, state, number)
		}
	}
}
