package record_test

import (
	"bytes"
	"math/big"
	"math/rand"
	"reflect"
	"slices"
	"strings"
	"testing"

	"octroi/api"
	"octroi/record"
)

// num, text and flag are the models of a number's, a text's and a flag's bytes.
func num(n int) []byte {
	size := new(big.Int).Abs(big.NewInt(int64(n))).Bytes()
	first := len(size)
	if n < 0 {
		first += 128
	}
	return append([]byte{byte(first)}, size...)
}

func text(s string) []byte { return append(num(len(s)), s...) }

func flag(b bool) []byte {
	if b {
		return []byte{1}
	}
	return []byte{0}
}

// fields tells the bytes of numbers, texts and flags, one behind the other.
func fields(l ...any) []byte {
	var b []byte
	for _, x := range l {
		switch x := x.(type) {
		case int:
			b = append(b, num(x)...)
		case string:
			b = append(b, text(x)...)
		case bool:
			b = append(b, flag(x)...)
		}
	}
	return b
}

// model is the model of a command's bytes, whether it may be or not.
func model(c api.Command) []byte {
	p := c.Period
	b := num(c.Kind)
	switch c.Kind {
	case api.CmdSetup:
		return append(b, fields(c.Country, c.Index, c.Day)...)
	case api.CmdRate:
		return append(b, fields(c.Country, c.Category, c.Day, c.Until, c.Bp)...)
	case api.CmdOpt:
		return append(b, fields(c.Day, c.Until)...)
	case api.CmdStatus:
		return append(b, fields(c.Country, c.Text, c.Day, c.Until)...)
	case api.CmdFx:
		return append(b, fields(c.Text, p.Year, p.Index, c.Num, c.Den)...)
	case api.CmdProgram:
		return append(b, fields(c.Text)...)
	case api.CmdShare:
		return append(b, fields(p.Year, c.Num)...)
	case api.CmdDoc:
		return append(b, docModel(c.Doc)...)
	case api.CmdClose, api.CmdFile:
		return append(b, fields(p.Kind, p.Year, p.Index)...)
	case api.CmdYear:
		return append(b, fields(p.Year)...)
	}
	return b
}

func docModel(d api.Doc) []byte {
	b := fields(d.ID, d.Sale, d.Credit, d.Refers, d.Day, d.Country, d.Number, d.Currency, len(d.Lines))
	for _, l := range d.Lines {
		b = append(b, fields(l.Supply, l.Category, l.From, l.To, l.Place, l.Amount, l.Gross, l.Cost, l.Mixed)...)
	}
	return b
}

// P8.2
func TestEncodeTold(t *testing.T) {
	for _, x := range []struct {
		c    api.Command
		want string
	}{
		{api.Command{Kind: api.CmdSetup, Country: "DE", Index: 1, Day: 0}, "\x01\x01\x01\x02DE\x01\x01\x00"},
		{api.Command{Kind: api.CmdRate, Country: "FR", Category: 2, Day: 1, Until: 300, Bp: 1900}, "\x01\x02\x01\x02FR\x01\x02\x01\x01\x02\x01\x2c\x02\x07\x6c"},
		{api.Command{Kind: api.CmdOpt, Day: 0, Until: 5}, "\x01\x03\x00\x01\x05"},
		{api.Command{Kind: api.CmdStatus, Country: "US", Text: "A1", Day: 7, Until: 8}, "\x01\x04\x01\x02US\x01\x02A1\x01\x07\x01\x08"},
		{api.Command{Kind: api.CmdFx, Text: "USD", Period: quarter(2024, 4), Num: 3, Den: 256}, "\x01\x05\x01\x03USD\x02\x07\xe8\x01\x04\x01\x03\x02\x01\x00"},
		{api.Command{Kind: api.CmdProgram, Text: ""}, "\x01\x06\x00"},
		{api.Command{Kind: api.CmdProgram, Text: "ab"}, "\x01\x06\x01\x02ab"},
		{api.Command{Kind: api.CmdShare, Period: year(2024), Num: 0}, "\x01\x07\x02\x07\xe8\x00"},
		{api.Command{Kind: api.CmdClose, Period: month(2024, 12)}, "\x01\x09\x01\x01\x02\x07\xe8\x01\x0c"},
		{api.Command{Kind: api.CmdFile, Period: quarter(2024, 1)}, "\x01\x0a\x01\x02\x02\x07\xe8\x01\x01"},
		{api.Command{Kind: api.CmdYear, Period: year(2024)}, "\x01\x0b\x02\x07\xe8"},
		{
			api.Command{Kind: api.CmdDoc, Doc: api.Doc{ID: "b", Credit: true, Refers: "a", Day: 9, Country: "US", Number: "7", Currency: "EUR", Lines: []api.Line{
				{Supply: api.SecondHand, Category: 5, From: "DE", To: "FR", Amount: 1000, Gross: true, Cost: 405, Mixed: true},
				{Supply: api.Property, Category: 1, Place: "AT", Amount: 0},
			}}},
			"\x01\x08" + "\x01\x01b" + "\x00\x01" + "\x01\x01a" + "\x01\x09" + "\x01\x02US" + "\x01\x017" + "\x01\x03EUR" + "\x01\x02" +
				"\x01\x07\x01\x05\x01\x02DE\x01\x02FR\x00\x02\x03\xe8\x01\x02\x01\x95\x01" +
				"\x01\x03\x01\x01\x00\x00\x01\x02AT\x00\x00\x00\x00",
		},
	} {
		b, e := record.Encode(x.c)
		if e != api.OK || string(b) != x.want {
			t.Errorf("%s: %v and %d, not %v", short(x.c), b, int(e), []byte(x.want))
		}
		c, e := record.Decode([]byte(x.want))
		if e != api.OK || !reflect.DeepEqual(c, x.c) {
			t.Errorf("%v: %s and %d", []byte(x.want), short(c), int(e))
		}
	}
}

// P8.2
func TestNoCommandsBytes(t *testing.T) {
	checkNone(t, nil)
	checkNone(t, []byte{})
	for first := range 256 {
		checkNone(t, []byte{byte(first)})
		checkNone(t, []byte{1, byte(first)})
		if first != api.CmdProgram {
			checkNone(t, []byte{1, byte(first), 0})
		}
	}
	for _, s := range []string{
		"\x02\x00\x0b\x02\x07\xe8", "\x01\x0b\x03\x00\x07\xe8", "\x01\x06\x80", "\x01\x06\x01\x00", "\x01\x06\x02\x00\x01a", // other ways to write a number
		"\x81\x0b\x02\x07\xe8", "\x01\x0b\x82\x07\xe8", "\x01\x06\x81\x01a", // below 0
		"\x08\x80\x00\x00\x00\x00\x00\x00\x00", "\x01\x0b\x09\x01\x00\x00\x00\x00\x00\x00\x07\xe8",
		"\x01\x0c", "\x00", "\x01\x0c\x02\x07\xe8", "\x02\x01\x0b\x02\x07\xe8", // no kind
	} {
		checkNone(t, []byte(s), s)
	}
}

// P8.2
func TestFlagsAreOneOrNought(t *testing.T) {
	b := model(api.Command{Kind: api.CmdDoc, Doc: sale()})
	for _, at := range []int{5, 6, len(b) - 1, len(b) - 3} { // Sale, Credit, Mixed, Gross
		check(t, b[at] <= 1, true, "a flag's byte", at)
		for x := 2; x < 256; x++ {
			other := slices.Clone(b)
			other[at] = byte(x)
			checkNone(t, other, at, x)
		}
	}
}

// P8.2
func TestHowManyLines(t *testing.T) {
	d := sale()
	d.Lines = nil
	head := append(num(api.CmdDoc), docModel(d)...)
	check(t, head[len(head)-1], 0, "how many lines stands last")
	head = head[:len(head)-1]
	line := model(api.Command{Kind: api.CmdDoc, Doc: sale()})[len(head)+len(num(1)):]
	for _, many := range []int{0, 1, 2, 63, 64, 65, 66, 255, 1 << 40, 1<<63 - 1, -1, -64, -1 << 62} {
		for _, lines := range []int{0, 1, 2, 63, 64, 65, 66} {
			b := slices.Concat(head, num(many), bytes.Repeat(line, lines))
			if many != lines || many < 1 || many > api.MaxLines {
				checkNone(t, b, many, lines)
				continue
			}
			c, e := record.Decode(b)
			check(t, e, api.OK, many)
			check(t, len(c.Doc.Lines), many)
		}
	}
}

// checkOne holds bytes to be no command's, or those of the command that they are.
func checkOne(t *testing.T, b []byte, what ...any) bool {
	t.Helper()
	c, e := record.Decode(b)
	if e != api.OK {
		checkNone(t, b, what)
		return false
	}
	check(t, record.Good(c), true, what, c)
	again, e := record.Encode(c)
	if e != api.OK || !bytes.Equal(again, b) {
		t.Fatalf("%s: %s is %s, whose bytes are %s and %d", short(what), short(b), short(c), short(again), int(e))
	}
	return true
}

// P8.2, P8.4
func TestBytesThatAreChanged(t *testing.T) {
	for _, c := range append(commands(), someDoc()) {
		b, _ := record.Encode(c)
		for i := range b {
			checkNone(t, b[:i], "too few of", c)
			checkOne(t, slices.Delete(slices.Clone(b), i, i+1), "one is lost", c)
			for x := range 256 {
				other := slices.Clone(b)
				other[i] = byte(x)
				checkOne(t, other, "another one", c)
				checkOne(t, slices.Insert(slices.Clone(b), i, byte(x)), "one more", c)
			}
		}
		for x := range 256 {
			checkNone(t, append(slices.Clone(b), byte(x)), "one is left", c)
		}
		for _, other := range commands() {
			tail, _ := record.Encode(other)
			checkNone(t, slices.Concat(b, tail), "two commands")
		}
	}
}

// someDoc tells a document that may be, with each sort of lines.
func someDoc() api.Command {
	d := api.Doc{ID: "2024/7", Credit: true, Refers: "2024/6", Day: 19782, Country: "IE", Number: "1+23456A", Currency: "USD"}
	for supply := 1; supply <= 7; supply++ {
		l := placed(supply)
		l.Category, l.Amount, l.Mixed = 1+supply%5, supply*99999, supply%2 == 0
		if supply == api.SecondHand {
			l.Cost = 405
		}
		d.Lines = append(d.Lines, l)
	}
	return api.Command{Kind: api.CmdDoc, Doc: d}
}

// P8.4
func TestBackByChance(t *testing.T) {
	c := rand.New(rand.NewSource(19))
	for range 20000 {
		checkMay(t, chanceCommand(c))
	}
}

// P8.4
func TestOneByChance(t *testing.T) {
	c, taken := rand.New(rand.NewSource(20)), 0
	for range 100000 {
		b := make([]byte, c.Intn(9))
		for i := range b {
			b[i] = byte(c.Intn(12))
		}
		if checkOne(t, append([]byte{1}, b...)) {
			taken++
		}
	}
	check(t, taken > 100, true, "bytes by chance that are a command's:", taken)
	for range 20000 {
		b, _ := record.Encode(chanceCommand(c))
		for range 1 + c.Intn(3) {
			b[c.Intn(len(b))] = byte(c.Intn(256))
		}
		checkOne(t, b)
	}
}

// pick tells one of some.
func pick[T any](c *rand.Rand, l ...T) T { return l[c.Intn(len(l))] }

// chanceCommand tells a command that may be.
func chanceCommand(c *rand.Rand) api.Command {
	told := commands()[c.Intn(11)]
	first := c.Intn(api.MaxDay + 1)
	until := first + c.Intn(api.MaxDay-first+1)
	weight := func() int { return 1 + c.Intn(pick(c, 300, 70000, api.MaxWeight)) }
	y := api.MinYear + c.Intn(api.MaxYear-api.MinYear+1)
	switch told.Kind {
	case api.CmdSetup:
		told.Country, told.Index, told.Day = pick(c, memberStates...), pick(c, 1, 2), first
	case api.CmdRate:
		told.Country, told.Category, told.Bp, told.Day, told.Until = pick(c, memberStates...), 1+c.Intn(3), c.Intn(api.MaxBp+1), first, until
	case api.CmdOpt, api.CmdStatus:
		told.Day, told.Until = first, until
	case api.CmdFx:
		told.Text, told.Period, told.Num, told.Den = pick(c, "EUR", "USD", "ABC"), quarter(y, 1+c.Intn(4)), weight(), weight()
	case api.CmdProgram:
		told.Text = strings.Repeat(pick(c, "x", "box", "\x00"), c.Intn(300))
	case api.CmdShare:
		told.Period, told.Num = year(y), c.Intn(101)
	case api.CmdDoc:
		told.Doc = chanceDoc(c, first)
	case api.CmdClose, api.CmdFile:
		told.Period = pick(c, quarter(y, 1+c.Intn(4)), month(y, 1+c.Intn(12)))
	case api.CmdYear:
		told.Period = year(y)
	}
	return told
}

// chanceDoc tells a document that may be.
func chanceDoc(c *rand.Rand, day int) api.Doc {
	d := api.Doc{
		ID: strings.Repeat(pick(c, "a", "\xff", "7"), 1+c.Intn(api.MaxName)), Sale: pick(c, true, false), Day: day,
		Country: pick(c, "DE", "US", "ZZ"), Currency: pick(c, "", "EUR", "USD"),
	}
	if c.Intn(2) == 0 {
		d.Number = "123456789"
	}
	if c.Intn(3) == 0 {
		d.Credit, d.Refers = true, strings.Repeat("r", 1+c.Intn(api.MaxName))
	}
	for range 1 + c.Intn(pick(c, 3, api.MaxLines)) {
		l := placed(1 + c.Intn(7))
		l.Category, l.Amount = 1+c.Intn(5), c.Intn(pick(c, 3, 70000, api.MaxWeight+1))
		l.Gross, l.Mixed = l.Gross || c.Intn(2) == 0, !d.Sale && c.Intn(2) == 0
		if l.Supply == api.SecondHand {
			l.Cost = c.Intn(api.MaxWeight + 1)
		}
		d.Lines = append(d.Lines, l)
	}
	return d
}

// P8.3
func TestSame(t *testing.T) {
	l := append(commands(), someDoc(), api.Command{}, api.Command{Kind: -1, Den: -5})
	for i, a := range l {
		for k := range l {
			b := append(commands(), someDoc(), api.Command{}, api.Command{Kind: -1, Den: -5})[k]
			check(t, record.Same(a, b), i == k, a, b)
			check(t, record.SameDoc(a.Doc, b.Doc), reflect.DeepEqual(a.Doc, b.Doc), a, b)
		}
	}
	empty := api.Command{Doc: api.Doc{Lines: []api.Line{}}}
	check(t, record.Same(empty, api.Command{}), true, "a list without an element is nil or empty")
	check(t, record.SameDoc(api.Doc{}, empty.Doc), true, "a list without an element is nil or empty")
}

// others tells a struct, or what stands in it, each time with another field that is not as it was.
func others(at reflect.Value, told func()) {
	switch at.Kind() {
	case reflect.Struct:
		for i := range at.NumField() {
			others(at.Field(i), told)
		}
		return
	case reflect.Slice:
		was := slices.Clone(at.Interface().([]api.Line))
		for i := range at.Len() {
			others(at.Index(i), told)
		}
		for _, l := range [][]api.Line{was[:max(1, len(was))-1], append(slices.Clone(was), api.Line{}), append([]api.Line{{}}, was...)} {
			if len(l) != len(was) {
				at.Set(reflect.ValueOf(l))
				told()
			}
		}
		at.Set(reflect.ValueOf(was))
		return
	}
	was := reflect.ValueOf(at.Interface())
	switch x := at.Addr().Interface().(type) {
	case *int:
		*x += 256
	case *string:
		*x += "x"
	case *bool:
		*x = !*x
	}
	told()
	at.Set(was)
}

// P8.3
func TestEachFieldIsAsked(t *testing.T) {
	count := 0
	for _, a := range append(commands(), someDoc(), api.Command{}) {
		b := a
		b.Doc.Lines = slices.Clone(a.Doc.Lines)
		others(reflect.ValueOf(&b).Elem(), func() {
			count++
			check(t, record.Same(a, b), false, a, b)
			check(t, record.Same(b, a), false, b, a)
			docs := reflect.DeepEqual(plain(a).Doc, plain(b).Doc)
			check(t, record.SameDoc(a.Doc, b.Doc), docs, a, b)
			check(t, record.SameDoc(b.Doc, a.Doc), docs, b, a)
		})
		check(t, record.Same(a, b), true, "as it was", a, b)
	}
	check(t, count > 13*22, true, count)
}

// P8.3
func TestLinesInAnotherOrder(t *testing.T) {
	a, b := someDoc(), someDoc()
	b.Doc.Lines[0], b.Doc.Lines[1] = b.Doc.Lines[1], b.Doc.Lines[0]
	check(t, record.Same(a, b), false, "another order")
	check(t, record.SameDoc(a.Doc, b.Doc), false, "another order")
}

// P8.2
func TestWhatIsHandedInStays(t *testing.T) {
	c := someDoc()
	room := append(slices.Clone(c.Doc.Lines), goods(), goods())
	c.Doc.Lines = room[:7]
	want := slices.Clone(room)
	b, e := record.Encode(c)
	check(t, e, api.OK)
	kept := slices.Clone(b)
	record.Same(c, someDoc())
	check(t, slices.Equal(room, want), true, "the lines and what is behind them")
	told, e := record.Decode(b[:len(b):len(b)])
	check(t, e, api.OK)
	check(t, bytes.Equal(b, kept), true, "the bytes")
	clear(b)
	clear(told.Doc.Lines[:cap(told.Doc.Lines)])
	again, _ := record.Decode(kept)
	check(t, record.Same(again, c), true, "what was told is nobody else's")
	long := append(slices.Clone(kept), 9, 9, 9)
	again, e = record.Decode(long[:len(kept)])
	check(t, e, api.OK, "what is behind the list's length is not read")
	check(t, record.Same(again, c), true)
}
