package ids_test

import (
	"math"
	"math/rand"
	"reflect"
	"slices"
	"strconv"
	"strings"
	"testing"

	"octroi/api"
	"octroi/ids"
)

var (
	either = []bool{false, true}
	noIDs  = []string{"", "A", "b", "a ", " a", "a\x00", "\x00", "\xff", "x", strings.Repeat("a", 64), strings.Repeat("a", 65)} // where a alone is there
)

// model is a set, word for word as the document says it: documents, in the order in which they came.
type model struct{ docs []api.Doc }

func (m *model) get(id string) (api.Doc, bool) {
	for _, d := range m.docs {
		if d.ID == id {
			return d, true
		}
	}
	return api.Doc{}, false
}

// check is Check, of a document that may be, or not.
func (m *model) check(d api.Doc, may bool) api.Errno {
	if !may {
		return api.ErrArg
	}
	if _, there := m.get(d.ID); there {
		return api.ErrTwice
	}
	if !d.Credit {
		return api.OK
	}
	of, there := m.get(d.Refers)
	if !there || of.Credit || of.Sale != d.Sale || of.Country != d.Country || of.Number != d.Number || of.Currency != d.Currency || of.Day > d.Day {
		return api.ErrRef
	}
	return api.OK
}

func (m *model) put(d api.Doc, may bool) api.Errno {
	e := m.check(d, may)
	if e == api.OK {
		m.docs = append(m.docs, d)
	}
	return e
}

func (m *model) credits(id string) []string {
	var l []string
	for _, d := range m.docs {
		if d.Credit && d.Refers == id {
			l = append(l, d.ID)
		}
	}
	return l
}

// same asks whether a set is its model: of the IDs that are there, and of some that are not.
func same(t *testing.T, s *ids.Set, m *model) {
	t.Helper()
	if s.Len() != len(m.docs) {
		t.Fatal("len", s.Len(), len(m.docs))
	}
	l := slices.Clone(noIDs)
	for _, d := range m.docs {
		l = append(l, d.ID)
	}
	for _, id := range l {
		d, there := s.Get(id)
		want, is := m.get(id)
		if there != is || !reflect.DeepEqual(d, want) {
			t.Fatalf("get %q: %v and %v, not %v", id, d, there, want)
		}
		if got, want := s.Credits(id), m.credits(id); !slices.Equal(got, want) {
			t.Fatalf("credits %q: %q, not %q", id, got, want)
		}
	}
}

// step puts a document, and asks ahead of that what Check tells of it, twice, since that changes nothing.
func step(t *testing.T, s *ids.Set, m *model, d api.Doc, may bool) api.Errno {
	t.Helper()
	want := m.check(d, may)
	for range 2 {
		if e := s.Check(d); e != want {
			t.Fatalf("check %v: %d, not %d", d, int(e), int(want))
		}
	}
	same(t, s, m)
	if e := s.Put(d); e != want {
		t.Fatalf("put %v: %d, not %d", d, int(e), int(want))
	}
	m.put(d, may)
	same(t, s, m)
	return want
}

// service tells a line that may be.
func service(amount int) api.Line {
	return api.Line{Supply: api.Service, Category: api.Standard, Amount: amount}
}

// doc tells a document that may be, and is no credit.
func doc(id string) api.Doc {
	return api.Doc{ID: id, Sale: true, Day: 19000, Country: "DE", Number: "123456789", Currency: "USD", Lines: []api.Line{service(1000)}}
}

// credit tells one that refers to another.
func credit(id, refers string) api.Doc {
	return changed(doc(id), func(d *api.Doc) { d.Credit, d.Refers = true, refers })
}

// changed tells a document that is another one, but for what is changed.
func changed(d api.Doc, change func(d *api.Doc)) api.Doc {
	d.Lines = slices.Clone(d.Lines)
	change(&d)
	return d
}

// with tells a set in which some documents are, and its model.
func with(t *testing.T, l ...api.Doc) (*ids.Set, *model) {
	t.Helper()
	s, m := ids.New(), &model{}
	for _, d := range l {
		if e := step(t, s, m, d, true); e != api.OK {
			t.Fatal(d.ID, int(e))
		}
	}
	return s, m
}

// mayNot tells documents that may not be: each is the one that is handed in, but for one thing.
func mayNot(from api.Doc) []api.Doc {
	var l []api.Doc
	for _, change := range []func(d *api.Doc){
		func(d *api.Doc) { d.ID = "" },
		func(d *api.Doc) { d.ID = strings.Repeat("a", api.MaxName+1) },
		func(d *api.Doc) { d.Credit = !d.Credit },
		func(d *api.Doc) { d.Credit, d.Refers = true, strings.Repeat("a", api.MaxName+1) },
		func(d *api.Doc) { d.Day = -1 },
		func(d *api.Doc) { d.Day = api.MaxDay + 1 },
		func(d *api.Doc) { d.Day = math.MinInt },
		func(d *api.Doc) { d.Country = "" },
		func(d *api.Doc) { d.Country = "de" },
		func(d *api.Doc) { d.Number = "12345678" },
		func(d *api.Doc) { d.Currency = "usd" },
		func(d *api.Doc) { d.Currency = "US" },
		func(d *api.Doc) { d.Lines = nil },
		func(d *api.Doc) { d.Lines = slices.Repeat(d.Lines, api.MaxLines+1) },
		func(d *api.Doc) { d.Lines[0].Supply = 0 },
		func(d *api.Doc) { d.Lines[0].Category = 6 },
		func(d *api.Doc) { d.Lines[0].Amount = -1 },
		func(d *api.Doc) { d.Lines = append(d.Lines, api.Line{}) },
	} {
		l = append(l, changed(from, change))
	}
	return append(l, api.Doc{}, api.Doc{ID: from.ID})
}

// P29.1: none is there at first.
func TestNew(t *testing.T) {
	s := ids.New()
	if s == nil || s == ids.New() {
		t.Fatal("new")
	}
	same(t, s, &model{docs: nil})
	if e := s.Put(doc("a")); e != api.OK {
		t.Error(int(e))
	}
	same(t, ids.New(), &model{}) // another one has nothing of it
}

// P29.1, P29.2: the example.
func TestTold(t *testing.T) {
	s := ids.New()
	for i, x := range []struct {
		d    api.Doc
		want api.Errno
	}{{doc("a"), api.OK}, {credit("b", "a"), api.OK}, {credit("c", "x"), api.ErrRef}, {doc("a"), api.ErrTwice}} {
		if e := s.Check(x.d); e != x.want {
			t.Error(i, int(e))
		}
		if e := s.Put(x.d); e != x.want {
			t.Error(i, int(e))
		}
	}
	if l := s.Credits("a"); s.Len() != 2 || !slices.Equal(l, []string{"b"}) {
		t.Error(s.Len(), l)
	}
	if d, there := s.Get("b"); !there || !reflect.DeepEqual(d, credit("b", "a")) {
		t.Error(d, there)
	}
	if d, there := s.Get("c"); there || !reflect.DeepEqual(d, api.Doc{}) {
		t.Error(d, there)
	}
}

// P29.1: what may not be is so, whatever is there.
func TestMayNot(t *testing.T) {
	for _, there := range [][]api.Doc{nil, {doc("a")}, {doc("a"), credit("b", "a")}} {
		s, m := with(t, there...)
		for _, from := range []api.Doc{doc("a"), doc("c"), credit("b", "a"), credit("c", "a"), credit("c", "b"), credit("c", "x")} {
			for _, d := range mayNot(from) {
				if e := step(t, s, m, d, false); e != api.ErrArg {
					t.Fatal(d, int(e))
				}
			}
		}
	}
}

// P29.1, P29.3: an ID that is there, whoever has it, and whatever the document refers to.
func TestTwice(t *testing.T) {
	s, m := with(t, doc("a"), credit("b", "a"), doc("d"))
	for _, id := range []string{"a", "b", "d"} {
		for _, refers := range []string{"a", "b", "d", "x", id} {
			if e := step(t, s, m, credit(id, refers), true); e != api.ErrTwice {
				t.Error(id, refers, int(e))
			}
		}
		for _, d := range []api.Doc{doc(id), changed(doc(id), func(d *api.Doc) { d.Sale, d.Country, d.Number, d.Day = false, "US", "", 0 })} {
			if e := step(t, s, m, d, true); e != api.ErrTwice {
				t.Error(id, int(e))
			}
		}
	}
	for _, id := range []string{"A", "a ", " a", "a\x00", "aa", "\xff", "\xff\xfe", "ä", strings.Repeat("a", api.MaxName)} { // others, byte by byte
		if e := step(t, s, m, doc(id), true); e != api.OK {
			t.Errorf("%q %d", id, int(e))
		}
	}
}

// P29.1: a credit of what is not there.
func TestRefersToNone(t *testing.T) {
	s, m := with(t, doc("a"), doc(strings.Repeat("y", api.MaxName)))
	for _, refers := range []string{"x", "A", "a ", " a", "a\x00", "aa", "c", "\xff", strings.Repeat("y", api.MaxName-1)} {
		if e := step(t, s, m, credit("c", refers), true); e != api.ErrRef {
			t.Errorf("%q %d", refers, int(e))
		}
	}
	if e := step(t, s, m, credit("c", strings.Repeat("y", api.MaxName)), true); e != api.OK {
		t.Error(int(e))
	}
	if e := step(t, ids.New(), &model{}, credit("c", "a"), true); e != api.ErrRef {
		t.Error(int(e))
	}
}

// P29.1: a credit of a credit.
func TestRefersToACredit(t *testing.T) {
	s, m := with(t, doc("a"), credit("b", "a"))
	for _, id := range []string{"c", "d"} {
		if e := step(t, s, m, credit(id, "b"), true); e != api.ErrRef {
			t.Error(id, int(e))
		}
		if e := step(t, s, m, credit(id, "a"), true); e != api.OK {
			t.Error(id, int(e))
		}
		if e := step(t, s, m, credit("e", id), true); e != api.ErrRef {
			t.Error(id, int(e))
		}
	}
}

// deals tells documents that are alike, but for all that a credit must have in common with what it refers to.
func deals(id string) []api.Doc {
	var l []api.Doc
	for _, sale := range either {
		for _, country := range []string{"DE", "EE", "EL", "US"} { // a number may be right for all of them
			for _, number := range []string{"", "123456789", "123456788"} {
				for _, currency := range []string{"", "USD", "EUR"} {
					l = append(l, changed(doc(id), func(d *api.Doc) {
						d.Sale, d.Country, d.Number, d.Currency = sale, country, number, currency
					}))
				}
			}
		}
	}
	return l
}

// P29.1: one of each sort, and a credit of each sort.
func TestInCommon(t *testing.T) {
	for i, of := range deals("a") {
		for j, d := range deals("b") {
			d.Credit, d.Refers = true, "a"
			s, m := with(t, of)
			if e := step(t, s, m, d, true); e == api.OK != (i == j) {
				t.Fatal(of, d, int(e))
			}
		}
	}
}

// P29.1: a credit of what is of a day behind its own, of the same one, and ahead of it.
func TestDays(t *testing.T) {
	days := []int{0, 1, 2, 18999, 19000, 19001, api.MaxDay - 1, api.MaxDay}
	for _, day := range days {
		for _, on := range days {
			s, m := with(t, changed(doc("a"), func(d *api.Doc) { d.Day = day }))
			want := api.OK
			if day > on {
				want = api.ErrRef
			}
			if e := step(t, s, m, changed(credit("b", "a"), func(d *api.Doc) { d.Day = on }), true); e != want {
				t.Error(day, on, int(e))
			}
			if e := step(t, s, m, changed(doc("c"), func(d *api.Doc) { d.Day = on }), true); e != api.OK { // no credit
				t.Error(day, on, int(e))
			}
		}
	}
}

// P29.1: lines need not be the same, nor be less than what is taken back.
func TestLinesAreNotAsked(t *testing.T) {
	s, m := with(t, doc("a"))
	for i, l := range [][]api.Line{{service(0)}, {service(1001)}, {service(api.MaxWeight)}, slices.Repeat([]api.Line{service(7)}, api.MaxLines)} {
		if e := step(t, s, m, changed(credit("b"+strconv.Itoa(i), "a"), func(d *api.Doc) { d.Lines = l }), true); e != api.OK {
			t.Error(i, int(e))
		}
	}
}

// P29.2: credits in the order in which they came, not in that of their IDs, days or lines.
func TestCredits(t *testing.T) {
	s, m := with(t, doc("a"), doc("b"))
	c := rand.New(rand.NewSource(29))
	var want [2][]string
	for _, i := range c.Perm(300) {
		id, of := strconv.Itoa(i), c.Intn(2)
		want[of] = append(want[of], id)
		d := changed(credit(id, []string{"a", "b"}[of]), func(d *api.Doc) { d.Day += c.Intn(100) })
		if e := s.Put(d); e != api.OK {
			t.Fatal(id, int(e))
		}
		m.put(d, true)
	}
	same(t, s, m)
	for i, id := range []string{"a", "b"} {
		if l := s.Credits(id); !slices.Equal(l, want[i]) {
			t.Error(id, l, want[i])
		}
	}
	if l := s.Credits(want[0][0]); len(l) != 0 {
		t.Error(l)
	}
}

// P29.3: the same document once more, and others of its ID.
func TestOnce(t *testing.T) {
	s, m := with(t, doc("a"), credit("b", "a"), credit("c", "a"))
	for range 3 {
		for _, d := range []api.Doc{doc("a"), credit("b", "a"), credit("c", "a"), changed(doc("b"), func(d *api.Doc) { d.Lines[0].Amount++ })} {
			if e := step(t, s, m, d, true); e != api.ErrTwice {
				t.Error(d.ID, int(e))
			}
		}
	}
	if l := s.Credits("a"); s.Len() != 3 || !slices.Equal(l, []string{"b", "c"}) {
		t.Error(s.Len(), l)
	}
}

// P29.3, rule 4: what was handed in and handed out may be written into; what is there stays as it is.
func TestMemory(t *testing.T) {
	s, m := ids.New(), &model{}
	spare := []api.Line{service(1), service(2), service(3)}
	d := doc("a")
	d.Lines = spare[:2]
	step(t, s, m, d, true)
	m.docs[0].Lines = slices.Clone(d.Lines)
	if !slices.Equal(spare, []api.Line{service(1), service(2), service(3)}) {
		t.Error("what was handed in is changed", spare)
	}
	spare[0] = api.Line{}
	same(t, s, m)
	got, _ := s.Get("a")
	got.Lines[1] = api.Line{}
	_ = append(got.Lines, service(9))
	same(t, s, m)
	for _, id := range []string{"b", "c", "d"} {
		step(t, s, m, credit(id, "a"), true)
		l := s.Credits("a")
		_ = append(l, "x")
		clear(l)
		same(t, s, m)
	}
	was := s.Credits("a")
	step(t, s, m, credit("e", "a"), true)
	if !slices.Equal(was, []string{"b", "c", "d"}) {
		t.Error("what was told is changed", was)
	}
}

// P29.2, rule 1: a set that is nil, or that no call made.
func TestNoSet(t *testing.T) {
	for _, s := range []*ids.Set{nil, {}, new(ids.Set)} {
		for _, d := range slices.Concat([]api.Doc{doc("a"), doc("a"), credit("b", "a"), credit("b", "x")}, mayNot(doc("a"))) {
			if check, put := s.Check(d), s.Put(d); check != api.ErrNil || put != api.ErrNil {
				t.Error(d, int(check), int(put))
			}
		}
		for _, id := range append([]string{"a", "b"}, noIDs...) {
			if d, there := s.Get(id); there || !reflect.DeepEqual(d, api.Doc{}) || len(s.Credits(id)) != 0 {
				t.Error(id, d)
			}
		}
		if s.Len() != 0 {
			t.Error(s.Len())
		}
	}
}

// pick tells one of some.
func pick[T any](c *rand.Rand, l ...T) T { return l[c.Intn(len(l))] }

// chanceDoc tells a document that may be, or not.
func chanceDoc(c *rand.Rand) (d api.Doc, may bool) {
	id := func() string { return strconv.Itoa(c.Intn(20)) }
	d = changed(doc(id()), func(d *api.Doc) {
		d.Sale, d.Day = c.Intn(4) != 0, 19000+c.Intn(5)
		d.Country, d.Number, d.Currency = pick(c, "DE", "DE", "DE", "EE"), pick(c, "123456789", "123456789", "123456789", ""), pick(c, "USD", "USD", "USD", "")
		for range c.Intn(3) {
			d.Lines = append(d.Lines, service(c.Intn(1000)))
		}
		if c.Intn(3) != 0 {
			d.Credit, d.Refers = true, id()
		}
	})
	if c.Intn(10) == 0 {
		return pick(c, mayNot(d)...), false
	}
	return d, true
}

// P29.1 to P29.3: by chance.
func TestByChance(t *testing.T) {
	c := rand.New(rand.NewSource(15))
	told := map[api.Errno]int{}
	for range 300 {
		s, m := with(t)
		for range 60 {
			d, may := chanceDoc(c)
			told[step(t, s, m, d, may)]++
		}
	}
	for _, e := range []api.Errno{api.OK, api.ErrArg, api.ErrTwice, api.ErrRef} {
		if told[e] < 500 {
			t.Error("seldom told", int(e), told[e])
		}
	}
}

// P29.1, P29.2: very many.
func TestMany(t *testing.T) {
	const many = 50000
	s := ids.New()
	for i := range many {
		d := doc(strconv.Itoa(i))
		if i%2 == 1 {
			d = credit(strconv.Itoa(i), "0")
		}
		if e := s.Put(d); e != api.OK {
			t.Fatal(i, int(e))
		}
	}
	l := s.Credits("0")
	if s.Len() != many || len(l) != many/2 {
		t.Fatal(s.Len(), len(l))
	}
	for i, id := range l {
		if id != strconv.Itoa(2*i+1) {
			t.Fatal(i, id)
		}
	}
	for i := range many {
		if d, there := s.Get(strconv.Itoa(i)); !there || d.ID != strconv.Itoa(i) || d.Credit != (i%2 == 1) {
			t.Fatal(i, d)
		}
	}
}
