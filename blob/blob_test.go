package blob_test

import (
	"bytes"
	"fmt"
	"math"
	"math/big"
	"math/rand"
	"slices"
	"strings"
	"testing"

	"octroi/api"
	"octroi/blob"
)

// numbers are those at which something changes, and some between them; their bytes stand below.
var numbers = []struct {
	n    int
	want []byte
}{
	{0, []byte{0}},
	{1, []byte{1, 1}},
	{-1, []byte{129, 1}},
	{127, []byte{1, 127}},
	{128, []byte{1, 128}},
	{-128, []byte{129, 128}},
	{255, []byte{1, 255}},
	{-255, []byte{129, 255}},
	{256, []byte{2, 1, 0}},
	{-256, []byte{130, 1, 0}},
	{300, []byte{2, 1, 44}},
	{1<<16 - 1, []byte{2, 255, 255}},
	{1 << 16, []byte{3, 1, 0, 0}},
	{1<<24 - 1, []byte{3, 255, 255, 255}},
	{1 << 24, []byte{4, 1, 0, 0, 0}},
	{-1 << 32, []byte{133, 1, 0, 0, 0, 0}},
	{1<<40 + 5, []byte{6, 1, 0, 0, 0, 0, 5}},
	{1 << 48, []byte{7, 1, 0, 0, 0, 0, 0, 0}},
	{1<<56 - 1, []byte{7, 255, 255, 255, 255, 255, 255, 255}},
	{1 << 56, []byte{8, 1, 0, 0, 0, 0, 0, 0, 0}},
	{api.MaxMoney, []byte{8, 64, 0, 0, 0, 0, 0, 0, 0}},
	{-api.MaxMoney, []byte{136, 64, 0, 0, 0, 0, 0, 0, 0}},
	{math.MaxInt, []byte{8, 127, 255, 255, 255, 255, 255, 255, 255}},
	{-math.MaxInt, []byte{136, 127, 255, 255, 255, 255, 255, 255, 255}},
}

// texts have bytes of each sort, and each number of bytes at which something changes.
var texts = []string{
	"", "a", "ab", "\x00", "\x00\x00", "\xff\xfe", "é€", "2022-01",
	strings.Repeat("x", 127), strings.Repeat("x", 128), strings.Repeat("x", 255), strings.Repeat("x", 256),
	strings.Repeat("\x80", 1<<15), strings.Repeat("z", api.MaxBlob-1), strings.Repeat("z", api.MaxBlob),
}

// numModel is the model of a number's bytes: the library's bytes of its size.
func numModel(n int) []byte {
	size := new(big.Int).Abs(big.NewInt(int64(n))).Bytes()
	first := len(size)
	if n < 0 {
		first += 128
	}
	return append([]byte{byte(first)}, size...)
}

func textModel(s string) []byte { return append(numModel(len(s)), s...) }

func flagModel(b bool) []byte {
	if b {
		return []byte{1}
	}
	return []byte{0}
}

func check[T comparable](t *testing.T, got, want T, what ...any) {
	t.Helper()
	if got != want {
		t.Fatalf("%v: %v, not %v", what, got, want)
	}
}

// short tells how many bytes there are, and the first ones.
func short(b []byte) string { return fmt.Sprint(len(b), " of ", b[:min(len(b), 20)]) }

// checkWritten holds a writer to have just these bytes.
func checkWritten(t *testing.T, w *blob.Writer, want []byte, what ...any) {
	t.Helper()
	if b, e := w.Bytes(); e != api.OK || !bytes.Equal(b, want) {
		t.Fatalf("%v: %s and %d, not %s", what, short(b), int(e), short(want))
	}
}

// checkSpoilt holds a writer to be spoilt.
func checkSpoilt(t *testing.T, w *blob.Writer, what ...any) {
	t.Helper()
	if b, e := w.Bytes(); e != api.ErrArg || len(b) != 0 {
		t.Fatalf("%v: %s and %d, not spoilt", what, short(b), int(e))
	}
}

// checkBad holds a reader to be bad, and to stay so, whatever is asked of it.
func checkBad(t *testing.T, r *blob.Reader, what ...any) {
	t.Helper()
	for range 2 {
		check(t, r.Left(), 0, what, "left of a bad one")
		check(t, r.Done(), api.ErrForm, what, "done of a bad one")
		check(t, r.Num(), 0, what, "num of a bad one")
		check(t, r.Text(), "", what, "text of a bad one")
		check(t, r.Flag(), false, what, "flag of a bad one")
	}
}

// P5.1
func TestNumWritten(t *testing.T) {
	for _, x := range numbers {
		checkWritten(t, blob.New().Num(x.n), x.want, x.n)
		checkWritten(t, blob.New().Num(x.n), numModel(x.n), x.n, "model")
	}
	for n := -70000; n <= 70000; n++ {
		checkWritten(t, blob.New().Num(n), numModel(n), n)
	}
}

// P5.1
func TestTextWritten(t *testing.T) {
	checkWritten(t, blob.New().Text("ab"), []byte{1, 2, 97, 98}, "ab")
	checkWritten(t, blob.New().Text(""), []byte{0}, "an empty text")
	checkWritten(t, blob.New().Text("\xff\x00"), []byte{1, 2, 255, 0}, "any bytes")
	for _, s := range texts {
		checkWritten(t, blob.New().Text(s), textModel(s), "text of", len(s))
	}
	b, e := blob.New().Text(strings.Repeat("q", api.MaxBlob)).Bytes()
	if e != api.OK || len(b) != 4+api.MaxBlob || !bytes.Equal(b[:5], []byte{3, 1, 0, 0, 'q'}) {
		t.Error("the longest text:", len(b), int(e))
	}
}

// P5.1
func TestFlagWritten(t *testing.T) {
	checkWritten(t, blob.New().Flag(true), []byte{1}, true)
	checkWritten(t, blob.New().Flag(false), []byte{0}, false)
}

// P5.1
func TestOneBehindTheOther(t *testing.T) {
	w := blob.New()
	checkWritten(t, w, nil, "nothing yet")
	for i, told := range []*blob.Writer{w.Num(300), w.Text("ab"), w.Flag(true), w.Num(-1), w.Flag(false), w.Text("")} {
		check(t, told, w, "call", i)
	}
	checkWritten(t, w, []byte{2, 1, 44, 1, 2, 97, 98, 1, 129, 1, 0, 0}, "all")
	other := blob.New().Num(7)
	checkWritten(t, other, []byte{1, 7}, "another writer has nothing of the first one")
	checkWritten(t, w, []byte{2, 1, 44, 1, 2, 97, 98, 1, 129, 1, 0, 0}, "once more")
}

// P5.1
func TestSpoilt(t *testing.T) {
	tooLong := strings.Repeat("x", api.MaxBlob+1)
	checkSpoilt(t, blob.New().Num(math.MinInt), "the least int")
	checkSpoilt(t, blob.New().Text(tooLong), "a text that is too long")
	checkSpoilt(t, blob.New().Text(strings.Repeat("x", 2*api.MaxBlob)), "a text that is much too long")
	for i, spoil := range []func(w *blob.Writer) *blob.Writer{
		func(w *blob.Writer) *blob.Writer { return w.Num(math.MinInt) },
		func(w *blob.Writer) *blob.Writer { return w.Text(tooLong) },
	} {
		w := blob.New().Num(5).Text("ab").Flag(true)
		check(t, spoil(w), w, i, "the writer itself is told")
		for range 2 {
			checkSpoilt(t, w, i)
			check(t, w.Num(1), w, i, "num of a spoilt one")
			check(t, w.Text("a"), w, i, "text of a spoilt one")
			check(t, w.Flag(true), w, i, "flag of a spoilt one")
		}
		checkSpoilt(t, w, i, "from then on")
	}
	checkWritten(t, blob.New().Flag(true), []byte{1}, "a writer that is not spoilt")
}

// P5.1
func TestWritersThatNoCallMade(t *testing.T) {
	for i, w := range []*blob.Writer{nil, {}, new(blob.Writer)} {
		for range 2 {
			if w.Num(1) != nil || w.Num(math.MinInt) != nil || w.Text("a") != nil || w.Flag(true) != nil {
				t.Error(i, "a writer is told")
			}
			if b, e := w.Bytes(); e != api.ErrNil || len(b) != 0 {
				t.Error(i, b, int(e))
			}
		}
	}
	if b, e := new(blob.Writer).Num(1).Text("a").Flag(true).Bytes(); e != api.ErrNil || len(b) != 0 {
		t.Error("one behind the other:", b, int(e))
	}
}

// P5.1
func TestWhatBytesToldStays(t *testing.T) {
	w := blob.New().Num(300)
	first, _ := w.Bytes()
	second, _ := w.Bytes()
	w.Text("abcdefgh")
	if want := []byte{2, 1, 44}; !bytes.Equal(first, want) || !bytes.Equal(second, want) {
		t.Error("what was told is changed:", first, second)
	}
	for i := range first {
		first[i] = 99
	}
	_ = append(first[:len(first):cap(first)], make([]byte, 32)...)
	checkWritten(t, w, append([]byte{2, 1, 44}, textModel("abcdefgh")...), "the writer has its own")
	if !bytes.Equal(second, []byte{2, 1, 44}) {
		t.Error("two answers share:", second)
	}
}

// P5.2
func TestNumRead(t *testing.T) {
	for _, x := range numbers {
		r := blob.Open(append(slices.Clone(x.want), 7, 8))
		check(t, r.Left(), len(x.want)+2, x.n)
		check(t, r.Num(), x.n, x.n)
		check(t, r.Left(), 2, x.n)
		check(t, r.Done(), api.ErrForm, x.n, "bytes are left")
		r = blob.Open(x.want)
		check(t, r.Num(), x.n, x.n)
		check(t, r.Left(), 0, x.n)
		check(t, r.Done(), api.OK, x.n)
	}
}

// P5.2
func TestNoNumber(t *testing.T) {
	for _, b := range [][]byte{
		nil, {}, {1}, {2}, {2, 1}, {8, 127, 255, 255, 255, 255, 255, 255}, {129}, {130, 1}, // too soon at an end
		{128}, {128, 0}, {128, 1}, // no 0 is below 0
		{1, 0}, {2, 0, 1}, {129, 0}, {130, 0, 1}, {3, 0, 0, 0}, {8, 0, 255, 255, 255, 255, 255, 255, 255}, // a highest byte of 0
		{8, 128, 0, 0, 0, 0, 0, 0, 0}, {8, 255, 255, 255, 255, 255, 255, 255, 255}, // above the greatest int
		{136, 128, 0, 0, 0, 0, 0, 0, 0}, {136, 128, 0, 0, 0, 0, 0, 0, 1}, {136, 255, 255, 255, 255, 255, 255, 255, 255}, // the least int, and below it
		{9, 1, 0, 0, 0, 0, 0, 0, 0, 0}, {137, 1, 0, 0, 0, 0, 0, 0, 0, 0}, {9, 0, 1, 0, 0, 0, 0, 0, 0, 0}, // sizes that are too long
		append([]byte{127, 1}, make([]byte, 200)...), append([]byte{255, 1}, make([]byte, 200)...), append([]byte{16}, make([]byte, 16)...),
	} {
		r := blob.Open(b)
		check(t, r.Left(), len(b), short(b))
		check(t, r.Num(), 0, short(b))
		checkBad(t, r, short(b))
	}
}

// P5.2
func TestTextRead(t *testing.T) {
	for _, s := range texts {
		r := blob.Open(append(textModel(s), 3))
		check(t, r.Text() == s, true, "text of", len(s))
		check(t, r.Left(), 1, "text of", len(s))
		check(t, r.Done(), api.ErrForm, "text of", len(s))
		r = blob.Open(textModel(s))
		check(t, r.Text() == s, true, "text of", len(s))
		check(t, r.Done(), api.OK, "text of", len(s))
	}
}

// P5.2
func TestNoText(t *testing.T) {
	long := func(n int) []byte { return append(numModel(n), make([]byte, api.MaxBlob+300)...) }
	for _, b := range [][]byte{
		nil, {1}, {1, 1}, {1, 3, 97, 98}, {2, 1, 0, 97}, {1, 0}, {128}, {2, 0, 1, 97}, // no number, or too soon at an end
		{129, 1}, {129, 1, 97}, {129, 2, 97, 98}, {136, 127, 255, 255, 255, 255, 255, 255, 255}, // below 0
		long(api.MaxBlob + 1), long(api.MaxBlob + 256), long(1 << 24), long(math.MaxInt), long(-math.MaxInt), // too long
	} {
		r := blob.Open(b)
		check(t, len(r.Text()), 0, short(b))
		checkBad(t, r, short(b))
	}
}

// P5.2
func TestFlagRead(t *testing.T) {
	for b := range 256 {
		r := blob.Open([]byte{byte(b), 1})
		check(t, r.Flag(), b == 1, b)
		if b > 1 {
			checkBad(t, r, b)
			continue
		}
		check(t, r.Left(), 1, b)
		check(t, r.Flag(), true, b)
		check(t, r.Done(), api.OK, b)
	}
	r := blob.Open(nil)
	check(t, r.Done(), api.OK, "nothing is there, and all of it is read")
	check(t, r.Flag(), false, "nothing")
	checkBad(t, r, "nothing")
}

// P5.2
func TestBadStaysBad(t *testing.T) {
	for i, ask := range []func(r *blob.Reader){
		func(r *blob.Reader) { r.Num() },
		func(r *blob.Reader) { r.Text() },
		func(r *blob.Reader) { r.Flag() },
	} {
		r := blob.Open([]byte{1, 5, 200, 1, 1, 1, 2, 97, 98, 1})
		check(t, r.Num(), 5, i)
		ask(r) // a 200 begins nothing
		checkBad(t, r, i)
	}
}

// P5.2
func TestReadersThatNoCallMade(t *testing.T) {
	for i, r := range []*blob.Reader{nil, {}, new(blob.Reader)} {
		for range 2 {
			check(t, r.Num(), 0, i)
			check(t, r.Text(), "", i)
			check(t, r.Flag(), false, i)
			check(t, r.Left(), 0, i)
			check(t, r.Done(), api.ErrNil, i)
		}
	}
}

// P5.2
func TestWhatIsReadIsTheReaders(t *testing.T) {
	room := []byte{1, 2, 97, 98, 1, 5, 1, 6}
	b := room[:5]
	r := blob.Open(b)
	room[2], room[4], room[5] = 99, 9, 9
	check(t, r.Text(), "ab", "bytes that change behind Open are not seen")
	check(t, r.Flag(), true, "bytes that change behind Open are not seen")
	check(t, r.Done(), api.OK, "what is behind the list's length is not read")
	if !bytes.Equal(room, []byte{1, 2, 99, 98, 9, 9, 1, 6}) {
		t.Error("what was handed in is changed:", room)
	}
	one, other := blob.Open(b[:4]), blob.Open(b[:4])
	check(t, one.Text(), "cb", "one")
	check(t, one.Left(), 0, "one")
	check(t, other.Left(), 4, "other")
	check(t, other.Text(), "cb", "other")
}

// part is a number, a text or a flag.
type part struct {
	kind int
	n    int
	s    string
	b    bool
}

func (x part) write(w *blob.Writer) {
	switch x.kind {
	case 0:
		w.Num(x.n)
	case 1:
		w.Text(x.s)
	case 2:
		w.Flag(x.b)
	}
}

func (x part) model() []byte {
	return [][]byte{numModel(x.n), textModel(x.s), flagModel(x.b)}[x.kind]
}

// next reads what is of the kind.
func next(r *blob.Reader, kind int) part {
	x := part{kind: kind}
	switch kind {
	case 0:
		x.n = r.Num()
	case 1:
		x.s = r.Text()
	case 2:
		x.b = r.Flag()
	}
	return x
}

// chance tells a part of any kind and size.
func chance(c *rand.Rand) part {
	switch kind := c.Intn(3); kind {
	case 0:
		n := int(c.Uint64() >> 1 >> c.Intn(64))
		return part{kind: kind, n: n * (1 - 2*c.Intn(2))}
	case 1:
		b := make([]byte, c.Intn(1<<c.Intn(10)))
		c.Read(b)
		return part{kind: kind, s: string(b)}
	default:
		return part{kind: kind, b: c.Intn(2) == 1}
	}
}

// P5.1, P5.3
func TestBack(t *testing.T) {
	c := rand.New(rand.NewSource(5))
	for i := range 3000 {
		parts := make([]part, c.Intn(20))
		w, want := blob.New(), []byte(nil)
		for k := range parts {
			parts[k] = chance(c)
			parts[k].write(w)
			want = append(want, parts[k].model()...)
		}
		checkWritten(t, w, want, i)
		b, _ := w.Bytes()
		r, left := blob.Open(b), len(b)
		for _, x := range parts {
			check(t, next(r, x.kind), x, i)
			left -= len(x.model())
			check(t, r.Left(), left, i)
		}
		check(t, r.Done(), api.OK, i)
	}
}

// P5.3
func TestBackOfEdges(t *testing.T) {
	for _, x := range numbers {
		b, _ := blob.New().Num(x.n).Bytes()
		check(t, blob.Open(b).Num(), x.n, x.n)
	}
	for _, s := range texts {
		b, _ := blob.New().Text(s).Bytes()
		check(t, blob.Open(b).Text() == s, true, "text of", len(s))
	}
}

// checkOne holds bytes that are read as one of a kind to be the ones that are written of it; others to make the reader bad.
func checkOne(t *testing.T, b []byte) {
	t.Helper()
	for kind := range 3 {
		r := blob.Open(b)
		x := next(r, kind)
		if e := r.Done(); e != api.OK {
			check(t, e, api.ErrForm, b, kind)
			continue
		}
		w := blob.New()
		x.write(w)
		checkWritten(t, w, b, "read as", x)
	}
}

// P5.4
func TestOne(t *testing.T) {
	checkOne(t, nil)
	for first := range 256 {
		checkOne(t, []byte{byte(first)})
		for second := range 256 {
			checkOne(t, []byte{byte(first), byte(second)})
		}
	}
	c := rand.New(rand.NewSource(6))
	some := []byte{0, 1, 2, 3, 8, 9, 97, 127, 128, 129, 130, 136, 137, 255}
	for range 100000 {
		b := make([]byte, c.Intn(12))
		for i := range b {
			b[i] = some[c.Intn(len(some))]
		}
		checkOne(t, b)
	}
}

// P5.2, P5.4
func TestNoOtherBytesAreNumbers(t *testing.T) {
	are := map[string]int{}
	for n := -65535; n <= 65535; n++ {
		are[string(numModel(n))] = n
	}
	hold := func(b ...byte) {
		r := blob.Open(b)
		n := r.Num()
		want, is := are[string(b)]
		check(t, r.Done() == api.OK, is, b)
		if is {
			check(t, n, want, b)
		}
	}
	for first := range 256 {
		hold(byte(first))
		for second := range 256 {
			hold(byte(first), byte(second))
			for _, count := range []byte{2, 130} {
				hold(count, byte(first), byte(second))
			}
		}
	}
}

// P5.4
func TestManyReadAndWritten(t *testing.T) {
	c := rand.New(rand.NewSource(7))
	for i := range 20000 {
		b := make([]byte, c.Intn(60))
		c.Read(b)
		for k := range b {
			b[k] %= 4 // else hardly anything is read
		}
		r, w, past := blob.Open(b), blob.New(), 0
		for r.Left() > 0 {
			x := next(r, c.Intn(3))
			if r.Done() == api.ErrForm && r.Left() == 0 {
				break
			}
			x.write(w)
			past = len(b) - r.Left()
		}
		checkWritten(t, w, b[:past], i, b)
	}
}
