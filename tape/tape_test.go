package tape_test

import (
	"bytes"
	"encoding/binary"
	"hash/crc32"
	"math"
	"math/rand"
	"slices"
	"testing"

	"octroi/api"
	"octroi/crc"
	"octroi/tape"
)

// The batches' numbers and lengths at which something changes, and those that no batch has.
var (
	seqs      = []int{1, 2, 255, 256, 1 << 31, 1 << 32, 1<<56 + 5, api.MaxMoney - 1, api.MaxMoney}
	wrongSeqs = []int{0, -1, math.MinInt, api.MaxMoney + 1, math.MaxInt, -api.MaxMoney}
	lens      = []int{1, 2, 3, 4, 5, 63, 64, 65, 127, 128, 129, 191, 255, 256, 257, 1000, 1 << 16, api.MaxBatch - 65, api.MaxBatch - 64, api.MaxBatch - 63, api.MaxBatch - 1, api.MaxBatch}
	wrongLens = []int{0, -1, math.MinInt, api.MaxBatch + 1, 1 << 32, 1<<32 + 1, math.MaxInt}
)

// filled tells a sector that begins with b, and has 0 behind it.
func filled(b []byte) []byte {
	return append(bytes.Clone(b), make([]byte, api.SectorLen-len(b))...)
}

// wrapped is the model of Wrap: the library's sum, the highest byte first.
func wrapped(b []byte) []byte {
	return append(binary.BigEndian.AppendUint32(nil, crc32.ChecksumIEEE(b)), b...)
}

// marked is the model of a head, or of what is one but for its mark and its fields.
func marked(mark byte, seq uint64, n, sum uint32) []byte {
	b := binary.BigEndian.AppendUint64([]byte{mark}, seq)
	b = binary.BigEndian.AppendUint32(b, n)
	return filled(wrapped(binary.BigEndian.AppendUint32(b, sum)))
}

// ended is the model of an end.
func ended(mark byte, seq uint64, sum uint32) []byte {
	b := binary.BigEndian.AppendUint64([]byte{mark}, seq)
	return filled(wrapped(binary.BigEndian.AppendUint32(b, sum)))
}

func headModel(h tape.Head) []byte { return marked(72, uint64(h.Seq), uint32(h.Len), h.Sum) }

func endModel(h tape.Head) []byte { return ended(69, uint64(h.Seq), h.Sum) }

// headOf is the model of what a batch's head says.
func headOf(seq int, b []byte) tape.Head {
	return tape.Head{Seq: seq, Len: len(b), Sum: crc32.ChecksumIEEE(b)}
}

// pagesModel is the model of a batch's sectors.
func pagesModel(seq int, b []byte) [][]byte {
	h := headOf(seq, b)
	told := [][]byte{headModel(h)}
	for chunk := range slices.Chunk(b, api.SectorLen) {
		told = append(told, filled(chunk))
	}
	return append(told, endModel(h))
}

func check[T comparable](t *testing.T, got, want T, what ...any) {
	t.Helper()
	if got != want {
		t.Fatalf("%v: %v, not %v", what, got, want)
	}
}

// checkPages holds sectors to be just these.
func checkPages(t *testing.T, got, want [][]byte, what ...any) {
	t.Helper()
	if !slices.EqualFunc(got, want, bytes.Equal) {
		t.Fatalf("%v: %d sectors, %v, not %d, %v", what, len(got), got, len(want), want)
	}
}

// checkBegin holds a sector to be a head, and to say just that.
func checkBegin(t *testing.T, p []byte, want tape.Head, what ...any) {
	t.Helper()
	if h, is := tape.Begin(p); !is || h != want {
		t.Fatalf("%v: %v and %v, not %v", what, h, is, want)
	}
}

// checkNoHead holds bytes to be no head.
func checkNoHead(t *testing.T, p []byte, what ...any) {
	t.Helper()
	if h, is := tape.Begin(p); is || h != (tape.Head{}) {
		t.Fatalf("%v: %v and %v of %v", what, h, is, p)
	}
}

// checkJoin holds sectors to be these bytes' ones.
func checkJoin(t *testing.T, pages [][]byte, h tape.Head, want []byte, what ...any) {
	t.Helper()
	if b, are := tape.Join(pages, h); !are || !bytes.Equal(b, want) {
		t.Fatalf("%v: %d bytes and %v, not %d", what, len(b), are, len(want))
	}
}

// checkNoJoin holds sectors to be none of such a batch.
func checkNoJoin(t *testing.T, pages [][]byte, h tape.Head, what ...any) {
	t.Helper()
	if b, are := tape.Join(pages, h); are || len(b) != 0 {
		t.Fatalf("%v: %d bytes and %v", what, len(b), are)
	}
}

// text tells bytes by chance.
func text(c *rand.Rand, n int) []byte {
	b := make([]byte, n)
	c.Read(b)
	return b
}

// flipped tells bytes of which one bit is another.
func flipped(p []byte, bit int) []byte {
	other := bytes.Clone(p)
	other[bit/8] ^= 1 << (bit % 8)
	return other
}

// P10.1
func TestNeed(t *testing.T) {
	check(t, tape.Need(1), 3, "need of 1")
	check(t, tape.Need(64), 3, "need of 64")
	check(t, tape.Need(65), 4, "need of 65")
	check(t, tape.Need(128), 4, "need of 128")
	check(t, tape.Need(129), 5, "need of 129")
	check(t, tape.Need(api.MaxBatch-64), 2049, "need of a sector less than the most")
	check(t, tape.Need(api.MaxBatch-63), 2050, "need of more than that")
	check(t, tape.Need(api.MaxBatch), 2050, "need of the most")
	for _, n := range wrongLens {
		check(t, tape.Need(n), 0, "need of", n)
	}
	want, left := 2, 0 // sectors, and bytes that have room in the last of them
	for n := 1; n <= api.MaxBatch; n++ {
		if left == 0 {
			want, left = want+1, api.SectorLen
		}
		left--
		check(t, tape.Need(n), want, "need of", n)
	}
}

// P10.1
func TestPagesTold(t *testing.T) {
	got, e := tape.Pages(258, []byte("123456789"))
	check(t, e, api.OK, "pages")
	// Python's zlib told the sums that stand ahead.
	head := []byte{0x71, 0x95, 0x40, 0x52, 72, 0, 0, 0, 0, 0, 0, 1, 2, 0, 0, 0, 9, 0xCB, 0xF4, 0x39, 0x26}
	end := []byte{0xD1, 0x42, 0x5E, 0xB3, 69, 0, 0, 0, 0, 0, 0, 1, 2, 0xCB, 0xF4, 0x39, 0x26}
	checkPages(t, got, [][]byte{filled(head), filled([]byte("123456789")), filled(end)}, "pages")
}

// P10.1
func TestPagesAreTheModels(t *testing.T) {
	c := rand.New(rand.NewSource(31))
	all := slices.Clone(lens)
	for n := range 400 {
		all = append(all, n+1)
	}
	for _, n := range all {
		for _, b := range [][]byte{text(c, n), make([]byte, n), bytes.Repeat([]byte{255}, n)} {
			seq := seqs[c.Intn(len(seqs))]
			got, e := tape.Pages(seq, b)
			check(t, e, api.OK, "pages of", seq, n)
			check(t, len(got), tape.Need(n), "sectors of", seq, n)
			checkPages(t, got, pagesModel(seq, b), "pages of", seq, n)
		}
	}
	for _, seq := range seqs {
		got, e := tape.Pages(seq, []byte{7})
		check(t, e, api.OK, "pages of", seq)
		checkPages(t, got, pagesModel(seq, []byte{7}), "pages of", seq)
	}
}

// P10.1
func TestPagesErrors(t *testing.T) {
	refused := func(seq int, b []byte) {
		t.Helper()
		if pages, e := tape.Pages(seq, b); e != api.ErrArg || len(pages) != 0 {
			t.Fatalf("%d sectors and %d of %d with %d bytes", len(pages), int(e), seq, len(b))
		}
	}
	for _, seq := range wrongSeqs {
		refused(seq, []byte{1})
		refused(seq, nil)
		refused(seq, make([]byte, api.MaxBatch+1))
	}
	for _, seq := range seqs {
		refused(seq, nil)
		refused(seq, []byte{})
		refused(seq, make([]byte, api.MaxBatch+1))
		refused(seq, make([]byte, api.MaxBatch*2))
	}
}

// P10.1
func TestPagesShareNothing(t *testing.T) {
	room := bytes.Repeat([]byte{9}, 300)
	b := room[:70] // what stands behind it is no batch's
	got, _ := tape.Pages(1, b)
	checkPages(t, got, pagesModel(1, bytes.Repeat([]byte{9}, 70)), "pages of a list with spare room")
	for i, p := range got {
		for j := range p {
			p[j] = byte(i)
		}
	}
	for i, p := range got {
		check(t, p[0], byte(i), "a sector that others were written behind")
	}
	if !bytes.Equal(room, bytes.Repeat([]byte{9}, 300)) {
		t.Error("what was handed in is changed")
	}
}

// P10.2
func TestBeginSays(t *testing.T) {
	for _, seq := range seqs {
		for _, n := range lens {
			for _, sum := range []uint32{0, 1, 0xCBF43926, 1 << 31, math.MaxUint32} {
				h := tape.Head{Seq: seq, Len: n, Sum: sum}
				checkBegin(t, headModel(h), h, "begin")
			}
		}
	}
}

// P10.2
func TestBeginOfNoHead(t *testing.T) {
	h := headOf(5, []byte("abc"))
	p := headModel(h)
	for bit := range 8 * len(p) {
		checkNoHead(t, flipped(p, bit), "bit", bit)
	}
	for mark := range 256 {
		if mark != 72 {
			checkNoHead(t, marked(byte(mark), 5, 3, h.Sum), "mark", mark)
		}
	}
	for _, seq := range wrongSeqs {
		checkNoHead(t, marked(72, uint64(seq), 3, h.Sum), "seq", seq)
	}
	for _, n := range []uint32{0, api.MaxBatch + 1, 1 << 31, math.MaxUint32, math.MaxUint32 - 2} {
		checkNoHead(t, marked(72, 5, n, h.Sum), "bytes", n)
	}
	for _, x := range [][]byte{nil, {}, p[:1], p[:20], p[:21], p[:63], append(bytes.Clone(p), 0), append(bytes.Clone(p), p...), make([]byte, 64), endModel(h), filled([]byte("abc"))} {
		checkNoHead(t, x, "other bytes")
	}
	checkNoHead(t, p[:63:64], "a head whose last byte is spare room")
	for i := 21; i < len(p); i++ { // what is filled is no part of the sum
		for _, x := range []byte{1, 128, 255} {
			other := bytes.Clone(p)
			other[i] = x
			checkNoHead(t, other, "filled at", i, "with", x)
		}
	}
	checkBegin(t, append(bytes.Clone(p), 1, 2)[:64], h, "a head with spare room")
}

// P10.2
func TestEnd(t *testing.T) {
	for _, seq := range seqs {
		for _, sum := range []uint32{0, 1, 0xCBF43926, math.MaxUint32} {
			h := tape.Head{Seq: seq, Len: 9, Sum: sum}
			check(t, tape.End(endModel(h), h), true, "end of", h)
			for _, n := range append(lens, wrongLens...) { // it is Seq's and Sum's end
				check(t, tape.End(endModel(h), tape.Head{Seq: seq, Len: n, Sum: sum}), true, "end of", h, "with", n)
			}
			check(t, tape.End(endModel(h), tape.Head{Seq: seq, Len: 9, Sum: sum + 1}), false, "another sum")
			check(t, tape.End(endModel(h), tape.Head{Seq: seq - 1, Len: 9, Sum: sum}), false, "another seq")
			check(t, tape.End(endModel(h), tape.Head{Seq: seq + 1, Len: 9, Sum: sum}), false, "another seq")
			check(t, tape.End(endModel(h), tape.Head{}), false, "no head")
		}
	}
}

// P10.2
func TestEndOfNoEnd(t *testing.T) {
	h := headOf(5, []byte("abc"))
	p := endModel(h)
	for bit := range 8 * len(p) {
		check(t, tape.End(flipped(p, bit), h), false, "bit", bit)
	}
	for mark := range 256 {
		check(t, tape.End(ended(byte(mark), 5, h.Sum), h), mark == 69, "mark", mark)
	}
	for _, seq := range wrongSeqs {
		other := tape.Head{Seq: seq, Len: 3, Sum: h.Sum}
		check(t, tape.End(endModel(other), other), false, "seq", seq)
	}
	for _, x := range [][]byte{nil, {}, p[:1], p[:17], p[:63], append(bytes.Clone(p), 0), make([]byte, 64), headModel(h), filled([]byte("abc"))} {
		check(t, tape.End(x, h), false, "other bytes")
	}
	check(t, tape.End(p[:63:64], h), false, "an end whose last byte is spare room")
	check(t, tape.End(make([]byte, 64), tape.Head{}), false, "blank, and no head")
}

// P10.2
func TestJoinOfOtherPages(t *testing.T) {
	c := rand.New(rand.NewSource(32))
	for _, n := range []int{1, 2, 63, 64, 65, 128, 130, 200} {
		b := text(c, n)
		h, pages := headOf(3, b), pagesModel(3, b)[1:]
		pages = pages[:len(pages)-1]
		checkJoin(t, pages, h, b, n)
		checkNoJoin(t, nil, h, "nothing")
		checkNoJoin(t, pages[1:], h, "the first one is missing", n)
		checkNoJoin(t, pages[:len(pages)-1], h, "the last one is missing", n)
		checkNoJoin(t, append(slices.Clone(pages), make([]byte, 64)), h, "one more", n)
		checkNoJoin(t, pagesModel(3, b), h, "with head and end", n)
		for i, p := range pages {
			for _, other := range [][]byte{nil, {}, p[:63], p[:63:64], append(bytes.Clone(p), 0), append(bytes.Clone(p), p...)} {
				wrong := slices.Clone(pages)
				wrong[i] = other
				checkNoJoin(t, wrong, h, "sector", i, "of", len(other), "bytes", n)
			}
			for bit := range 8 * len(p) { // one of the bytes, or what fills
				wrong := slices.Clone(pages)
				wrong[i] = flipped(p, bit)
				checkNoJoin(t, wrong, h, "sector", i, "bit", bit, n)
			}
		}
	}
}

// P10.2
func TestJoinOfShiftedPages(t *testing.T) {
	b := text(rand.New(rand.NewSource(33)), 150)
	h, pages := headOf(3, b), pagesModel(3, b)[1:4]
	checkNoJoin(t, [][]byte{pages[1], pages[0], pages[2]}, h, "in another order")
	// together they have as many bytes as they should, and the same ones
	checkNoJoin(t, [][]byte{pages[0][:63], append([]byte{pages[0][63]}, pages[1]...), pages[2]}, h, "cut elsewhere")
	checkNoJoin(t, [][]byte{slices.Concat(pages...), {}, {}}, h, "all in one")
	checkNoJoin(t, [][]byte{{}, {}, slices.Concat(pages...)}, h, "all in one")
}

// P10.2
func TestJoinOfOtherHeads(t *testing.T) {
	b := []byte("abc\x00")
	h, pages := headOf(3, b), pagesModel(3, b)[1:2]
	checkJoin(t, pages, h, b, "join")
	for _, seq := range seqs { // the bytes do not hang on it
		checkJoin(t, pages, headOf(seq, b), b, "seq", seq)
	}
	for _, seq := range wrongSeqs {
		checkNoJoin(t, pages, headOf(seq, b), "seq", seq)
	}
	for _, n := range append(lens, wrongLens...) {
		if n != 4 {
			checkNoJoin(t, pages, tape.Head{Seq: 3, Len: n, Sum: h.Sum}, "bytes", n)
		}
		checkNoJoin(t, nil, tape.Head{Seq: 3, Len: n}, "bytes", n, "of nothing")
		checkNoJoin(t, [][]byte{}, tape.Head{Seq: 3, Len: n}, "bytes", n, "of nothing")
	}
	checkJoin(t, pages, headOf(3, append(bytes.Clone(b), 0, 0)), append(bytes.Clone(b), 0, 0), "what fills may be another batch's")
	checkNoJoin(t, pages, headOf(3, b[:2]), "what is more than the head says")
	for bit := range 32 {
		checkNoJoin(t, pages, tape.Head{Seq: 3, Len: 4, Sum: h.Sum ^ 1<<bit}, "sum", bit)
	}
	checkNoJoin(t, pages, tape.Head{}, "no head")
	checkNoJoin(t, nil, tape.Head{}, "nothing and no head")
}

// P10.2
func TestJoinSharesNothing(t *testing.T) {
	b := bytes.Repeat([]byte{9}, 130)
	pages := pagesModel(3, b)[1:4]
	got, _ := tape.Join(pages, headOf(3, b))
	for i := range got {
		got[i] = 1
	}
	checkPages(t, pages, pagesModel(3, b)[1:4], "what was handed in")
}

// P10.2
func TestBlank(t *testing.T) {
	check(t, tape.Blank(make([]byte, api.SectorLen)), true, "blank")
	for _, n := range []int{0, 1, 63, 65, 128, 1 << 16} {
		check(t, tape.Blank(make([]byte, n)), false, "bytes", n)
	}
	check(t, tape.Blank(nil), false, "nil")
	check(t, tape.Blank(make([]byte, 63, 64)), false, "a byte of spare room")
	check(t, tape.Blank(append(make([]byte, 64), 1)[:64]), true, "blank, with spare room")
	for bit := range 8 * api.SectorLen {
		check(t, tape.Blank(flipped(make([]byte, 64), bit)), false, "bit", bit)
	}
	check(t, tape.Blank(bytes.Repeat([]byte{255}, 64)), false, "all 1")
	for _, p := range pagesModel(1, []byte{0}) {
		check(t, tape.Blank(p), bytes.Equal(p, make([]byte, 64)), "a sector of a batch")
	}
}

// P10.2
func TestWhatIsAskedIsNotChanged(t *testing.T) {
	b := []byte("some bytes")
	h := headOf(8, b)
	for i, p := range pagesModel(8, b) {
		was := bytes.Clone(p)
		tape.Begin(p)
		tape.End(p, h)
		tape.Blank(p)
		tape.Join([][]byte{p}, h)
		if !bytes.Equal(p, was) {
			t.Error("sector", i, "is changed")
		}
	}
}

// P10.3
func TestBack(t *testing.T) {
	c := rand.New(rand.NewSource(34))
	all := slices.Clone(lens)
	for range 500 {
		all = append(all, 1+c.Intn(1000))
	}
	for _, n := range all {
		seq, b := 1+c.Intn(1<<c.Intn(62)), text(c, n)
		if c.Intn(4) == 0 { // bytes that end as what fills them
			clear(b[n/2:])
		}
		pages, e := tape.Pages(seq, b)
		check(t, e, api.OK, "pages of", seq, n)
		h, is := tape.Begin(pages[0])
		check(t, is, true, "head of", seq, n)
		check(t, h, headOf(seq, b), "head of", seq, n)
		check(t, h.Sum, crc.Sum(b), "sum of", seq, n)
		check(t, len(pages), tape.Need(h.Len), "sectors of", seq, n)
		last := len(pages) - 1
		checkJoin(t, pages[1:last], h, b, seq, n)
		check(t, tape.End(pages[last], h), true, "end of", seq, n)
		checkNoHead(t, pages[last], "the end of", seq, n)
		check(t, tape.End(pages[0], h), false, "the head of", seq, n)
	}
}

// P10.4
func TestTorn(t *testing.T) {
	c := rand.New(rand.NewSource(35))
	for range 2000 {
		h := tape.Head{Seq: 1 + c.Intn(1<<(1+c.Intn(61))), Len: 1 + c.Intn(1<<(1+c.Intn(17))), Sum: c.Uint32() >> c.Intn(32) << c.Intn(32)}
		head, end := headModel(h), endModel(h)
		for torn := range api.SectorLen + 1 {
			p := filled(head[:torn])
			if bytes.Equal(p, head) {
				checkBegin(t, p, h, "head torn at", torn)
			} else if told, is := tape.Begin(p); is && told == h {
				t.Fatal(h, "is told of a head that is torn at", torn)
			}
			p = filled(end[:torn])
			check(t, tape.End(p, h), bytes.Equal(p, end), "end torn at", torn, h)
		}
	}
}

// P10.4
func TestTornOverAnother(t *testing.T) {
	c := rand.New(rand.NewSource(36))
	for range 300 { // what a disk has behind a cut write: a beginning of one sector, and the rest of another
		was, is := headOf(1+c.Intn(99), text(c, 9)), headOf(100+c.Intn(99), text(c, 9))
		for torn := range api.SectorLen + 1 {
			p := append(headModel(is)[:torn], headModel(was)[torn:]...)
			told, begins := tape.Begin(p)
			check(t, begins, bytes.Equal(p, headModel(told)), "head torn at", torn)
			p = append(endModel(is)[:torn], endModel(was)[torn:]...)
			check(t, tape.End(p, is), bytes.Equal(p, endModel(is)), "end torn at", torn)
		}
	}
}

// P10.2
func TestBytesByChance(t *testing.T) {
	c := rand.New(rand.NewSource(37))
	for range 20000 {
		p := text(c, c.Intn(130))
		checkNoHead(t, p, "by chance")
		check(t, tape.End(p, tape.Head{Seq: c.Int(), Len: c.Int(), Sum: c.Uint32()}), false, "by chance")
		checkNoJoin(t, [][]byte{p, nil, p}[:c.Intn(4)], tape.Head{Seq: c.Int() - c.Int(), Len: c.Intn(200) - 9, Sum: c.Uint32()}, "by chance")
	}
}
