package journal_test

import (
	"bytes"
	"encoding/binary"
	"hash/crc32"
	"math/rand"
	"slices"
	"testing"

	"octroi/api"
	"octroi/journal"
	"octroi/sector"
)

// filled tells a sector that begins with b, and has 0 behind it.
func filled(b []byte) []byte {
	return append(bytes.Clone(b), make([]byte, api.SectorLen-len(b))...)
}

// sealed tells a sector of these bytes, with the library's sum ahead of them.
func sealed(b []byte) []byte {
	return filled(append(binary.BigEndian.AppendUint32(nil, crc32.ChecksumIEEE(b)), b...))
}

// pagesModel is a batch's sectors, word for word as the document says them.
func pagesModel(seq int, b []byte) [][]byte {
	sum := crc32.ChecksumIEEE(b)
	head := binary.BigEndian.AppendUint64([]byte{72}, uint64(seq))
	head = binary.BigEndian.AppendUint32(head, uint32(len(b)))
	end := binary.BigEndian.AppendUint64([]byte{69}, uint64(seq))
	told := [][]byte{sealed(binary.BigEndian.AppendUint32(head, sum))}
	for chunk := range slices.Chunk(b, api.SectorLen) {
		told = append(told, filled(chunk))
	}
	return append(told, sealed(binary.BigEndian.AppendUint32(end, sum)))
}

// sectorsModel is all sectors of a disk on which just these batches stand.
func sectorsModel(many int, batches [][]byte) [][]byte {
	var told [][]byte
	for i, b := range batches {
		told = append(told, pagesModel(i+1, b)...)
	}
	for len(told) < many {
		told = append(told, make([]byte, api.SectorLen))
	}
	return told
}

// tailModel is how many sectors batches have.
func tailModel(batches [][]byte) int {
	tail := 0
	for _, b := range batches {
		tail += 2 + (len(b)+api.SectorLen-1)/api.SectorLen
	}
	return tail
}

func check[T comparable](t *testing.T, got, want T, what ...any) {
	t.Helper()
	if got != want {
		t.Fatalf("%v: %v, not %v", what, got, want)
	}
}

// checkSectors holds a disk's sectors to be just these.
func checkSectors(t *testing.T, d *sector.Disk, want [][]byte, what ...any) {
	t.Helper()
	check(t, d.Len(), len(want), what, "sectors")
	for i, p := range d.All() {
		if !bytes.Equal(p, want[i]) {
			t.Fatalf("%v: sector %d is %v, not %v", what, i, p, want[i])
		}
	}
}

// sectorsOf tells a disk's sectors.
func sectorsOf(d *sector.Disk) [][]byte {
	var told [][]byte
	for _, p := range d.All() {
		told = append(told, p)
	}
	return told
}

// checkTells holds all that a journal tells of itself to be what batches on a disk of so many sectors come to.
func checkTells(t *testing.T, j *journal.Journal, many int, batches [][]byte, dead bool, what ...any) {
	t.Helper()
	tail := tailModel(batches)
	check(t, j.Len(), len(batches), what, "len")
	check(t, j.Tail(), tail, what, "tail")
	check(t, j.Room(), many-tail, what, "room")
	check(t, j.Dead(), dead, what, "dead")
}

// open tells a disk's journal, which must be one of just these batches, with nothing behind them.
func open(t *testing.T, d *sector.Disk, want [][]byte, what ...any) *journal.Journal {
	t.Helper()
	j, l, e := journal.Open(d)
	if e != api.OK || j == nil || !slices.EqualFunc(l, want, bytes.Equal) {
		t.Fatalf("%v: %v, %d batches, %d; not %d batches", what, j != nil, len(l), int(e), len(want))
	}
	checkTells(t, j, d.Len(), want, false, what...)
	checkSectors(t, d, sectorsModel(d.Len(), want), what...)
	return j
}

// checkUnopened holds a disk not to be opened, for that reason.
func checkUnopened(t *testing.T, d *sector.Disk, want api.Errno, what ...any) {
	t.Helper()
	if j, l, e := journal.Open(d); e != want || j != nil || len(l) != 0 {
		t.Fatalf("%v: %v, %d batches, %d; not %d", what, j != nil, len(l), int(e), int(want))
	}
}

// put appends a batch that must be kept.
func put(t *testing.T, j *journal.Journal, b []byte, want int, what ...any) {
	t.Helper()
	seq, e := j.Append(b)
	check(t, e, api.OK, what, "error of a batch of", len(b))
	check(t, seq, want, what, "number of a batch of", len(b))
}

// checkRefused holds a batch to be refused, for that reason.
func checkRefused(t *testing.T, j *journal.Journal, b []byte, want api.Errno, what ...any) {
	t.Helper()
	seq, e := j.Append(b)
	check(t, e, want, what, "error of a batch of", len(b))
	check(t, seq, 0, what, "number of a batch of", len(b))
}

// text tells bytes by chance.
func text(c *rand.Rand, n int) []byte {
	b := make([]byte, n)
	c.Read(b)
	return b
}

// texts tells a batch of each of these lengths.
func texts(c *rand.Rand, lens ...int) [][]byte {
	var told [][]byte
	for _, n := range lens {
		told = append(told, text(c, n))
	}
	return told
}

// cutNow lets the next write be the last one.
func cutNow(d *sector.Disk, torn int) { d.Fuse(0, torn) }

// P12.1
func TestOpenNewDisks(t *testing.T) {
	for _, many := range []int{1, 2, 3, 64, api.MaxSectors} {
		d := sector.New(many)
		open(t, d, nil, "a new disk of", many)
		check(t, d.Writes(), 0, "writes on a new disk of", many)
	}
}

// P12.1
func TestOpenWipesBehindTheTail(t *testing.T) {
	c := rand.New(rand.NewSource(21))
	for round := range 600 {
		batches := texts(c, []int{1 + c.Intn(150), 1 + c.Intn(150), 1 + c.Intn(150)}[:c.Intn(4)]...)
		d := sector.New(20)
		for i, p := range sectorsModel(20, batches) {
			d.Write(i, p)
		}
		dirty := 0
		for i := tailModel(batches); i < 20; i++ {
			if c.Intn(2) == 0 {
				d.Write(i, text(c, api.SectorLen))
				dirty++
			}
		}
		writes := d.Writes()
		open(t, d, batches, "round", round)
		check(t, d.Writes(), writes+dirty, "writes in round", round)
		open(t, d, batches, "again in round", round)
		check(t, d.Writes(), writes+dirty, "writes again in round", round)
	}
}

// P12.1
func TestOpensErrors(t *testing.T) {
	checkUnopened(t, nil, api.ErrNil, "no disk")
	checkUnopened(t, &sector.Disk{}, api.ErrNil, "a disk that no call made")
	d := sector.New(4)
	put(t, open(t, d, nil, "new"), []byte("a"), 1)
	cutNow(d, 64)
	d.Write(3, bytes.Repeat([]byte("x"), api.SectorLen))
	ahead := sectorsOf(d)
	checkUnopened(t, d, api.ErrDead, "a dead disk")
	checkSectors(t, d, ahead, "a dead disk")
	d.Power()
	cutNow(d, 5)
	checkUnopened(t, d, api.ErrDead, "a disk that dies while it is wiped")
	ahead[3] = append(make([]byte, 5), ahead[3][5:]...)
	checkSectors(t, d, ahead, "a disk that died while it was wiped")
	d.Power()
	open(t, d, [][]byte{[]byte("a")}, "with power again")
}

// P12.1: what is told shares no memory with what is kept.
func TestOpenSharesNothing(t *testing.T) {
	d := sector.New(10)
	batches := [][]byte{bytes.Repeat([]byte("a"), 64), []byte("b")}
	j := open(t, d, nil, "new")
	put(t, j, batches[0], 1)
	put(t, j, batches[1], 2)
	_, l, _ := journal.Open(d)
	for _, b := range l {
		clear(b[:cap(b)])
	}
	open(t, d, batches, "behind a change of what was told")
}

// P12.2
func TestAppend(t *testing.T) {
	c := rand.New(rand.NewSource(22))
	batches := texts(c, 1, 63, 64, 65, 128, 129, 2, 500)
	many := tailModel(batches)
	d := sector.New(many)
	j := open(t, d, nil, "new")
	for i, b := range batches {
		put(t, j, b, i+1)
		checkTells(t, j, many, batches[:i+1], false, "behind", i)
		checkSectors(t, d, sectorsModel(many, batches[:i+1]), "behind", i)
		check(t, d.Writes(), j.Tail(), "writes behind", i)
		open(t, d.Clone(), batches[:i+1], "opened behind", i)
	}
	checkRefused(t, j, []byte("a"), api.ErrFull, "full")
	open(t, d, batches, "full")
}

// P12.2
func TestAppendBehindWhatWasOpened(t *testing.T) {
	c := rand.New(rand.NewSource(23))
	d := sector.New(100)
	var batches [][]byte
	for i := range 20 {
		j := open(t, d, batches, "ahead of", i)
		for range 1 + i%2 {
			batches = append(batches, text(c, 1+c.Intn(70)))
			put(t, j, batches[len(batches)-1], len(batches))
		}
		checkTells(t, j, 100, batches, false, "behind", i)
		if j.Room() < 8 {
			return
		}
	}
}

// P12.2: no batch's bytes, and more sectors than are left.
func TestAppendsErrors(t *testing.T) {
	d := sector.New(6)
	j := open(t, d, nil, "new")
	wrong := [][]byte{nil, {}, make([]byte, api.MaxBatch+1), make([]byte, 1<<20)}
	for _, b := range wrong {
		checkRefused(t, j, b, api.ErrArg, "no batch's bytes")
	}
	checkRefused(t, j, make([]byte, api.MaxBatch), api.ErrFull, "the greatest")
	checkRefused(t, j, make([]byte, 4*64+1), api.ErrFull, "one sector too many")
	checkTells(t, j, 6, nil, false, "behind what was refused")
	check(t, d.Writes(), 0, "writes of what was refused")
	a, b := []byte("a"), []byte("b")
	put(t, j, a, 1)
	checkRefused(t, j, make([]byte, 65), api.ErrFull, "one sector too many behind the first one")
	checkTells(t, j, 6, [][]byte{a}, false, "behind the first one")
	put(t, j, b, 2)
	for _, z := range [][]byte{[]byte("c"), make([]byte, api.MaxBatch)} {
		checkRefused(t, j, z, api.ErrFull, "full")
	}
	for _, z := range wrong {
		checkRefused(t, j, z, api.ErrArg, "no batch's bytes, and full")
	}
	checkTells(t, j, 6, [][]byte{a, b}, false, "full")
	open(t, d, [][]byte{a, b}, "full")
}

// P12.2
func TestAppendTheGreatest(t *testing.T) {
	c := rand.New(rand.NewSource(24))
	b, small := text(c, api.MaxBatch), text(c, 1)
	need := 2050
	d := sector.New(need + 2)
	j := open(t, d, nil, "new")
	put(t, j, b, 1)
	checkRefused(t, j, small, api.ErrFull, "two sectors are left")
	open(t, d, [][]byte{b}, "the greatest")
	d = sector.New(need - 1)
	checkRefused(t, open(t, d, nil, "new"), b, api.ErrFull, "a disk that is one sector too small")
	open(t, d, nil, "a disk that is one sector too small")
}

// P12.2: a sector's bytes that are all 0 are a batch's too.
func TestAppendNothingBut0(t *testing.T) {
	d := sector.New(30)
	j := open(t, d, nil, "new")
	batches := [][]byte{make([]byte, 64), make([]byte, 200), make([]byte, 1)}
	for i, b := range batches {
		put(t, j, b, i+1)
	}
	checkTells(t, j, 30, batches, false, "all 0")
	open(t, d, batches, "all 0")
}

// P12.2: what is handed in is not changed, and what stands behind it is not read.
func TestAppendLeavesWhatIsHandedIn(t *testing.T) {
	c := rand.New(rand.NewSource(25))
	for _, n := range []int{1, 63, 64, 65, 130} {
		room := text(c, 256)
		ahead := bytes.Clone(room)
		d := sector.New(10)
		j := open(t, d, nil, "new")
		put(t, j, room[:n], 1)
		if !bytes.Equal(room, ahead) {
			t.Fatal("what was handed in has changed, of", n)
		}
		clear(room)
		open(t, d, [][]byte{ahead[:n]}, "behind a change of what was handed in", n)
	}
}

// P12.2: a dead journal stays dead, whatever the disk does.
func TestAppendToTheDead(t *testing.T) {
	a, b := []byte("a"), bytes.Repeat([]byte("b"), 65)
	for after := range 4 {
		for _, torn := range []int{0, 1, 32, 63, 64} {
			d := sector.New(9)
			j := open(t, d, nil, "new")
			put(t, j, a, 1)
			d.Fuse(after, torn)
			checkRefused(t, j, b, api.ErrDead, "cut", after, torn)
			checkTells(t, j, 9, [][]byte{a}, true, "cut", after, torn)
			left := sectorsModel(9, [][]byte{a})
			pages := pagesModel(2, b)
			copy(left[3:], pages[:after])
			left[3+after] = filled(pages[after][:torn])
			checkSectors(t, d, left, "cut", after, torn)
			d.Power()
			check(t, j.Dead(), true, "dead with power again")
			writes := d.Writes()
			for _, z := range [][]byte{a, nil, make([]byte, api.MaxBatch), make([]byte, api.MaxBatch+1)} {
				checkRefused(t, j, z, api.ErrDead, "dead", after, torn)
			}
			checkTells(t, j, 9, [][]byte{a}, true, "dead", after, torn)
			check(t, d.Writes(), writes, "writes of the dead", after, torn)
			checkSectors(t, d, left, "dead", after, torn)
		}
	}
}

// P12.2: it is a write that tells a journal that its disk has no power.
func TestAppendToADeadDisk(t *testing.T) {
	d := sector.New(7)
	j := open(t, d, nil, "new")
	cutNow(d, 0)
	d.Write(6, make([]byte, api.SectorLen))
	check(t, j.Dead(), false, "ahead of a write")
	checkRefused(t, j, nil, api.ErrArg, "no batch's bytes")
	checkRefused(t, j, make([]byte, 1000), api.ErrFull, "too many sectors")
	check(t, j.Dead(), false, "behind what is not written")
	checkRefused(t, j, []byte("a"), api.ErrDead, "a batch")
	check(t, j.Dead(), true, "behind a write")
	d.Power()
	checkRefused(t, j, []byte("a"), api.ErrDead, "with power again")
	checkTells(t, j, 7, nil, true, "with power again")
	open(t, d, nil, "with power again")
}

// P12.2: power that went and came between two batches does not matter.
func TestAppendBehindPower(t *testing.T) {
	d := sector.New(7)
	j := open(t, d, nil, "new")
	cutNow(d, 0)
	d.Write(6, make([]byte, api.SectorLen))
	d.Power()
	put(t, j, []byte("a"), 1)
	checkTells(t, j, 7, [][]byte{[]byte("a")}, false, "behind power")
}

// P12.3
func TestNoJournal(t *testing.T) {
	for what, j := range map[string]*journal.Journal{"nil": nil, "that no call made": {}} {
		for _, b := range [][]byte{nil, []byte("a"), make([]byte, api.MaxBatch+1)} {
			checkRefused(t, j, b, api.ErrNil, "a journal", what)
		}
		check(t, j.Len(), 0, what, "len")
		check(t, j.Tail(), 0, what, "tail")
		check(t, j.Room(), 0, what, "room")
		check(t, j.Dead(), false, what, "dead")
	}
}

// P12.3: the example.
func TestExample(t *testing.T) {
	d := sector.New(6)
	j := open(t, d, nil, "new")
	put(t, j, []byte("a"), 1)
	put(t, j, []byte("b"), 2)
	checkTells(t, j, 6, [][]byte{[]byte("a"), []byte("b")}, false, "two batches")
	checkRefused(t, j, []byte("c"), api.ErrFull, "a third one")
}

// P12.3: two disks' journals know nothing of one another.
func TestTwoJournals(t *testing.T) {
	d, other := sector.New(6), sector.New(9)
	j, k := open(t, d, nil, "new"), open(t, other, nil, "new")
	put(t, j, []byte("a"), 1)
	put(t, k, []byte("k"), 1)
	put(t, k, []byte("l"), 2)
	checkTells(t, j, 6, [][]byte{[]byte("a")}, false, "the first one")
	checkTells(t, k, 9, [][]byte{[]byte("k"), []byte("l")}, false, "the second one")
	cutNow(other, 0)
	checkRefused(t, k, []byte("m"), api.ErrDead, "the second one")
	check(t, j.Dead(), false, "the first one is dead")
	put(t, j, []byte("b"), 2)
}

// recovered holds a disk, opened at last, to have all batches that were acknowledged, and perhaps the one on its way, and to be opened once more without a write; it hands on what there is.
func recovered(t *testing.T, d *sector.Disk, batches [][]byte, kept int, what ...any) [][]byte {
	t.Helper()
	_, l, e := journal.Open(d)
	if e != api.OK || len(l) < kept || len(l) > kept+1 || len(l) > len(batches) {
		t.Fatalf("%v: %d batches, %d; %d were acknowledged", what, len(l), int(e), kept)
	}
	writes := d.Writes()
	j := open(t, d, batches[:len(l)], what...)
	check(t, d.Writes(), writes, what, "writes when it is opened once more")
	if last := []byte("behind"); j.Room() >= 3 {
		put(t, j, last, len(l)+1, what...)
		open(t, d, append(slices.Clone(batches[:len(l)]), last), what, "and one more")
	}
	return l
}

// crashed tells a disk whose power went at that write of batches, with power again, and how many were acknowledged; nothing, if power never went.
func crashed(t *testing.T, many int, batches [][]byte, after, torn int) (*sector.Disk, int) {
	t.Helper()
	d := sector.New(many)
	j := open(t, d, nil, "new")
	d.Fuse(after, torn)
	for i, b := range batches {
		if _, e := j.Append(b); e != api.OK {
			check(t, e, api.ErrDead, "crash at", after, torn)
			d.Power()
			return d, i
		}
	}
	return nil, len(batches)
}

// P12.4, P12.5: power goes at each write, whatever is torn, and again at each write of the opening.
func TestCrash(t *testing.T) {
	c := rand.New(rand.NewSource(26))
	batches := texts(c, 1, 64, 130, 65, 3)
	many := tailModel(batches) + 4
	for after := range tailModel(batches) {
		for torn := range api.SectorLen + 1 {
			d, kept := crashed(t, many, batches, after, torn)
			for again := 0; ; again++ {
				half := d.Clone()
				half.Fuse(again, c.Intn(api.SectorLen+1))
				_, l, e := journal.Open(half)
				half.Power()
				recovered(t, half, batches, kept, "crash at", after, torn, "and", again)
				if e == api.OK {
					break
				}
				check(t, e, api.ErrDead, "opened, and cut at", again)
				check(t, len(l), 0, "batches told, and cut at", again)
			}
		}
	}
	if d, _ := crashed(t, many, batches, tailModel(batches), 0); d != nil {
		t.Fatal("power went behind the last write")
	}
}

// P12.4: a batch whose end was wholly written is there, one whose end lacks something is not.
func TestCrashAtTheEnd(t *testing.T) {
	batches := [][]byte{[]byte("a"), []byte("b")}
	for after := range 6 {
		for torn := range api.SectorLen + 1 {
			d, kept := crashed(t, 8, batches, after, torn)
			page := pagesModel(after/3+1, batches[after/3])[after%3]
			whole := after%3 == 2 && bytes.Equal(filled(page[:torn]), page)
			if l := recovered(t, d, batches, kept, "crash at", after, torn); len(l) > kept != whole {
				t.Fatal("crash at", after, torn, "leaves", len(l), "batches")
			}
		}
	}
}

// P12.4, P12.5: power goes again and again, while batches of chance are written, and while they are opened.
func TestCrashByChance(t *testing.T) {
	c := rand.New(rand.NewSource(27))
	for round := range 300 {
		d := sector.New(60)
		var kept, flight [][]byte // those acknowledged, and the one on its way
		for step := range 25 {
			j, l, e := journal.Open(d)
			if e != api.OK {
				check(t, e, api.ErrDead, "open in round", round, step)
				d.Power()
				continue
			}
			if len(l) > len(kept) {
				kept = append(kept, flight...)
			}
			if !slices.EqualFunc(l, kept, bytes.Equal) {
				t.Fatal("lost in round", round, step)
			}
			flight = nil
			d.Fuse(c.Intn(12), c.Intn(api.SectorLen+1))
			for range c.Intn(4) {
				b := some(c, len(kept)+1)
				seq, e := j.Append(b)
				if e == api.ErrDead {
					flight = [][]byte{b}
				}
				if e != api.OK {
					break
				}
				kept = append(kept, b)
				check(t, seq, len(kept), "number in round", round, step)
			}
			if c.Intn(4) > 0 { // else it may go while it is opened
				d.Power()
			}
		}
		d.Power()
		recovered(t, d, append(slices.Clone(kept), flight...), len(kept), "round", round)
	}
}

// some tells a batch by chance; it may look like sectors of the batch that comes next.
func some(c *rand.Rand, seq int) []byte {
	if c.Intn(3) == 0 {
		return slices.Concat(pagesModel(seq+c.Intn(2), []byte("x"))...)
	}
	return text(c, 1+c.Intn(150))
}
