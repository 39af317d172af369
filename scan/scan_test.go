package scan_test

import (
	"bytes"
	"encoding/binary"
	"hash/crc32"
	"math"
	"math/rand"
	"slices"
	"testing"

	"octroi/api"
	"octroi/scan"
	"octroi/sector"
)

// lens are the lengths of batches at which something changes.
var lens = []int{1, 2, 63, 64, 65, 127, 128, 129, 200}

// filled tells a sector that begins with b, and has 0 behind it.
func filled(b []byte) []byte {
	return append(bytes.Clone(b), make([]byte, api.SectorLen-len(b))...)
}

// sealed tells a sector of these bytes, with the library's sum ahead of them.
func sealed(b []byte) []byte {
	return filled(append(binary.BigEndian.AppendUint32(nil, crc32.ChecksumIEEE(b)), b...))
}

// headModel is a head, word for word as the document says it.
func headModel(seq, n int, sum uint32) []byte {
	b := binary.BigEndian.AppendUint64([]byte{72}, uint64(seq))
	b = binary.BigEndian.AppendUint32(b, uint32(n))
	return sealed(binary.BigEndian.AppendUint32(b, sum))
}

// endModel is an end.
func endModel(seq int, sum uint32) []byte {
	b := binary.BigEndian.AppendUint64([]byte{69}, uint64(seq))
	return sealed(binary.BigEndian.AppendUint32(b, sum))
}

// pagesModel is a batch's sectors.
func pagesModel(seq int, b []byte) [][]byte {
	sum := crc32.ChecksumIEEE(b)
	told := [][]byte{headModel(seq, len(b), sum)}
	for chunk := range slices.Chunk(b, api.SectorLen) {
		told = append(told, filled(chunk))
	}
	return append(told, endModel(seq, sum))
}

// findModel is what stands on sectors: a batch stands there, if its sectors are just those that its bytes would be written as.
func findModel(sectors [][]byte) (l [][]byte, tail int) {
	for tail < len(sectors) {
		n := int(binary.BigEndian.Uint32(sectors[tail][13:]))
		many := (n + api.SectorLen - 1) / api.SectorLen
		if n < 1 || n > api.MaxBatch || tail+many+2 > len(sectors) {
			break
		}
		b := slices.Concat(sectors[tail+1 : tail+1+many]...)[:n]
		if !slices.EqualFunc(pagesModel(len(l)+1, b), sectors[tail:tail+many+2], bytes.Equal) {
			break
		}
		l = append(l, b)
		tail += many + 2
	}
	return l, tail
}

// blanks tells so many sectors that are blank.
func blanks(many int) [][]byte {
	var told [][]byte
	for range many {
		told = append(told, make([]byte, api.SectorLen))
	}
	return told
}

func isBlank(p []byte) bool { return bytes.Equal(p, make([]byte, api.SectorLen)) }

func check[T comparable](t *testing.T, got, want T, what ...any) {
	t.Helper()
	if got != want {
		t.Fatalf("%v: %v, not %v", what, got, want)
	}
}

// diskOf tells a disk of these sectors.
func diskOf(t *testing.T, sectors [][]byte) *sector.Disk {
	t.Helper()
	d := sector.New(len(sectors))
	for i, p := range sectors {
		check(t, d.Write(i, p), api.OK, "write", i)
	}
	return d
}

// sectorsOf tells a disk's sectors.
func sectorsOf(d *sector.Disk) [][]byte {
	var told [][]byte
	for _, p := range d.All() {
		told = append(told, p)
	}
	return told
}

// checkFind holds just these batches to stand on a disk, and nothing to be written.
func checkFind(t *testing.T, d *sector.Disk, want [][]byte, wantTail int, what ...any) {
	t.Helper()
	ahead, writes := sectorsOf(d), d.Writes()
	l, tail, e := scan.Find(d)
	if e != api.OK || tail != wantTail || !slices.EqualFunc(l, want, bytes.Equal) {
		t.Fatalf("%v: %d batches, tail %d, %d; not %d, tail %d", what, len(l), tail, int(e), len(want), wantTail)
	}
	checkSectors(t, d, ahead, what, "behind Find")
	check(t, d.Writes(), writes, what, "writes of Find")
}

// checkSectors holds a disk's sectors to be just these.
func checkSectors(t *testing.T, d *sector.Disk, want [][]byte, what ...any) {
	t.Helper()
	for i, p := range d.All() {
		if !bytes.Equal(p, want[i]) {
			t.Fatalf("%v: sector %d is %v, not %v", what, i, p, want[i])
		}
	}
}

// checkModel holds Find to tell what the model tells of a disk's sectors, and hands that on.
func checkModel(t *testing.T, d *sector.Disk, what ...any) ([][]byte, int) {
	t.Helper()
	l, tail := findModel(sectorsOf(d))
	checkFind(t, d, l, tail, what...)
	return l, tail
}

// checkNotFound holds Find to tell nothing but an error.
func checkNotFound(t *testing.T, d *sector.Disk, want api.Errno, what ...any) {
	t.Helper()
	if l, tail, e := scan.Find(d); e != want || len(l) != 0 || tail != 0 {
		t.Fatalf("%v: %d batches, tail %d, %d; not %d", what, len(l), tail, int(e), int(want))
	}
}

// checkDirty holds just so many sectors to be dirty from a tail on.
func checkDirty(t *testing.T, d *sector.Disk, tail, want int, what ...any) {
	t.Helper()
	ahead, writes := sectorsOf(d), d.Writes()
	many, e := scan.Dirty(d, tail)
	check(t, e, api.OK, what, "error of Dirty from", tail)
	check(t, many, want, what, "dirty from", tail)
	checkSectors(t, d, ahead, what, "behind Dirty")
	check(t, d.Writes(), writes, what, "writes of Dirty")
}

// checkRefused holds Dirty and Wipe to tell nothing but an error, and a disk to be as it was.
func checkRefused(t *testing.T, d *sector.Disk, tail int, want api.Errno, what ...any) {
	t.Helper()
	ahead, writes := sectorsOf(d), d.Writes()
	for name, call := range map[string]func(*sector.Disk, int) (int, api.Errno){"dirty": scan.Dirty, "wipe": scan.Wipe} {
		many, e := call(d, tail)
		check(t, e, want, what, name, "from", tail)
		check(t, many, 0, what, name, "how many from", tail)
	}
	checkSectors(t, d, ahead, what)
	check(t, d.Writes(), writes, what, "writes")
}

// text tells bytes by chance.
func text(c *rand.Rand, n int) []byte {
	b := make([]byte, n)
	c.Read(b)
	return b
}

// P11.1
func TestFindBatches(t *testing.T) {
	c := rand.New(rand.NewSource(11))
	for _, n := range lens {
		for _, next := range lens {
			var sectors, batches [][]byte
			for i, n := range []int{n, next, 1} {
				checkFind(t, diskOf(t, append(slices.Clone(sectors), blanks(5)...)), batches, len(sectors), "with room", i, n)
				batches = append(batches, text(c, n))
				sectors = append(sectors, pagesModel(i+1, batches[i])...)
				checkFind(t, diskOf(t, sectors), batches, len(sectors), "full", i, n)
			}
		}
	}
}

// P11.1
func TestFindNothing(t *testing.T) {
	for _, many := range []int{1, 2, 3, 64, api.MaxSectors} {
		checkFind(t, sector.New(many), nil, 0, "a new disk of", many)
	}
	b := []byte("a")
	checkFind(t, diskOf(t, append(blanks(1), pagesModel(1, b)...)), nil, 0, "a batch behind a blank sector")
	for _, seq := range []int{2, 3, 1 << 32, 1<<32 + 1, api.MaxMoney} {
		checkFind(t, diskOf(t, pagesModel(seq, b)), nil, 0, "a first batch of number", seq)
	}
	checkFind(t, diskOf(t, [][]byte{headModel(0, 1, 0), filled(b), endModel(0, 0)}), nil, 0, "a first batch of number 0")
}

// P11.1
func TestFindNumbersThatRise(t *testing.T) {
	a, b := []byte("a"), []byte("b")
	for _, seq := range []int{1, 3, 4, 1<<32 + 2, api.MaxMoney} {
		checkFind(t, diskOf(t, slices.Concat(pagesModel(1, a), pagesModel(seq, b), pagesModel(2, b))), [][]byte{a}, 3, "behind the first one", seq)
	}
	checkFind(t, diskOf(t, slices.Concat(pagesModel(1, a), pagesModel(2, b), pagesModel(2, b))), [][]byte{a, b}, 6, "the second one twice")
}

// P11.1
func TestFindTheGreatest(t *testing.T) {
	c := rand.New(rand.NewSource(12))
	for _, n := range []int{api.MaxBatch - 64, api.MaxBatch - 63, api.MaxBatch - 1, api.MaxBatch} {
		b, small := text(c, n), text(c, 1)
		sectors := slices.Concat(pagesModel(1, b), pagesModel(2, small))
		checkFind(t, diskOf(t, sectors), [][]byte{b, small}, len(sectors), "of", n)
		checkFind(t, diskOf(t, sectors[:len(sectors)-4]), nil, 0, "of", n, "that lacks its end")
	}
}

// P11.1
func TestFindMostBatches(t *testing.T) {
	var sectors, batches [][]byte
	for i := 1; len(sectors)+3 <= api.MaxSectors; i++ {
		batches = append(batches, []byte{byte(i), byte(i >> 8)})
		sectors = append(sectors, pagesModel(i, batches[i-1])...)
	}
	checkFind(t, diskOf(t, append(sectors, blanks(api.MaxSectors-len(sectors))...)), batches, len(sectors), "most batches")
}

// P11.1
func TestFindOnlyWholeBatches(t *testing.T) {
	a, b, z := []byte("first"), bytes.Repeat([]byte("x"), 70), []byte("last")
	sectors := slices.Concat(pagesModel(1, a), pagesModel(2, b), pagesModel(3, z))
	for many := 1; many <= len(sectors); many++ {
		checkModel(t, diskOf(t, sectors[:many]), "a disk that ends at", many)
		checkModel(t, diskOf(t, append(slices.Clone(sectors[:many]), blanks(len(sectors)-many)...)), "blank from there on", many)
	}
	for i := range sectors {
		for at := range api.SectorLen {
			changed := slices.Clone(sectors)
			changed[i] = bytes.Clone(sectors[i])
			changed[i][at] ^= 1 << (at % 8)
			l, _ := checkModel(t, diskOf(t, changed), "a bit in", i, at)
			if want := []int{0, 0, 0, 1, 1, 1, 1, 2, 2, 2}[i]; len(l) != want {
				t.Fatal("the model finds", len(l), "batches, if sector", i, "is another")
			}
		}
		for j := range i {
			changed := slices.Clone(sectors)
			changed[i], changed[j] = changed[j], changed[i]
			checkModel(t, diskOf(t, changed), "changed places", i, j)
		}
		checkModel(t, diskOf(t, slices.Delete(slices.Clone(sectors), i, i+1)), "one lost", i)
		checkModel(t, diskOf(t, slices.Insert(slices.Clone(sectors), i, sectors[i])), "one twice", i)
	}
}

// P11.1: what is no batch's may be just what a batch's head says, but for one thing.
func TestFindHeadsThatDoNotFit(t *testing.T) {
	a, b := []byte("a"), bytes.Repeat([]byte("b"), 65)
	sum := crc32.ChecksumIEEE(b)
	whole := pagesModel(2, b)
	for what, h := range map[string][]byte{
		"a length that has as many sectors": headModel(2, 66, sum),
		"a length of fewer":                 headModel(2, 64, sum),
		"a length of more":                  headModel(2, 129, sum),
		"a length that leaves the disk":     headModel(2, 1000, sum),
		"the greatest length":               headModel(2, api.MaxBatch, sum),
		"a length beyond":                   headModel(2, api.MaxBatch+1, sum),
		"a length of 32 bits":               headModel(2, math.MaxUint32, sum),
		"no length":                         headModel(2, 0, sum),
		"another sum":                       headModel(2, 65, sum+1),
		"another number":                    headModel(3, 65, sum),
		"an end":                            endModel(2, sum),
		"a blank sector":                    make([]byte, api.SectorLen),
	} {
		sectors := slices.Concat(pagesModel(1, a), [][]byte{h}, whole[1:], blanks(3))
		checkFind(t, diskOf(t, sectors), [][]byte{a}, 3, what)
	}
	for what, end := range map[string][]byte{"another sum": endModel(2, sum+1), "another number": endModel(1, sum), "a head": whole[0], "blank": make([]byte, api.SectorLen)} {
		sectors := slices.Concat(pagesModel(1, a), whole[:3], [][]byte{end}, blanks(3))
		checkFind(t, diskOf(t, sectors), [][]byte{a}, 3, "the end has", what)
	}
	fill := bytes.Clone(whole[2])
	fill[1] = 1
	checkFind(t, diskOf(t, slices.Concat(pagesModel(1, a), whole[:2], [][]byte{fill}, whole[3:])), [][]byte{a}, 3, "filled with another")
}

// P11.1: a batch's bytes may be a batch's sectors.
func TestFindBatchesInBatches(t *testing.T) {
	inner := slices.Concat(pagesModel(2, []byte("inner"))...)
	sectors := slices.Concat(pagesModel(1, inner), pagesModel(2, []byte("outer")))
	checkFind(t, diskOf(t, sectors), [][]byte{inner, []byte("outer")}, len(sectors), "a batch in a batch")
	cut := slices.Clone(sectors)
	cut[4] = make([]byte, api.SectorLen)
	checkFind(t, diskOf(t, cut), nil, 0, "a batch in what is none")
}

// P11.1
func TestFindByChance(t *testing.T) {
	c := rand.New(rand.NewSource(13))
	for round := range 4000 {
		var sectors [][]byte
		for i := range c.Intn(5) {
			seq := i + 1
			if c.Intn(12) == 0 {
				seq = c.Intn(6)
			}
			sectors = append(sectors, pagesModel(seq, text(c, 1+c.Intn(150)))...)
		}
		sectors = append(sectors, blanks(1+c.Intn(4))...)
		for range c.Intn(3) {
			i, torn := c.Intn(len(sectors)), c.Intn(api.SectorLen+1)
			from := sectors[c.Intn(len(sectors))]
			sectors[i] = slices.Concat(from[:torn], sectors[i][torn:])
		}
		if c.Intn(8) == 0 {
			sectors = sectors[:1+c.Intn(len(sectors))]
		}
		checkModel(t, diskOf(t, sectors), "round", round)
	}
}

// P11.1: batches are memory of their own.
func TestFindSharesNothing(t *testing.T) {
	a, b := bytes.Repeat([]byte("a"), 64), []byte("b")
	d := diskOf(t, append(pagesModel(1, a), pagesModel(2, b)...))
	l, _, _ := scan.Find(d)
	for _, b := range l {
		clear(b[:cap(b)])
	}
	checkFind(t, d, [][]byte{a, b}, 6, "behind a change of what was told")
}

// P11.1
func TestFindsErrors(t *testing.T) {
	checkNotFound(t, nil, api.ErrNil, "no disk")
	checkNotFound(t, &sector.Disk{}, api.ErrNil, "a disk that no call made")
	for _, sectors := range [][][]byte{blanks(1), blanks(4), pagesModel(1, []byte("a"))} {
		d := diskOf(t, sectors)
		d.Fuse(0, 0)
		d.Write(0, sectors[0])
		checkNotFound(t, d, api.ErrDead, "a dead disk")
		d.Power()
		checkModel(t, d, "with power again")
	}
}

// P11.2
func TestDirty(t *testing.T) {
	d := sector.New(6)
	for tail := range 7 {
		checkDirty(t, d, tail, 0, "a new disk")
	}
	last := make([]byte, api.SectorLen)
	last[api.SectorLen-1] = 1
	for i, p := range map[int][]byte{1: filled([]byte{1}), 2: last, 5: filled([]byte{0, 0, 128})} {
		d.Write(i, p)
	}
	for tail, want := range []int{3, 3, 2, 1, 1, 1, 0} {
		checkDirty(t, d, tail, want, "three sectors")
	}
	example := slices.Concat(pagesModel(1, []byte("a")), pagesModel(2, []byte("b"))[:1], blanks(3))
	checkFind(t, diskOf(t, example), [][]byte{[]byte("a")}, 3, "the example")
	checkDirty(t, diskOf(t, example), 3, 1, "the example")
	full := sector.New(api.MaxSectors)
	for i := range api.MaxSectors {
		full.Write(i, last)
	}
	checkDirty(t, full, 0, api.MaxSectors, "the greatest disk")
	checkDirty(t, full, api.MaxSectors-1, 1, "the greatest disk")
	checkDirty(t, full, api.MaxSectors, 0, "the greatest disk")
}

// P11.2
func TestRefusedTails(t *testing.T) {
	for _, tail := range []int{0, 1, -1, math.MinInt, math.MaxInt} {
		checkRefused(t, nil, tail, api.ErrNil, "no disk")
		checkRefused(t, &sector.Disk{}, tail, api.ErrNil, "a disk that no call made")
	}
	d := diskOf(t, pagesModel(1, []byte("a")))
	wrong := []int{-1, 4, math.MinInt, math.MaxInt, 1 << 32, -1 << 32, api.MaxSectors}
	for _, tail := range wrong {
		checkRefused(t, d, tail, api.ErrArg, "a disk of 3")
	}
	d.Fuse(0, 0)
	d.Write(0, make([]byte, api.SectorLen))
	for _, tail := range wrong {
		checkRefused(t, d, tail, api.ErrArg, "a dead disk of 3")
	}
	for tail := range 4 {
		checkRefused(t, d, tail, api.ErrDead, "a dead disk of 3")
	}
}

// wiped is the model of what Wipe leaves, and how many it writes.
func wiped(sectors [][]byte, tail int) ([][]byte, int) {
	left, many := slices.Clone(sectors), 0
	for i := tail; i < len(left); i++ {
		if !isBlank(left[i]) {
			left[i] = make([]byte, api.SectorLen)
			many++
		}
	}
	return left, many
}

// somewhere tells sectors by chance, some of them blank.
func somewhere(c *rand.Rand) [][]byte {
	sectors := blanks(1 + c.Intn(9))
	for i := range sectors {
		switch c.Intn(4) {
		case 0:
			c.Read(sectors[i])
		case 1:
			sectors[i][c.Intn(api.SectorLen)] = 1 << c.Intn(8)
		}
	}
	return sectors
}

// P11.2, P11.4
func TestWipe(t *testing.T) {
	c := rand.New(rand.NewSource(14))
	for round := range 2000 {
		sectors := somewhere(c)
		tail := c.Intn(len(sectors) + 1)
		left, want := wiped(sectors, tail)
		d := diskOf(t, sectors)
		checkDirty(t, d, tail, want, "round", round)
		writes := d.Writes()
		many, e := scan.Wipe(d, tail)
		check(t, e, api.OK, "round", round)
		check(t, many, want, "wiped in round", round)
		check(t, d.Writes(), writes+want, "writes in round", round)
		checkSectors(t, d, left, "round", round)
		checkDirty(t, d, tail, 0, "round", round)
		many, e = scan.Wipe(d, tail)
		check(t, e, api.OK, "again in round", round)
		check(t, many, 0, "wiped again in round", round)
		check(t, d.Writes(), writes+want, "writes again in round", round)
	}
}

// P11.2: with an error of a write those ahead of it are blank, and it is torn.
func TestWipeThatIsCut(t *testing.T) {
	c := rand.New(rand.NewSource(15))
	for round := range 400 {
		sectors := somewhere(c)
		tail := c.Intn(len(sectors) + 1)
		_, all := wiped(sectors, tail)
		for after := range all + 1 {
			d, torn := diskOf(t, sectors), c.Intn(api.SectorLen+1)
			writes := d.Writes()
			d.Fuse(after, torn)
			left, many := slices.Clone(sectors), 0
			for i := tail; i < len(left) && many <= after; i++ {
				if isBlank(left[i]) {
					continue
				}
				if many == after {
					left[i] = append(make([]byte, torn), left[i][torn:]...)
				} else {
					left[i] = make([]byte, api.SectorLen)
				}
				many++
			}
			told, e := scan.Wipe(d, tail)
			if after < all {
				check(t, e, api.ErrDead, "cut in round", round, after)
				check(t, told, 0, "wiped by what is cut in round", round, after)
			} else {
				check(t, e, api.OK, "not cut in round", round, after)
				check(t, told, all, "wiped by what is not cut in round", round, after)
			}
			check(t, d.Writes(), writes+after, "writes in round", round, after)
			checkSectors(t, d, left, "round", round, after)
		}
	}
}

// P11.3
func TestWipedBehindTheTail(t *testing.T) {
	c := rand.New(rand.NewSource(16))
	for round := range 1000 {
		var sectors [][]byte
		for i := range c.Intn(4) {
			sectors = append(sectors, pagesModel(i+1, text(c, 1+c.Intn(150)))...)
		}
		stale := pagesModel(1+c.Intn(4), text(c, 1+c.Intn(150)))
		sectors = slices.Concat(sectors, stale[:c.Intn(len(stale)+1)], somewhere(c))
		d := diskOf(t, sectors)
		l, tail := checkModel(t, d, "round", round)
		for cut := c.Intn(4); cut > 0; cut-- {
			d.Fuse(c.Intn(4), c.Intn(api.SectorLen+1))
			scan.Wipe(d, tail)
			d.Power()
			checkFind(t, d, l, tail, "half wiped in round", round)
		}
		if _, e := scan.Wipe(d, tail); e != api.OK {
			t.Fatal("round", round, int(e))
		}
		checkFind(t, d, l, tail, "wiped in round", round)
		checkDirty(t, d, tail, 0, "wiped in round", round)
	}
}
