package sector_test

import (
	"bytes"
	"math"
	"math/rand"
	"slices"
	"testing"

	"octroi/api"
	"octroi/sector"
)

// wrongPlaces, wrongLens and wrongTorn are no sectors, lengths of a sector and torn bytes of any disk.
var (
	wrongPlaces = []int{-1, math.MinInt, math.MaxInt, api.MaxSectors, 1 << 32, -1 << 32}
	wrongLens   = []int{0, 1, api.SectorLen - 1, api.SectorLen + 1, 2 * api.SectorLen, 1 << 16}
	wrongTorn   = []int{-1, math.MinInt, api.SectorLen + 1, math.MaxInt, 256 + 1, 1 << 32}
)

// model is a disk, word for word as the document says it.
type model struct {
	sectors            [][]byte
	dead, fused        bool
	left, torn, writes int
}

func newModel(many int) *model {
	m := &model{}
	for range many {
		m.sectors = append(m.sectors, make([]byte, api.SectorLen))
	}
	return m
}

func (m *model) clone() *model {
	other := *m
	other.sectors = nil
	for _, b := range m.sectors {
		other.sectors = append(other.sectors, bytes.Clone(b))
	}
	return &other
}

func (m *model) reach(i int) api.Errno {
	if m.dead {
		return api.ErrDead
	}
	if i < 0 || i >= len(m.sectors) {
		return api.ErrRange
	}
	return api.OK
}

func (m *model) write(i int, b []byte) api.Errno {
	if e := m.reach(i); e != api.OK {
		return e
	}
	if len(b) != api.SectorLen {
		return api.ErrArg
	}
	if m.fused && m.left == 0 {
		m.sectors[i] = slices.Concat(b[:m.torn], m.sectors[i][m.torn:])
		m.dead, m.fused = true, false
		return api.ErrDead
	}
	m.sectors[i] = bytes.Clone(b)
	m.writes++
	m.left--
	return api.OK
}

func (m *model) fuse(after, torn int) api.Errno {
	if after < 0 || torn < 0 || torn > api.SectorLen {
		return api.ErrArg
	}
	m.fused, m.left, m.torn = true, after, torn
	return api.OK
}

func (m *model) power() api.Errno {
	m.dead, m.fused = false, false
	return api.OK
}

func check[T comparable](t *testing.T, got, want T, what ...any) {
	t.Helper()
	if got != want {
		t.Fatalf("%v: %v, not %v", what, got, want)
	}
}

// of tells a sector of one byte, again and again.
func of(x byte) []byte { return bytes.Repeat([]byte{x}, api.SectorLen) }

// some tells bytes by chance, of a length by chance; most of them are a sector's.
func some(c *rand.Rand) []byte {
	b := of(0)
	if c.Intn(12) == 0 {
		b = make([]byte, wrongLens[c.Intn(len(wrongLens))])
	}
	if c.Intn(4) > 0 { // else blank
		c.Read(b)
	}
	return b
}

// disk tells a disk that must be one.
func disk(t *testing.T, many int) *sector.Disk {
	t.Helper()
	d := sector.New(many)
	if d == nil {
		t.Fatal("no disk of", many)
	}
	return d
}

// checkRead holds a sector to have just these bytes.
func checkRead(t *testing.T, d *sector.Disk, i int, want []byte, what ...any) {
	t.Helper()
	if b, e := d.Read(i); e != api.OK || !bytes.Equal(b, want) {
		t.Fatalf("%v: sector %d: %v and %d, not %v", what, i, b, int(e), want)
	}
}

// checkUnread holds a sector not to be read, for that reason.
func checkUnread(t *testing.T, d *sector.Disk, i int, want api.Errno, what ...any) {
	t.Helper()
	if b, e := d.Read(i); e != want || len(b) != 0 {
		t.Fatalf("%v: sector %d: %v and %d, not %d", what, i, b, int(e), int(want))
	}
}

// checkIs holds all that a disk tells to be the model's.
func checkIs(t *testing.T, d *sector.Disk, m *model, what ...any) {
	t.Helper()
	check(t, d.Len(), len(m.sectors), what, "len")
	check(t, d.Dead(), m.dead, what, "dead")
	check(t, d.Writes(), m.writes, what, "writes")
	next := 0
	for i, b := range d.All() {
		check(t, i, next, what, "place")
		if !bytes.Equal(b, m.sectors[i]) {
			t.Fatalf("%v: sector %d: %v, not %v", what, i, b, m.sectors[i])
		}
		next++
	}
	check(t, next, len(m.sectors), what, "sectors told")
	for i, b := range m.sectors {
		if m.dead {
			checkUnread(t, d, i, api.ErrDead, what)
		} else {
			checkRead(t, d, i, b, what)
		}
	}
}

// P9.1
func TestNew(t *testing.T) {
	for _, many := range []int{1, 2, 3, 64, 1000, api.MaxSectors - 1, api.MaxSectors} {
		checkIs(t, disk(t, many), newModel(many), "new of", many)
	}
	for _, many := range []int{0, -1, math.MinInt, api.MaxSectors + 1, 1 << 32, 1<<32 + 1, math.MaxInt} {
		if sector.New(many) != nil {
			t.Error("a disk of", many)
		}
	}
}

// P9.1
func TestWritesThatAreOK(t *testing.T) {
	d := disk(t, 2)
	for i, want := range []int{1, 2, 3} {
		check(t, d.Write(i%2, of(0)), api.OK, "write")
		check(t, d.Writes(), want, "writes")
	}
	d.Write(2, of(1))
	d.Write(0, nil)
	d.Read(0)
	check(t, d.Writes(), 3, "writes behind wrong ones")
	d.Fuse(0, api.SectorLen)
	check(t, d.Write(0, of(1)), api.ErrDead, "a write that is cut")
	check(t, d.Write(0, of(1)), api.ErrDead, "a write of a dead disk")
	check(t, d.Writes(), 3, "writes behind cut ones")
	d.Power()
	check(t, d.Writes(), 3, "writes behind power")
	check(t, d.Write(0, of(1)), api.OK, "write")
	check(t, d.Writes(), 4, "writes")
}

// P9.1
func TestCloneIsTheSameInAll(t *testing.T) {
	d, m := disk(t, 3), newModel(3)
	same := func(what string) {
		t.Helper()
		checkIs(t, d.Clone(), m, "clone of", what)
	}
	same("a new one")
	d.Write(1, of(7))
	m.write(1, of(7))
	same("a written one")
	d.Fuse(2, 5)
	m.fuse(2, 5)
	d.Write(0, of(8))
	m.write(0, of(8))
	other, otherModel := d.Clone(), m.clone()
	for i := range 3 { // the fuse goes behind one more write
		check(t, other.Write(1, of(byte(i+20))), otherModel.write(1, of(byte(i+20))), "write of a clone")
		checkIs(t, other, otherModel, "a clone with a fuse")
		same("one whose clone is written")
	}
	check(t, other.Dead(), true, "the clone is dead")
	checkIs(t, other.Clone(), otherModel, "clone of a dead one")
	dead := other.Clone()
	other.Power()
	check(t, dead.Dead(), true, "a dead one, behind its source's power")
	for i := range 3 {
		check(t, d.Write(2, of(byte(i+30))), m.write(2, of(byte(i+30))), "write of the first one")
	}
	same("a torn one")
}

// P9.1, P9.3
func TestNoDisk(t *testing.T) {
	var none *sector.Disk
	if none.Clone() != nil {
		t.Error("a clone of nil")
	}
	plain := &sector.Disk{}
	copied := plain.Clone()
	if copied == nil || copied == plain {
		t.Fatal("a clone of a plain one:", copied)
	}
	for name, d := range map[string]*sector.Disk{"nil": none, "plain": plain, "clone of a plain one": copied, "new": new(sector.Disk), "of none": sector.New(0)} {
		for _, i := range append([]int{0, 1}, wrongPlaces...) {
			checkUnread(t, d, i, api.ErrNil, name)
			check(t, d.Write(i, of(1)), api.ErrNil, name, "write")
			check(t, d.Write(i, nil), api.ErrNil, name, "write of nothing")
		}
		check(t, d.Fuse(0, 0), api.ErrNil, name, "fuse")
		check(t, d.Fuse(-1, -1), api.ErrNil, name, "a wrong fuse")
		check(t, d.Power(), api.ErrNil, name, "power")
		check(t, d.Len(), 0, name, "len")
		check(t, d.Writes(), 0, name, "writes")
		check(t, d.Dead(), false, name, "dead")
		if d.All() == nil {
			t.Fatal(name, "tells no function")
		}
		for i, b := range d.All() {
			t.Error(name, "has a sector", i, b)
		}
	}
}

// P9.2
func TestReadErrors(t *testing.T) {
	for _, many := range []int{1, 3, api.MaxSectors} {
		d := disk(t, many)
		checkRead(t, d, 0, of(0), "the first")
		checkRead(t, d, many-1, of(0), "the last")
		for _, i := range append([]int{many}, wrongPlaces...) {
			checkUnread(t, d, i, api.ErrRange, many)
		}
		d.Fuse(0, 0)
		d.Write(0, of(1))
		for _, i := range append([]int{0, many - 1, many}, wrongPlaces...) {
			checkUnread(t, d, i, api.ErrDead, many, "without power")
		}
	}
}

// P9.2
func TestWriteErrors(t *testing.T) {
	d, m := disk(t, 3), newModel(3)
	check(t, d.Write(1, of(9)), m.write(1, of(9)), "write")
	refused := func(what string, places []int, want api.Errno) {
		t.Helper()
		for _, i := range places {
			for _, n := range wrongLens {
				check(t, d.Write(i, make([]byte, n)), want, what, i, n)
			}
			check(t, d.Write(i, nil), want, what, i)
			checkIs(t, d, m, what, i)
		}
	}
	wrong := append([]int{3}, wrongPlaces...)
	refused("length", []int{0, 1, 2}, api.ErrArg)
	refused("place and length", wrong, api.ErrRange)
	for _, i := range wrong {
		check(t, d.Write(i, of(1)), api.ErrRange, "place", i)
	}
	d.Fuse(0, 3)
	m.fuse(0, 3)
	refused("length, and a fuse", []int{0, 1, 2}, api.ErrArg) // it does not go by these
	refused("place, length and a fuse", wrong, api.ErrRange)
	check(t, d.Write(1, of(1)), m.write(1, of(1)), "a cut write")
	refused("a dead one's length", []int{0, 1, 2}, api.ErrDead)
	refused("a dead one's place and length", wrong, api.ErrDead)
}

// P9.2
func TestBytesAreNotShared(t *testing.T) {
	d := disk(t, 2)
	b := of(5)
	d.Write(0, b)
	b[0] = 6
	checkRead(t, d, 0, of(5), "what was handed in")
	d.Fuse(0, api.SectorLen)
	d.Write(1, b)
	b[1] = 7
	d.Power()
	checkRead(t, d, 1, append([]byte{6}, of(5)[1:]...), "what was cut")
	told, _ := d.Read(0)
	told[0] = 8
	checkRead(t, d, 0, of(5), "what was read")
	var all [][]byte
	for _, x := range d.All() {
		x[2]++
		all = append(all, x)
	}
	checkRead(t, d, 0, of(5), "what was told")
	if bytes.Equal(all[0], all[1]) {
		t.Error("all sectors are told in one place")
	}
	clone := d.Clone()
	d.Write(0, of(0))
	checkRead(t, clone, 0, of(5), "a clone")
}

// P9.2
func TestSpareRoomIsNotTouched(t *testing.T) {
	d := disk(t, 1)
	room := bytes.Repeat([]byte{9}, 3*api.SectorLen)
	d.Write(0, room[:api.SectorLen])
	d.Fuse(0, 9)
	d.Write(0, room[api.SectorLen:2*api.SectorLen])
	if !bytes.Equal(room, bytes.Repeat([]byte{9}, 3*api.SectorLen)) {
		t.Error("what was handed in is changed")
	}
	d.Power()
	check(t, d.Write(0, room[:api.SectorLen-1]), api.ErrArg, "a short one with room behind it")
}

// P9.3
func TestFuseLeavesSoManyWrites(t *testing.T) {
	for after := range 6 {
		for _, torn := range []int{0, 1, 63, 64} {
			d, m := disk(t, 4), newModel(4)
			check(t, d.Fuse(after, torn), api.OK, "fuse")
			m.fuse(after, torn)
			checkIs(t, d, m, "a fuse that is set")
			for n := range 9 {
				want := api.OK
				if n >= after {
					want = api.ErrDead
				}
				check(t, d.Write(n%4, of(byte(n+1))), want, after, torn, n)
				m.write(n%4, of(byte(n+1)))
				checkIs(t, d, m, after, torn, n)
			}
			d.Power()
			m.power()
			for n := range 9 { // the fuse is gone
				check(t, d.Write(n%4, of(byte(n+50))), api.OK, "behind power")
				m.write(n%4, of(byte(n+50)))
			}
			checkIs(t, d, m, after, torn, "behind power")
		}
	}
}

// P9.3
func TestFuseErrors(t *testing.T) {
	d := disk(t, 1)
	refused := func() {
		t.Helper()
		for _, torn := range wrongTorn {
			check(t, d.Fuse(0, torn), api.ErrArg, "torn", torn)
			check(t, d.Fuse(-1, torn), api.ErrArg, "both", torn)
		}
		for _, after := range []int{-1, -2, math.MinInt} {
			check(t, d.Fuse(after, 0), api.ErrArg, "after", after)
			check(t, d.Fuse(after, api.SectorLen), api.ErrArg, "after", after)
		}
	}
	refused()
	check(t, d.Write(0, of(1)), api.OK, "no fuse was set")
	check(t, d.Fuse(1, 2), api.OK, "fuse")
	refused() // and the fuse stays
	check(t, d.Write(0, of(2)), api.OK, "the write that is left")
	check(t, d.Write(0, of(3)), api.ErrDead, "the write behind it")
	refused()
	d.Power()
	checkRead(t, d, 0, append(of(3)[:2], of(2)[2:]...), "torn")
	check(t, d.Fuse(math.MaxInt, 0), api.OK, "the longest fuse")
	check(t, d.Write(0, of(4)), api.OK, "behind it")
}

// P9.3
func TestAnotherFuse(t *testing.T) {
	d := disk(t, 1)
	d.Fuse(0, 0)
	check(t, d.Fuse(2, 1), api.OK, "another fuse")
	for range 2 {
		check(t, d.Write(0, of(1)), api.OK, "the first fuse is forgotten")
	}
	d.Fuse(5, 0)
	d.Fuse(0, 3)
	check(t, d.Write(0, of(2)), api.ErrDead, "an earlier one")
	check(t, d.Fuse(0, 64), api.OK, "the fuse of a dead one")
	check(t, d.Dead(), true, "a fuse gives no power")
	check(t, d.Power(), api.OK, "power")
	check(t, d.Write(0, of(3)), api.OK, "power forgets a fuse")
	d.Fuse(0, 0)
	check(t, d.Power(), api.OK, "power that is there")
	check(t, d.Write(0, of(4)), api.OK, "power forgets a fuse")
	checkRead(t, d, 0, of(4), "at last")
	check(t, d.Dead(), false, "at last")
}

// P9.3
func TestAllIsLeft(t *testing.T) {
	d := disk(t, 5)
	for _, dead := range []bool{false, true} {
		for most := 1; most <= 5; most++ {
			seen := 0
			for i := range d.All() {
				check(t, i, seen, "place")
				if seen++; seen == most {
					break
				}
			}
			check(t, seen, most, "sectors told, dead:", dead)
		}
		d.Fuse(0, 0)
		d.Write(0, of(1))
	}
	all := d.All()
	for range 2 { // and it may be gone over again
		seen := 0
		for range all {
			seen++
		}
		check(t, seen, 5, "again")
	}
}

// P9.4
func TestTorn(t *testing.T) {
	check(t, api.SectorLen, 64, "a sector's length")
	for torn := range api.SectorLen + 1 {
		for _, x := range []struct{ was, is byte }{{1, 2}, {0, 3}, {4, 0}, {5, 5}, {0, 0}} {
			d := disk(t, 3)
			for i := range 3 {
				d.Write(i, of(x.was))
			}
			d.Fuse(0, torn)
			check(t, d.Write(1, of(x.is)), api.ErrDead, "a cut write")
			check(t, d.Dead(), true, "power is gone")
			d.Power()
			checkRead(t, d, 0, of(x.was), "ahead of it")
			checkRead(t, d, 1, append(of(x.is)[:torn], of(x.was)[torn:]...), "torn at", torn)
			checkRead(t, d, 2, of(x.was), "behind it")
		}
	}
}

// P9.2, example 1
func TestTornExample(t *testing.T) {
	d := disk(t, 1)
	check(t, d.Write(0, of('a')), api.OK, "a")
	check(t, d.Fuse(0, 2), api.OK, "fuse")
	check(t, d.Write(0, of('b')), api.ErrDead, "b")
	check(t, d.Power(), api.OK, "power")
	checkRead(t, d, 0, append([]byte("bb"), of('a')[2:]...), "torn")
}

// step does something by chance to a disk and to its model, and holds what both answer to be the same.
func step(t *testing.T, c *rand.Rand, d *sector.Disk, m *model) {
	t.Helper()
	i := c.Intn(len(m.sectors)+2) - 1
	switch c.Intn(10) {
	case 0:
		after, torn := c.Intn(9)-1, c.Intn(api.SectorLen+3)-1
		check(t, d.Fuse(after, torn), m.fuse(after, torn), "fuse", after, torn)
	case 1:
		check(t, d.Power(), m.power(), "power")
	default:
		b := some(c)
		check(t, d.Write(i, b), m.write(i, b), "write", i, len(b))
	}
}

// P9.1, P9.2, P9.3, P9.4
func TestDiskIsTheModels(t *testing.T) {
	c := rand.New(rand.NewSource(21))
	for range 60 {
		many := 1 + c.Intn(6)
		disks, models := []*sector.Disk{disk(t, many)}, []*model{newModel(many)}
		for range 200 {
			at := c.Intn(len(disks))
			if c.Intn(40) == 0 {
				disks, models = append(disks, disks[at].Clone()), append(models, models[at].clone())
			}
			step(t, c, disks[at], models[at])
			for j := range disks { // a step on one of them changes no other
				checkIs(t, disks[j], models[j], "disk", j, "behind a step on", at)
			}
		}
	}
}

// P9.2
func TestGreatestDisk(t *testing.T) {
	c := rand.New(rand.NewSource(22))
	d, m := disk(t, api.MaxSectors), newModel(api.MaxSectors)
	for i := range api.MaxSectors {
		b := some(c)
		check(t, d.Write(i, b), m.write(i, b), "write", i)
	}
	checkIs(t, d, m, "all are written")
	checkIs(t, d.Clone(), m, "its clone")
	for i := range api.MaxSectors {
		check(t, d.Write(i, of(0)), m.write(i, of(0)), "wipe", i)
	}
	checkIs(t, d, m, "all are wiped")
}
