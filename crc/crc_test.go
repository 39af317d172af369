package crc_test

import (
	"bytes"
	"hash/crc32"
	"math"
	"math/rand"
	"slices"
	"strings"
	"testing"

	"octroi/api"
	"octroi/crc"
)

const mostJoin = 1 << 20

// on is the model: a register goes on as the document says, bit by bit.
func on(sum uint32, b []byte) uint32 {
	register := ^sum
	for _, x := range b {
		register ^= uint32(x)
		for range 8 {
			lost := register & 1
			register >>= 1
			if lost == 1 {
				register ^= 0xEDB88320
			}
		}
	}
	return ^register
}

func check[T comparable](t *testing.T, got, want T, what ...any) {
	t.Helper()
	if got != want {
		t.Fatalf("%v: %v, not %v", what, got, want)
	}
}

// checkBytes holds what is told to be these bytes, without an error.
func checkBytes(t *testing.T, got []byte, e api.Errno, want []byte, what ...any) {
	t.Helper()
	if e != api.OK || !bytes.Equal(got, want) {
		t.Fatalf("%v: %v and %d, not %v", what, got, int(e), want)
	}
}

// checkNone holds what is told to be an error, and nothing beside it.
func checkNone(t *testing.T, got []byte, e, want api.Errno, what ...any) {
	t.Helper()
	if e != want || len(got) != 0 {
		t.Fatalf("%v: %v and %d, not %d", what, got, int(e), int(want))
	}
}

// text tells bytes by chance.
func text(c *rand.Rand, n int) []byte {
	b := make([]byte, n)
	c.Read(b)
	return b
}

// P6.1
func TestSumTold(t *testing.T) {
	for _, x := range []struct {
		text string
		want uint32
	}{
		{"", 0},
		{"123456789", 0xCBF43926},
		{"\x00", 0xD202EF8D},
		{"\x00\x00\x00\x00", 0x2144DF1C},
		{"\xff\xff\xff\xff", 0xFFFFFFFF},
		{"a", 0xE8B7BE43},
		{"abc", 0x352441C2},
	} {
		check(t, crc.Sum([]byte(x.text)), x.want, "sum of", x.text)
	}
	check(t, crc.Sum(nil), 0, "sum of nothing")
	check(t, crc.On(0xCBF43926, nil), 0xCBF43926, "on by nothing")
	check(t, crc.On(math.MaxUint32, nil), math.MaxUint32, "on by nothing")
	check(t, crc.On(0, []byte("123456789")), 0xCBF43926, "on of 0")
}

// P6.1
func TestSumIsTheModels(t *testing.T) {
	for b := range 1 << 16 {
		pair := []byte{byte(b), byte(b >> 8)}
		check(t, crc.Sum(pair), on(0, pair), pair)
		check(t, crc.Sum(pair[:1]), on(0, pair[:1]), pair[:1])
	}
	c := rand.New(rand.NewSource(8))
	for range 3000 {
		b, sum := text(c, c.Intn(300)), c.Uint32()
		check(t, crc.Sum(b), on(0, b), b)
		check(t, crc.Sum(b), crc32.ChecksumIEEE(b), b)
		check(t, crc.On(sum, b), on(sum, b), sum, b)
		check(t, crc.On(sum, b), crc32.Update(sum, crc32.IEEETable, b), sum, b)
	}
}

// P6.1
func TestLongText(t *testing.T) {
	b := text(rand.New(rand.NewSource(9)), 3<<20)
	check(t, crc.Sum(b), crc32.ChecksumIEEE(b), "a long text")
}

// P6.2
func TestJoinTold(t *testing.T) {
	check(t, crc.Join(crc.Sum([]byte("1234")), crc.Sum([]byte("56789")), 5), 0xCBF43926, "two")
	check(t, crc.Join(0xCBF43926, 0, 0), 0xCBF43926, "nothing behind it")
	check(t, crc.Join(0, 0xCBF43926, 9), 0xCBF43926, "nothing ahead of it")
	check(t, crc.Join(0, 0, 0), 0, "nothing and nothing")
	for _, n := range []int{-1, -9, mostJoin + 1, mostJoin * 2, 1 << 32, 1<<32 + 5, math.MaxInt, math.MinInt} {
		check(t, crc.Join(crc.Sum([]byte("1234")), crc.Sum([]byte("56789")), n), 0, "bytes", n)
		check(t, crc.Join(0xCBF43926, 0, n), 0, "bytes", n)
	}
}

// checkJoin holds Join of two texts' sums to be the sum of both.
func checkJoin(t *testing.T, a, b []byte) {
	t.Helper()
	want := crc32.ChecksumIEEE(slices.Concat(a, b))
	check(t, crc.Join(crc32.ChecksumIEEE(a), crc32.ChecksumIEEE(b), len(b)), want, "texts of", len(a), len(b))
}

// P6.2
func TestJoinIsTheSumOfBoth(t *testing.T) {
	c := rand.New(rand.NewSource(10))
	for n := range 300 {
		checkJoin(t, text(c, c.Intn(40)), text(c, n))
		checkJoin(t, text(c, n), text(c, c.Intn(40)))
		checkJoin(t, text(c, n), make([]byte, n))
		checkJoin(t, make([]byte, n), text(c, n))
	}
	for bit := range 20 {
		for _, n := range []int{1<<bit - 1, 1 << bit, 1<<bit + 1} {
			checkJoin(t, text(c, 9), text(c, n))
		}
	}
	for _, n := range []int{mostJoin - 1, mostJoin, 1000000} {
		checkJoin(t, text(c, 9), text(c, n))
		checkJoin(t, text(c, n), text(c, 9))
	}
	checkJoin(t, text(c, mostJoin+1), text(c, 1)) // the first text may be of any length
}

// P6.2
func TestJoinOfAnySum(t *testing.T) {
	c := rand.New(rand.NewSource(11))
	for range 3000 {
		sum, b := c.Uint32(), text(c, c.Intn(70))
		check(t, crc.Join(sum, crc.Sum(b), len(b)), on(sum, b), sum, b)
	}
}

// P6.3
func TestWrapTold(t *testing.T) {
	checkBytes(t, crc.Wrap([]byte("123456789")), api.OK, []byte("\xCB\xF4\x39\x26123456789"), "wrap")
	checkBytes(t, crc.Wrap(nil), api.OK, []byte{0, 0, 0, 0}, "wrap of nothing")
	checkBytes(t, crc.Wrap([]byte{}), api.OK, []byte{0, 0, 0, 0}, "wrap of nothing")
	checkBytes(t, crc.Wrap([]byte{0}), api.OK, []byte{0xD2, 0x02, 0xEF, 0x8D, 0}, "wrap of a 0")
}

// P6.3
func TestUnwrapTold(t *testing.T) {
	b, e := crc.Unwrap([]byte("\xCB\xF4\x39\x26123456789"))
	checkBytes(t, b, e, []byte("123456789"), "unwrap")
	b, e = crc.Unwrap([]byte{0, 0, 0, 0})
	checkBytes(t, b, e, nil, "unwrap of nothing")
	for _, x := range [][]byte{nil, {}, {0}, {0, 0}, {0, 0, 0}, {0xCB, 0xF4, 0x39}} {
		b, e = crc.Unwrap(x)
		checkNone(t, b, e, api.ErrForm, x)
	}
	for _, x := range []string{
		"\x00\x00\x00\x01", "\x01\x00\x00\x00", "\xff\xff\xff\xff", // of nothing
		"\x26\x39\xF4\xCB123456789",                                                  // the lowest first
		"\xCB\xF4\x39\x2612345678", "\xCB\xF4\x39\x261234567890", "\xCB\xF4\x39\x26", // too short, too long
		"\xCB\xF4\x39\x26123456798", "123456789\xCB\xF4\x39\x26", "\x00\x00\x00\x00123456789",
	} {
		b, e = crc.Unwrap([]byte(x))
		checkNone(t, b, e, api.ErrSum, x)
	}
}

// P6.3
func TestUnwrapOfWrap(t *testing.T) {
	c := rand.New(rand.NewSource(12))
	for n := range 400 {
		x := text(c, n)
		w := crc.Wrap(x)
		check(t, len(w), n+4, n)
		b, e := crc.Unwrap(w)
		checkBytes(t, b, e, x, n)
	}
}

// P6.3
func TestEachBitOfTheSumIsAsked(t *testing.T) {
	for bit := range 32 {
		w := crc.Wrap([]byte("octroi"))
		w[bit/8] ^= 1 << (bit % 8)
		b, e := crc.Unwrap(w)
		checkNone(t, b, e, api.ErrSum, "bit", bit)
	}
}

// P6.3
func TestWhatIsToldIsNew(t *testing.T) {
	room := []byte("123456789abcdefgh")
	w := crc.Wrap(room[:9])
	u, _ := crc.Unwrap(w)
	for i := range u {
		u[i] = 0
	}
	_ = append(u[:0:cap(u)], make([]byte, cap(u))...)
	checkBytes(t, w, api.OK, []byte("\xCB\xF4\x39\x26123456789"), "what Unwrap told shares nothing with what it was handed")
	clear(w[:cap(w)])
	if string(room) != "123456789abcdefgh" {
		t.Error("what was handed in is changed:", string(room))
	}
	copied := append(crc.Wrap(room[:9]), "tail"...)
	b, e := crc.Unwrap(copied[:13])
	checkBytes(t, b, e, []byte("123456789"), "what is behind the list's length is not read")
}

// P6.4
func TestParts(t *testing.T) {
	c := rand.New(rand.NewSource(13))
	for range 2000 {
		b := text(c, c.Intn(100))
		want, sum, joined := crc.Sum(b), uint32(0), uint32(0)
		for left := b; len(left) > 0; {
			n := min(len(left), c.Intn(12))
			sum = crc.On(sum, left[:n])
			joined = crc.Join(joined, crc.Sum(left[:n]), n)
			left = left[n:]
		}
		check(t, sum, want, "on", b)
		check(t, joined, want, "join", b)
	}
}

// checkBurst holds bits that are others, from a bit of the text on, to be found.
func checkBurst(t *testing.T, wrapped []byte, from int, bits uint32) {
	t.Helper()
	other := slices.Clone(wrapped)
	for i := 0; i < 32; i++ {
		if at := from + i; bits>>i&1 == 1 && at < 8*(len(other)-4) {
			other[4+at/8] ^= 1 << (at % 8)
		}
	}
	if bytes.Equal(other, wrapped) {
		return
	}
	b, e := crc.Unwrap(other)
	checkNone(t, b, e, api.ErrSum, "from", from, "bits", bits)
}

// P6.5
func TestBurst(t *testing.T) {
	c := rand.New(rand.NewSource(14))
	for _, x := range []string{"octroi", "\x00", "\x00\x00\x00\x00\x00", strings.Repeat("\xff", 9), "a longer text, of more than the 32 bits of a sum"} {
		w := crc.Wrap([]byte(x))
		for from := range 8 * len(x) {
			for bits := uint32(1); bits < 256; bits++ {
				checkBurst(t, w, from, bits)
			}
			for range 200 {
				checkBurst(t, w, from, c.Uint32()|1)
			}
			for _, bits := range []uint32{1 << 31, 1<<31 | 1, math.MaxUint32, 0xEDB88320, 0x04C11DB7, 0xDB710641} {
				checkBurst(t, w, from, bits)
			}
		}
	}
}
