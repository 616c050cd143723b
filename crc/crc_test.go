package crc

import (
	"hash/crc32"
	"math"
	"math/bits"
	"strings"
	"sync"
	"testing"
)

// taken is c, by which a bit is taken up, by the chapter's words.
func taken(c, bit uint32) uint32 {
	c ^= bit
	odd := c%2 == 1
	c /= 2
	if odd {
		c ^= 3988292384
	}
	return c
}

// read is c, by which all bytes of s are taken up, bit by bit.
func read(c uint32, s string) uint32 {
	for i := range len(s) {
		for k := range 8 {
			c = taken(c, uint32(s[i])>>k%2)
		}
	}
	return c
}

// told is what More has to answer.
func told(c uint32, s string) uint32 {
	return read(c^math.MaxUint32, s) ^ math.MaxUint32
}

// row is n numbers of 32 bits by a short rule, none like another.
func row(n int) []uint32 {
	l := make([]uint32, 0, n)
	for i := range n {
		c := uint32(i)*2654435761 + 12345
		l = append(l, c^c>>15)
	}
	return l
}

// edges are the numbers about each power of two, the least and the greatest ones among them.
func edges() []uint32 {
	l := []uint32{0, math.MaxUint32, math.MaxUint32 - 1, 3988292384, 3421780262}
	for k := range 32 {
		p := uint32(1) << k
		l = append(l, p-1, p, p+1, ^p)
	}
	return append(l, row(40)...)
}

// text is n bytes by a short rule.
func text(n int) string {
	b := make([]byte, 0, n)
	for _, c := range row(n) {
		b = append(b, byte(c>>11))
	}
	return string(b)
}

// texts are ordinary ones and edges.
func texts() []string {
	l := []string{"", "a", "abc", "123456789", "message digest", "\x00", "\xff", "\x00\x00", "\x80", "\x01", "\x00a", "a\x00", "é", "\xed\xa0\x80"}
	for _, n := range []int{3, 4, 5, 7, 8, 9, 15, 16, 17, 31, 32, 33, 255, 256, 257, 1000} {
		l = append(l, text(n), strings.Repeat("\x00", n), strings.Repeat("\xff", n))
	}
	return l
}

// C1: sums that are written out by hand.
func TestSum(t *testing.T) {
	every := make([]byte, 256)
	for i := range every {
		every[i] = byte(i)
	}
	for _, x := range []struct {
		s   string
		sum uint32
	}{
		{"", 0},
		{"123456789", 3421780262},
		{"a", 0xe8b7be43},
		{"abc", 0x352441c2},
		{"message digest", 0x20159d7f},
		{"The quick brown fox jumps over the lazy dog", 0x414fa339},
		{"\x00", 0xd202ef8d},
		{"\xff", 0xff000000},
		{strings.Repeat("\x00", 4), 0x2144df1c},
		{strings.Repeat("\xff", 4), 0xffffffff},
		{strings.Repeat("\x00", 32), 0x190a55ad},
		{strings.Repeat("\xff", 32), 0xff6cab0b},
		{string(every), 0x29058c73},
	} {
		if c := Sum(x.s); c != x.sum {
			t.Errorf("Sum(%q): %08x, not %08x", x.s, c, x.sum)
		}
		if c := More(0, x.s); c != x.sum {
			t.Errorf("More(0, %q): %08x, not %08x", x.s, c, x.sum)
		}
	}
}

// C1: each byte, taken up by each number about a power of two, bit by bit.
func TestEachByte(t *testing.T) {
	for i := range 256 {
		s := string([]byte{byte(i)})
		if c := Sum(s); c != told(0, s) {
			t.Errorf("Sum(%x): %08x, not %08x", s, c, told(0, s))
		}
		for _, c := range edges() {
			if d := More(c, s); d != told(c, s) {
				t.Errorf("More(%08x, %x): %08x, not %08x", c, s, d, told(c, s))
			}
		}
	}
}

// C1: from any number; of the empty text it is that number.
func TestMore(t *testing.T) {
	for _, c := range edges() {
		if d := More(c, ""); d != c {
			t.Errorf("More(%08x) of nothing: %08x", c, d)
		}
		for _, s := range texts() {
			if d := More(c, s); d != told(c, s) {
				t.Errorf("More(%08x, %.20x of %d): %08x, not %08x", c, s, len(s), d, told(c, s))
			}
		}
	}
	for _, x := range []struct {
		c   uint32
		s   string
		sum uint32
	}{
		// By 2^32 - 1 the number that is taken up by is 0, which bytes 0 leave.
		{math.MaxUint32, "\x00\x00\x00", math.MaxUint32},
		{math.MaxUint32, "\x80", math.MaxUint32 ^ 3988292384},
		// By 0 it is 2^32 - 1: a byte 255 undoes its lowest one.
		{0, "\xff", 0xff000000},
		{0xff000000, "\xff", 0xffff0000},
	} {
		if d := More(x.c, x.s); d != x.sum {
			t.Errorf("More(%08x, %x): %08x, not %08x", x.c, x.s, d, x.sum)
		}
	}
}

// C1: a text that is taken up in parts, from any number, cut off anywhere.
func TestMoreInParts(t *testing.T) {
	s := text(70)
	for _, c := range edges() {
		whole := More(c, s)
		each := c
		for i := range len(s) + 1 {
			if d := More(More(c, s[:i]), s[i:]); d != whole || d != told(c, s) {
				t.Errorf("from %08x on, cut off at %d: %08x, not %08x", c, i, d, whole)
			}
			if i < len(s) {
				each = More(More(each, ""), s[i:i+1])
			}
		}
		if each != whole {
			t.Errorf("from %08x on, byte by byte: %08x, not %08x", c, each, whole)
		}
	}
}

// C1: long texts, by the library's reckoning.
func TestLong(t *testing.T) {
	for _, s := range []string{text(1 << 16), strings.Repeat("\x00", 1<<20+1), strings.Repeat("\xff", 1<<20-1), strings.Repeat("cromlech", 100000)} {
		if c := Sum(s); c != crc32.ChecksumIEEE([]byte(s)) {
			t.Errorf("of %d bytes: %08x", len(s), c)
		}
		for _, c := range []uint32{1, 1 << 31, math.MaxUint32} {
			if d := More(c, s); d != crc32.Update(c, crc32.IEEETable, []byte(s)) {
				t.Errorf("from %08x on, of %d bytes: %08x", c, len(s), d)
			}
		}
	}
}

// C2: with no bytes, and with fewer, both are but put together.
func TestCombineNone(t *testing.T) {
	for _, n := range []int{0, -1, -2, -7, -8, -9, -64, math.MinInt32, math.MinInt + 1, math.MinInt} {
		for _, a := range edges() {
			for _, b := range edges() {
				if c := Combine(a, b, n); c != a^b {
					t.Errorf("Combine(%08x, %08x, %d): %08x, not %08x", a, b, n, c, a^b)
				}
			}
		}
	}
}

// C2: bytes 0 that are taken up one by one.
func TestCombine(t *testing.T) {
	for _, a := range edges() {
		c := a
		for n := range 300 {
			for _, b := range []uint32{0, 1, 1 << 31, math.MaxUint32, a, c, 0x12345678} {
				if d := Combine(a, b, n); d != c^b {
					t.Errorf("Combine(%08x, %08x, %d): %08x, not %08x", a, b, n, d, c^b)
				}
			}
			c = read(c, "\x00")
		}
	}
	for _, x := range []struct {
		a, b uint32
		n    int
		c    uint32
	}{
		{0, 0, 1, 0},
		{0, 7, 1000, 7},
		{256, 0, 1, 1},
		{256, 1, 1, 0},
		{1 << 31, 0, 1, 1 << 23},
		{1 << 31, 0, 3, 1 << 7},
		{128, 5, 1, 3988292384 ^ 5},
		{math.MaxUint32, math.MaxUint32, 0, 0},
	} {
		if c := Combine(x.a, x.b, x.n); c != x.c {
			t.Errorf("Combine(%08x, %08x, %d): %08x, not %08x", x.a, x.b, x.n, c, x.c)
		}
	}
}

// turn is what becomes of a number, told by what becomes of each of its bits.
type turn [32]uint32

func (m turn) of(c uint32) uint32 {
	d := uint32(0)
	for k, v := range m {
		if c>>k%2 == 1 {
			d ^= v
		}
	}
	return d
}

// then is m and what the other one makes of it.
func (m turn) then(o turn) turn {
	for k, v := range m {
		m[k] = o.of(v)
	}
	return m
}

// zeros is what n bytes 0 make.
func zeros(n int) turn {
	var m, power turn
	for k := range m {
		m[k] = 1 << k
		power[k] = read(1<<k, "\x00")
	}
	for ; n > 0; n >>= 1 {
		if n%2 == 1 {
			m = m.then(power)
		}
		power = power.then(power)
	}
	return m
}

// C2: a great n, up to the greatest one.
func TestCombineGreat(t *testing.T) {
	l := []int{math.MaxInt, math.MaxInt - 1, math.MaxInt / 8, math.MaxInt/8 + 1, math.MaxInt / 3, 1000000007, 123456789012345678}
	for k := 8; k < 63; k++ {
		l = append(l, 1<<k-1, 1<<k, 1<<k+1)
	}
	for _, n := range l {
		m := zeros(n)
		for _, a := range edges() {
			for _, b := range []uint32{0, 0x9abcdef0, math.MaxUint32} {
				if c := Combine(a, b, n); c != m.of(a)^b {
					t.Errorf("Combine(%08x, %08x, %d): %08x, not %08x", a, b, n, c, m.of(a)^b)
				}
			}
		}
	}
	c := uint32(0x89abcdef)
	for range 1 << 18 {
		c = read(c, "\x00\x00\x00\x00")
	}
	if d := Combine(0x89abcdef, 0, 1<<20); d != c {
		t.Errorf("of 2^20 bytes: %08x, not %08x", d, c)
	}
}

// C2: what is taken up in two turns is taken up in one; in 2^32 - 1 bits, and so in as many bytes, each number comes back.
func TestCombineTurns(t *testing.T) {
	counts := []int{0, 1, 2, 7, 8, 255, 256, 1 << 20, 1<<32 - 2, 1<<32 - 1, 1 << 40, 1<<62 - 1}
	for _, a := range edges() {
		for _, n := range counts {
			for _, m := range counts {
				if c := Combine(Combine(a, 0, n), 0, m); c != Combine(a, 0, n+m) {
					t.Errorf("%08x, by %d and %d: %08x", a, n, m, c)
				}
			}
		}
		if c := Combine(a, 0, 1<<32-1); c != a {
			t.Errorf("%08x does not come back: %08x", a, c)
		}
		if c, d := Combine(a, 0, math.MaxInt), Combine(a, 0, 1<<31-1); c != d {
			t.Errorf("%08x, by the greatest: %08x, not %08x", a, c, d)
		}
	}
}

// C3: sums of two texts, put together, are the sum of both.
func TestTheorem(t *testing.T) {
	l := texts()
	for _, a := range l {
		for _, b := range l {
			if c := Combine(Sum(a), Sum(b), len(b)); c != Sum(a+b) || c != told(0, a+b) {
				t.Errorf("%.20x of %d and %.20x of %d: %08x, not %08x", a, len(a), b, len(b), c, Sum(a+b))
			}
		}
	}
	s := text(100)
	for i := range len(s) + 1 {
		for k := i; k <= len(s); k++ {
			c := Combine(Combine(Sum(s[:i]), Sum(s[i:k]), k-i), Sum(s[k:]), len(s)-k)
			if c != Sum(s) {
				t.Errorf("of three, cut off at %d and %d: %08x, not %08x", i, k, c, Sum(s))
			}
		}
	}
	long := text(1<<20 + 3)
	for _, i := range []int{0, 1, 3, 1 << 19, 1<<20 + 2, 1<<20 + 3} {
		if c := Combine(Sum(long[:i]), Sum(long[i:]), len(long)-i); c != Sum(long) {
			t.Errorf("of a long one, cut off at %d: %08x, not %08x", i, c, Sum(long))
		}
	}
}

// other is s, whose bits from place at on are turned where those of turned are 1, the lowest one first.
func other(s string, at int, turned uint32) string {
	b := []byte(s)
	for k := range 32 {
		if turned>>k%2 == 1 {
			b[(at+k)/8] ^= 1 << ((at + k) % 8)
		}
	}
	return string(b)
}

// C3: texts of one length that are unlike in up to 32 bits that stand side by side.
func TestUnlike(t *testing.T) {
	for _, s := range []string{"\x00", "ab", "abc", "abcd", text(5), strings.Repeat("\x00", 8), strings.Repeat("\xff", 9), text(20), text(300)} {
		for at := range len(s) * 8 {
			width := min(32, len(s)*8-at)
			for _, v := range edges() {
				turned := uint32(uint64(v) % (1 << width))
				if turned == 0 {
					continue
				}
				if o := other(s, at, turned); Sum(o) == Sum(s) || More(77, o) == More(77, s) {
					t.Errorf("%.20x of %d, turned by %08x from bit %d on: as it was", s, len(s), turned, at)
				}
			}
		}
	}
}

// C3: of all bits that are turned among 32 none makes nothing, just if what each one makes alone can't be made of the others.
func TestUnlikeAll(t *testing.T) {
	for _, s := range []string{"abcd", text(5), strings.Repeat("\x00", 12), text(64)} {
		for at := range len(s)*8 - 31 {
			var heads [32]uint32
			for k := range 32 {
				v := Sum(s) ^ Sum(other(s, at, 1<<k))
				for v != 0 && heads[bits.Len32(v)-1] != 0 {
					v ^= heads[bits.Len32(v)-1]
				}
				if v == 0 {
					t.Fatalf("%.20x of %d, from bit %d on: bit %d is made of others", s, len(s), at, k)
				}
				heads[bits.Len32(v)-1] = v
			}
		}
	}
}

// C3: all texts of up to two bytes, of one length, have sums that are all unlike.
func TestUnlikeShort(t *testing.T) {
	one, two := map[uint32]bool{}, map[uint32]bool{}
	for a := range 256 {
		one[Sum(string([]byte{byte(a)}))] = true
		for b := range 256 {
			two[Sum(string([]byte{byte(a), byte(b)}))] = true
		}
	}
	if len(one) != 256 || len(two) != 65536 {
		t.Errorf("of %d and %d sums", len(one), len(two))
	}
}

// R4: what is laid once is the same for all, however they run.
func TestAtOnce(t *testing.T) {
	s := text(500)
	var all sync.WaitGroup
	sums := make([]uint32, 64)
	for i := range sums {
		all.Go(func() {
			sums[i] = Combine(Sum(s[:i]), More(0, s[i:]), len(s)-i)
		})
	}
	all.Wait()
	for i, c := range sums {
		if c != told(0, s) {
			t.Errorf("cut off at %d: %08x, not %08x", i, c, told(0, s))
		}
	}
}
