package ckpt

import (
	"encoding/binary"
	"hash/crc32"
	"math"
	"math/rand"
	"slices"
	"strings"
	"testing"

	"lodger/api"
)

// upTo are the numbers from 0 on, n of them.
func upTo(n int) []int {
	l := make([]int, n)
	for i := range l {
		l[i] = i
	}
	return l
}

// good are checkpoints that may be, ordinary ones and those at the edges.
func good() []Check {
	down := upTo(16)
	slices.Reverse(down)
	return []Check{
		{Gen: 1, Epoch: 1, LSN: 1, Order: []int{0}, Lens: []int{0}},
		{Gen: 7, Epoch: 2, LSN: 258, Ver: 5, Order: []int{3, 0, 15}, Lens: []int{30, 1, 0}},
		{Gen: 8, LSN: 1, Order: []int{15}, Lens: []int{30}},
		{Gen: 1, LSN: math.MaxUint64, Ver: math.MaxUint64, Order: []int{0, 15}, Lens: []int{0, 0}},
		{Gen: math.MaxUint64, Epoch: math.MaxUint32, LSN: 1, Order: []int{15, 0}, Lens: []int{30, 30}},
		{Gen: math.MaxUint64, Epoch: math.MaxUint32, LSN: math.MaxUint64, Ver: math.MaxUint64, Order: down, Lens: slices.Repeat([]int{30}, 16)},
		{Gen: 0x0102030405060708, Epoch: 0x090a0b0c, LSN: 0x0d0e0f1011121314, Ver: 0x15161718191a1b1c, Order: upTo(16), Lens: upTo(16)},
		{Gen: 1 << 63, Epoch: 1 << 31, LSN: 1 << 63, Ver: 1 << 63, Order: upTo(15), Lens: make([]int, 15)},
		{Gen: 256, Epoch: 256, LSN: 256, Ver: 256, Order: []int{9, 8, 7, 6}, Lens: []int{10, 10, 10, 3}},
	}
}

// few are for tests that ask much of each: one segment, some, and all.
func few() []Check { return []Check{good()[0], good()[1], good()[6]} }

// deep is a copy that shares no list.
func deep(c Check) Check {
	c.Order, c.Lens = slices.Clone(c.Order), slices.Clone(c.Lens)
	return c
}

func changed(c Check, change func(c *Check)) Check {
	c = deep(c)
	change(&c)
	return c
}

// bad are checkpoints with one field that may not be, or more; the others are as they may be.
func bad() []Check {
	l := []Check{{}, {Gen: 1, LSN: 1}, {Order: []int{0}, Lens: []int{0}}, {Gen: 1, LSN: 1, Lens: []int{0}}, {Gen: 1, LSN: 1, Order: []int{0}}}
	for _, c := range good() {
		l = append(l,
			changed(c, func(c *Check) { c.Gen = 0 }),
			changed(c, func(c *Check) { c.LSN = 0 }),
			changed(c, func(c *Check) { c.Gen, c.LSN = 0, 0 }),
			changed(c, func(c *Check) { c.Order, c.Lens = nil, nil }),
			changed(c, func(c *Check) { c.Order, c.Lens = []int{}, []int{} }),
			changed(c, func(c *Check) { c.Order = nil }),
			changed(c, func(c *Check) { c.Lens = nil }),
			changed(c, func(c *Check) { c.Lens = append(c.Lens, 0) }),
			changed(c, func(c *Check) { c.Lens = append(c.Lens, 31) }),
			changed(c, func(c *Check) { c.Lens = c.Lens[1:] }),
			changed(c, func(c *Check) { c.Order = c.Order[1:] }),
			changed(c, func(c *Check) { c.Order = append(c.Order, 16) }),
			changed(c, func(c *Check) { c.Order, c.Lens = append(c.Order, c.Order[0]), append(c.Lens, 0) }),
			changed(c, func(c *Check) { c.Order, c.Lens = append(c.Order, 16), append(c.Lens, 0) }),
			changed(c, func(c *Check) { c.Order, c.Lens = slices.Repeat(c.Order, 17), slices.Repeat(c.Lens, 17) }),
		)
		for i := range c.Order {
			for _, seg := range []int{-1, -15, -16, -255, -256, 16, 17, 31, 255, 256, 257, 1 << 32, math.MinInt, math.MaxInt} {
				l = append(l, changed(c, func(c *Check) { c.Order[i] = seg }))
			}
			for _, length := range []int{-1, -30, -255, -256, 31, 32, 255, 256, 257, 1 << 32, math.MinInt, math.MaxInt} {
				l = append(l, changed(c, func(c *Check) { c.Lens[i] = length }))
			}
		}
	}
	return l
}

// sectorOf goes by the chapter's places, with another package's sum; it asks for nothing, so that it also makes sectors of checkpoints that may not be, where they fit.
func sectorOf(c Check) string {
	b := make([]byte, 128)
	binary.LittleEndian.PutUint64(b[0:], c.Gen)
	binary.LittleEndian.PutUint32(b[8:], c.Epoch)
	binary.LittleEndian.PutUint64(b[12:], c.LSN)
	binary.LittleEndian.PutUint64(b[20:], c.Ver)
	b[28] = byte(len(c.Order))
	for i := range c.Order {
		b[29+2*i], b[30+2*i] = byte(c.Order[i]), byte(c.Lens[i])
	}
	binary.LittleEndian.PutUint64(b[120:], c.Gen)
	return summed(string(b))
}

// fits tells whether sectorOf has a place for all of it, and no byte stands for another number.
func fits(c Check) bool {
	asByte := func(n int) bool { return n >= 0 && n < 256 }
	return len(c.Order) <= 43 && len(c.Lens) == len(c.Order) && !slices.ContainsFunc(slices.Concat(c.Order, c.Lens), func(n int) bool { return !asByte(n) })
}

// summed is the sector with its sum made right.
func summed(s string) string {
	b := []byte(s)
	binary.LittleEndian.PutUint32(b[116:], crc32.ChecksumIEEE(b[:116]))
	return string(b)
}

// with is the text with one byte changed.
func with(s string, at int, x byte) string {
	b := []byte(s)
	b[at] = x
	return string(b)
}

// checkOf asks a sector of 128 bytes field by field for all that the chapter says of it.
func checkOf(s string) (Check, bool) {
	b := []byte(s)
	if string(b[:8]) != string(b[120:]) || binary.LittleEndian.Uint32(b[116:]) != crc32.ChecksumIEEE(b[:116]) {
		return Check{}, false
	}
	count := int(b[28])
	if count < 1 || count > 16 || strings.Trim(s[29+2*count:116], "\x00") != "" {
		return Check{}, false
	}
	c := Check{
		Gen:   binary.LittleEndian.Uint64(b),
		Epoch: binary.LittleEndian.Uint32(b[8:]),
		LSN:   binary.LittleEndian.Uint64(b[12:]),
		Ver:   binary.LittleEndian.Uint64(b[20:]),
	}
	for i := range count {
		seg, length := int(b[29+2*i]), int(b[30+2*i])
		if seg > 15 || length > 30 || slices.Contains(c.Order, seg) {
			return Check{}, false
		}
		c.Order, c.Lens = append(c.Order, seg), append(c.Lens, length)
	}
	if c.Gen == 0 || c.LSN == 0 {
		return Check{}, false
	}
	return c, true
}

func same(a, b Check) bool {
	return a.Gen == b.Gen && a.Epoch == b.Epoch && a.LSN == b.LSN && a.Ver == b.Ver && slices.Equal(a.Order, b.Order) && slices.Equal(a.Lens, b.Lens)
}

func encoded(t *testing.T, c Check) string {
	t.Helper()
	s, e := Encode(c)
	if e != api.OK || len(s) != 128 {
		t.Fatalf("Encode(%v) = %d bytes, %d", c, len(s), e)
	}
	return s
}

func mayBe(t *testing.T, c Check, may bool) {
	t.Helper()
	if Right(c) != may {
		t.Errorf("Right(%v) = %v", c, !may)
	}
	s, e := Encode(c)
	if may && (e != api.OK || s != sectorOf(c)) {
		t.Errorf("Encode(%v) = %q, %d, want %q", c, s, e, sectorOf(c))
	}
	if !may && (e != api.ErrForm || s != "") {
		t.Errorf("Encode(%v) = %q, %d, want ErrForm", c, s, e)
	}
}

func refuses(t *testing.T, s string) {
	t.Helper()
	if c, e := Decode(s); e != api.ErrForm || !same(c, Check{}) {
		t.Errorf("Decode(%q) = %v, %d, want ErrForm", s, c, e)
	}
}

func decodes(t *testing.T, s string, want Check) {
	t.Helper()
	if c, e := Decode(s); e != api.OK || !same(c, want) {
		t.Errorf("Decode(%q) = %v, %d, want %v", s, c, e, want)
	}
}

// decodesAs holds Decode against checkOf.
func decodesAs(t *testing.T, s string) {
	t.Helper()
	if want, may := checkOf(s); may {
		decodes(t, s, want)
	} else {
		refuses(t, s)
	}
}

func isBest(t *testing.T, a, b string, want Check, which int, err api.Errno) {
	t.Helper()
	if c, i, e := Best(a, b); e != err || i != which || !same(c, want) {
		t.Errorf("Best(%q, %q) = %v, %d, %d, want %v, %d, %d", a, b, c, i, e, want, which, err)
	}
}

// P7.1, P7.2: the chapter's example, byte by byte.
func TestExample(t *testing.T) {
	c := Check{Gen: 1, Epoch: 1, LSN: 1, Ver: 0, Order: []int{0}, Lens: []int{0}}
	s := encoded(t, c)
	named := map[int]byte{0: 1, 8: 1, 12: 1, 28: 1, 120: 1}
	for i := range s {
		if (i < 116 || i >= 120) && s[i] != named[i] {
			t.Errorf("byte %d is %d, want %d", i, s[i], named[i])
		}
	}
	if sum := binary.LittleEndian.Uint32([]byte(s[116:120])); sum != crc32.ChecksumIEEE([]byte(s[:116])) {
		t.Errorf("sum %x", sum)
	}
	if !Right(c) {
		t.Error("it may not be")
	}
	decodes(t, s, c)
	isBest(t, s, "", c, 0, api.OK)
}

// P7.1
func TestEncodePlaces(t *testing.T) {
	s := encoded(t, Check{Gen: 0x0102030405060708, Epoch: 0x090a0b0c, LSN: 0x1112131415161718, Ver: 0x191a1b1c1d1e1f20, Order: []int{5, 15, 0}, Lens: []int{30, 0, 7}})
	want := "\x08\x07\x06\x05\x04\x03\x02\x01" + "\x0c\x0b\x0a\x09" + "\x18\x17\x16\x15\x14\x13\x12\x11" + "\x20\x1f\x1e\x1d\x1c\x1b\x1a\x19" + "\x03" + "\x05\x1e" + "\x0f\x00" + "\x00\x07" + strings.Repeat("\x00", 81)
	want = summed(want + "sum!" + "\x08\x07\x06\x05\x04\x03\x02\x01")
	if s != want {
		t.Errorf("%q, want %q", s, want)
	}
	full := encoded(t, Check{Gen: 1, LSN: 1, Order: upTo(16), Lens: slices.Repeat([]int{30}, 16)})
	if full[28] != 16 || full[29:61] != "\x00\x1e\x01\x1e\x02\x1e\x03\x1e\x04\x1e\x05\x1e\x06\x1e\x07\x1e\x08\x1e\x09\x1e\x0a\x1e\x0b\x1e\x0c\x1e\x0d\x1e\x0e\x1e\x0f\x1e" || full[61:116] != strings.Repeat("\x00", 55) {
		t.Errorf("%q", full)
	}
}

// P7.1
func TestGoodChecks(t *testing.T) {
	for _, c := range good() {
		mayBe(t, c, true)
	}
}

// P7.1: also beside what may not be nothing else is told.
func TestBadChecks(t *testing.T) {
	for _, c := range bad() {
		mayBe(t, c, false)
	}
}

// P7.1: Gen and LSN are above 0; Epoch and Ver are any.
func TestNumbers(t *testing.T) {
	edges := []uint64{0, 1, 2, 255, 256, 1 << 32, 1 << 56, 1 << 63, math.MaxUint64 - 1, math.MaxUint64}
	for _, gen := range edges {
		for _, lsn := range edges {
			for _, epoch := range []uint32{0, 1, 256, 1 << 31, math.MaxUint32} {
				for _, ver := range []uint64{0, 1, 1 << 63, math.MaxUint64} {
					c := Check{Gen: gen, Epoch: epoch, LSN: lsn, Ver: ver, Order: []int{1, 0}, Lens: []int{0, 3}}
					mayBe(t, c, gen > 0 && lsn > 0)
					decodesAs(t, sectorOf(c))
				}
			}
		}
	}
}

// P7.1: how many segments there are, and how many Lens; of all numbers of segments each stands once, as long as they last.
func TestCounts(t *testing.T) {
	for _, n := range []int{0, 1, 2, 15, 16, 17, 18, 32, 43, 44, 255, 256, 257, 258, 272, 512, 1000} {
		for _, m := range []int{0, 1, 2, 15, 16, 17, 18, 255, 256, 257, 258, 272, 512, 1000} {
			c := Check{Gen: 2, LSN: 3, Order: upTo(n), Lens: make([]int, m)}
			mayBe(t, c, n == m && n >= 1 && n <= 16)
			c.Order = make([]int, n)
			mayBe(t, c, n == m && n == 1)
		}
	}
	for n := range 18 {
		c := Check{Gen: 2, LSN: 3, Order: upTo(n), Lens: make([]int, n)}
		mayBe(t, c, n >= 1 && n <= 16)
		if n > 0 && n < 17 {
			decodes(t, encoded(t, c), c)
		}
	}
}

// P7.1: a number of a segment that may not be, at each place of Order.
func TestSegmentNumbers(t *testing.T) {
	for n := 1; n <= 15; n++ {
		for i := range n {
			for seg := -3; seg < 260; seg++ {
				c := Check{Gen: 2, LSN: 3, Order: upTo(n), Lens: make([]int, n)}
				c.Order[i] = seg
				mayBe(t, c, seg == i || seg >= n && seg <= 15)
			}
		}
	}
}

// P7.1: a segment twice, at each two places, side by side and apart.
func TestSegmentTwice(t *testing.T) {
	for n := 2; n <= 16; n++ {
		for i := range n {
			for j := range i {
				for _, pair := range [][2]int{{i, j}, {j, i}} {
					c := Check{Gen: 2, LSN: 3, Order: upTo(n), Lens: upTo(n)}
					c.Order[pair[0]] = c.Order[pair[1]]
					mayBe(t, c, false)
					refuses(t, sectorOf(c))
				}
				swapped := Check{Gen: 2, LSN: 3, Order: upTo(n), Lens: upTo(n)}
				swapped.Order[i], swapped.Order[j] = j, i
				mayBe(t, swapped, true)
				decodes(t, sectorOf(swapped), swapped)
			}
		}
	}
}

// P7.1: each length, at each place of Lens.
func TestLens(t *testing.T) {
	for n := 1; n <= 16; n++ {
		for i := range n {
			for length := -3; length < 290; length++ {
				c := Check{Gen: 2, LSN: 3, Order: upTo(n), Lens: make([]int, n)}
				c.Lens[i] = length
				mayBe(t, c, length >= 0 && length <= 30)
				if length >= 0 && length < 256 {
					decodesAs(t, sectorOf(c))
				}
			}
		}
	}
}

// P7.1: texts of any length; the right one alone is a checkpoint's.
func TestDecodeLengths(t *testing.T) {
	for _, c := range good() {
		s := encoded(t, c)
		decodes(t, s, c)
		for n := range 128 {
			refuses(t, s[:n])
			refuses(t, s[128-n:])
		}
		for _, behind := range []string{"\x00", "x", s[:1], s, strings.Repeat("\x00", 128)} {
			refuses(t, s+behind)
		}
		refuses(t, "\x00"+s)
		refuses(t, s[:116]+"\x00"+s[116:])
		refuses(t, s[:115]+s[116:])
	}
	for _, n := range []int{0, 1, 115, 116, 120, 127, 128, 129, 256, 1 << 16} {
		refuses(t, strings.Repeat("\x00", n))
		refuses(t, strings.Repeat("\x01", n))
		refuses(t, strings.Repeat("\xff", n))
	}
}

// P7.1: sectors that are as they should be, of checkpoints that may not be.
func TestDecodeSectorsOfBadChecks(t *testing.T) {
	asked := 0
	for _, c := range bad() {
		if fits(c) {
			refuses(t, sectorOf(c))
			asked++
		}
	}
	if asked < 100 {
		t.Errorf("%d alone have a sector", asked)
	}
}

// P7.1: each byte changed to each other one, with the sum as it was (no checkpoint's, always), and made right again.
func TestDecodeChangedBytes(t *testing.T) {
	for _, c := range few() {
		s := encoded(t, c)
		for i := range s {
			for flip := 1; flip < 256; flip++ {
				x := with(s, i, s[i]^byte(flip))
				refuses(t, x)
				if i < 116 {
					decodesAs(t, summed(x))
				}
			}
		}
	}
}

// P7.1: each count, with the sum made right again: another one leaves segments behind, or takes zeros for more of them.
func TestDecodeCounts(t *testing.T) {
	for count := range 256 {
		for n := 1; n <= 16; n++ {
			c := Check{Gen: 2, LSN: 3, Order: upTo(n), Lens: make([]int, n)}
			s := summed(with(encoded(t, c), 28, byte(count)))
			if count == n {
				decodes(t, s, c)
			} else {
				refuses(t, s)
			}
		}
		// One more than there are is segment 0, of no record: it may be, if that is not yet among them.
		for n := 1; n <= 15; n++ {
			c := Check{Gen: 2, LSN: 3, Order: upTo(n + 1)[1:], Lens: slices.Repeat([]int{30}, n)}
			s := summed(with(encoded(t, c), 28, byte(count)))
			if count == n+1 {
				c.Order, c.Lens = append(c.Order, 0), append(c.Lens, 0)
			}
			if count == n || count == n+1 {
				decodes(t, s, c)
			} else {
				refuses(t, s)
			}
		}
	}
	// Segments that go on beyond the sixteenth, up to the sum.
	b := []byte(encoded(t, Check{Gen: 2, LSN: 3, Order: upTo(16), Lens: make([]int, 16)}))
	for i := 16; i < 43; i++ {
		b[29+2*i] = byte(i)
	}
	for count := range 256 {
		b[28] = byte(count)
		refuses(t, summed(string(b)))
	}
}

// P7.1: a byte behind the last segment that is not 0, at each place, with the sum made right again.
func TestDecodeBytesBehind(t *testing.T) {
	for _, c := range good() {
		s := encoded(t, c)
		for i := 29 + 2*len(c.Order); i < 116; i++ {
			for _, x := range []byte{1, 15, 30, 0x80, 0xff} {
				refuses(t, summed(with(s, i, x)))
			}
		}
	}
}

// P7.1: a Gen that is not the same at both ends, with the sum made right again; and both changed alike, which is another checkpoint's sector.
func TestDecodeEnds(t *testing.T) {
	zero := strings.Repeat("\x00", 8)
	for _, c := range good() {
		s := encoded(t, c)
		for i := range 8 {
			for bit := range 8 {
				ahead := with(s, i, s[i]^1<<bit)
				refuses(t, ahead)
				refuses(t, summed(ahead))
				refuses(t, with(s, 120+i, s[i]^1<<bit))
				both := with(ahead, 120+i, s[i]^1<<bit)
				refuses(t, both)
				decodesAs(t, summed(both))
			}
		}
		refuses(t, summed(zero+s[8:120]+zero))
		refuses(t, summed(zero+s[8:]))
		refuses(t, s[:120]+zero)
		refuses(t, summed(s[:12]+zero+s[20:]))
	}
}

// P7.1: sectors that are nearly a checkpoint's, made by chance of a fixed beginning.
func TestDecodeBesideChecks(t *testing.T) {
	random := rand.New(rand.NewSource(7))
	all := good()
	right := 0
	for range 40000 {
		b := []byte(sectorOf(all[random.Intn(len(all))]))
		for range 1 + random.Intn(3) {
			b[8+random.Intn(56)] = []byte{0, 1, 2, 3, 15, 16, 17, 30, 31, byte(random.Intn(16)), byte(random.Intn(256))}[random.Intn(11)]
		}
		s := summed(string(b))
		decodesAs(t, s)
		if _, may := checkOf(s); may {
			right++
		}
	}
	if right < 1000 || right > 39000 {
		t.Errorf("%d of 40000 are a checkpoint's: too few or too many to tell", right)
	}
}

// none are texts that are no checkpoint's sector.
func none(t *testing.T) []string {
	s := encoded(t, good()[1])
	return []string{"", "x", s[:127], s + "\x00", with(s, 40, 1), with(s, 120, 8), with(s, 116, s[116]^1), summed(with(s, 28, 4)),
		strings.Repeat("\x00", 128), strings.Repeat("\xff", 128), sectorOf(Check{Gen: 9, LSN: 9}), sectorOf(Check{LSN: 9, Order: []int{1}, Lens: []int{1}})}
}

// P7.2: neither, the first alone, the second alone.
func TestBestOfOne(t *testing.T) {
	for _, bad := range none(t) {
		for _, other := range none(t) {
			isBest(t, bad, other, Check{}, 0, api.ErrForm)
		}
		for _, c := range good() {
			isBest(t, encoded(t, c), bad, c, 0, api.OK)
			isBest(t, bad, encoded(t, c), c, 1, api.OK)
		}
	}
}

// P7.2: both: what else they tell makes no one better.
func TestBestOfTwo(t *testing.T) {
	gens := []uint64{1, 2, 3, 255, 256, 257, 1<<32 - 1, 1 << 32, 1<<63 - 1, 1 << 63, math.MaxUint64 - 1, math.MaxUint64}
	for _, a := range good() {
		for _, b := range good() {
			for _, first := range gens {
				for _, second := range gens {
					a.Gen, b.Gen = first, second
					if first >= second {
						isBest(t, encoded(t, a), encoded(t, b), a, 0, api.OK)
					} else {
						isBest(t, encoded(t, a), encoded(t, b), b, 1, api.OK)
					}
				}
			}
		}
	}
}

// P7.3: a checkpoint is decoded as it was encoded.
func TestThereAndBack(t *testing.T) {
	random := rand.New(rand.NewSource(73))
	l := good()
	for range 20000 {
		n := 1 + random.Intn(16)
		c := Check{
			Gen:   max(1, random.Uint64()>>random.Intn(64)),
			Epoch: random.Uint32() >> random.Intn(32),
			LSN:   max(1, random.Uint64()>>random.Intn(64)),
			Ver:   random.Uint64() >> random.Intn(64),
			Order: random.Perm(16)[:n],
		}
		for range n {
			c.Lens = append(c.Lens, random.Intn(31))
		}
		l = append(l, c)
	}
	for _, c := range l {
		if x, e := Decode(encoded(t, c)); e != api.OK || !same(x, c) {
			t.Fatalf("Decode of Encode(%v) = %v, %d", c, x, e)
		}
	}
}

// tears writes a sector over another one, cut at each place, beside a whole one, in each of both slots: the best is the whole one or the new one, whole.
func tears(t *testing.T, old string, now, whole Check) {
	t.Helper()
	sector, beside := encoded(t, now), encoded(t, whole)
	for at := range 129 {
		torn := sector[:at] + old[at:]
		if torn == sector {
			decodes(t, torn, now)
			isBest(t, torn, beside, now, 0, api.OK)
			isBest(t, beside, torn, now, 1, api.OK)
			continue
		}
		if torn != old {
			refuses(t, torn)
		}
		isBest(t, torn, beside, whole, 1, api.OK)
		isBest(t, beside, torn, whole, 0, api.OK)
	}
}

// gensApart are Gens of an older, a whole and a new checkpoint that differ as little and as much as they may, in low bytes and in high ones.
func gensApart() [][3]uint64 {
	l := [][3]uint64{{1, 2, 3}, {255, 256, 257}, {254, 255, 256}, {1, 1 << 56, 1 << 57}, {1<<63 - 1, 1 << 63, 1<<63 + 1}, {1, 2, math.MaxUint64}, {math.MaxUint64 - 2, math.MaxUint64 - 1, math.MaxUint64}}
	for bit := 2; bit < 64; bit++ {
		l = append(l, [3]uint64{1, 2, 1 + 1<<bit})
	}
	return l
}

// P7.3: the older one of two is written over, as a store does it, or a sector that never was one.
func TestTorn(t *testing.T) {
	for _, gens := range gensApart() {
		for _, older := range few() {
			for _, now := range few() {
				whole := good()[8]
				older.Gen, whole.Gen, now.Gen = gens[0], gens[1], gens[2]
				tears(t, encoded(t, older), now, whole)
			}
		}
	}
	for _, now := range good() {
		whole := good()[3]
		whole.Gen = 1
		now.Gen = max(now.Gen, 2)
		for _, x := range []string{"\x00", "\x01", "a", "\xff"} {
			tears(t, strings.Repeat(x, 128), now, whole)
		}
	}
}

// P7.3: whatever the Gens are, a sector of two checkpoints with other Gens is one's, whole, or none's.
func TestTornIsNone(t *testing.T) {
	for _, a := range few() {
		for _, b := range good() {
			for bit := range 64 {
				b.Gen = a.Gen ^ 1<<bit
				if b.Gen == 0 {
					continue
				}
				first, second := encoded(t, a), encoded(t, b)
				for at := range 129 {
					switch s := first[:at] + second[at:]; s {
					case first:
						decodes(t, s, a)
					case second:
						decodes(t, s, b)
					default:
						refuses(t, s)
					}
				}
			}
		}
	}
}

// P7.3: a torn sector whose sum happens to be right is none either: the ends tell it.
func TestTornWithRightSum(t *testing.T) {
	for _, gens := range gensApart() {
		now, older, whole := good()[1], good()[4], good()[8]
		older.Gen, whole.Gen, now.Gen = gens[0], gens[1], gens[2]
		a, b, beside := encoded(t, now), encoded(t, older), encoded(t, whole)
		for at := 8; at <= 116; at++ {
			s := summed(a[:at] + b[at:])
			refuses(t, s)
			isBest(t, s, beside, whole, 1, api.OK)
			isBest(t, beside, s, whole, 0, api.OK)
		}
	}
}

// spare has a list with room behind it, that holds marks.
func spare(l []int) []int {
	room := slices.Repeat([]int{-77}, len(l)+8)
	copy(room, l)
	return room[:len(l)]
}

// spoil writes over a list and the room behind it.
func spoil(l []int) {
	for i := range l[:cap(l)] {
		l[:cap(l)][i] = -99
	}
}

// R4: lists that are handed in are not changed, nor the room behind them, nor kept.
func TestArgumentsStay(t *testing.T) {
	for _, c := range append(good(), changed(good()[1], func(c *Check) { c.Lens[2] = 31 }), changed(good()[1], func(c *Check) { c.Order[0] = 0 })) {
		given := Check{Gen: c.Gen, Epoch: c.Epoch, LSN: c.LSN, Ver: c.Ver, Order: spare(c.Order), Lens: spare(c.Lens)}
		Right(given)
		s, e := Encode(given)
		if !slices.Equal(given.Order[:len(c.Order)+8], spare(c.Order)[:len(c.Order)+8]) || !slices.Equal(given.Lens[:len(c.Lens)+8], spare(c.Lens)[:len(c.Lens)+8]) {
			t.Errorf("%v is %v now", c, given)
		}
		spoil(given.Order)
		spoil(given.Lens)
		if again, e2 := Encode(c); again != s || e2 != e {
			t.Errorf("Encode(%v) = %q, %d, and then %q, %d", c, s, e, again, e2)
		}
	}
}

// R4: what is answered is new memory, and its two lists share none.
func TestAnswersAreNew(t *testing.T) {
	for _, c := range good() {
		s := encoded(t, c)
		older := changed(c, func(c *Check) { c.Gen-- })
		beside := sectorOf(older)
		for _, ask := range []func() Check{
			func() Check { x, _ := Decode(s); return x },
			func() Check { x, _, _ := Best(s, beside); return x },
			func() Check { x, _, _ := Best(beside, s); return x },
			func() Check { x, _, _ := Best(s, s); return x },
			func() Check { x, _, _ := Best("", s); return x },
		} {
			kept, x := ask(), ask()
			spoil(x.Order)
			if !slices.Equal(x.Lens, c.Lens) {
				t.Errorf("Lens are %v, behind a write to Order, want %v", x.Lens, c.Lens)
			}
			x = ask()
			spoil(x.Lens)
			if !slices.Equal(x.Order, c.Order) {
				t.Errorf("Order is %v, behind a write to Lens, want %v", x.Order, c.Order)
			}
			spoil(x.Order)
			if later := ask(); !same(kept, c) || !same(later, c) {
				t.Errorf("%v and %v, behind writes to another answer, want %v", kept, later, c)
			}
		}
	}
}

// R3: a nil list and an empty one are the same.
func TestNilAndEmpty(t *testing.T) {
	lists := [][]int{nil, {}, make([]int, 0, 4)}
	for _, order := range lists {
		for _, lens := range lists {
			mayBe(t, Check{Gen: 1, LSN: 1, Order: order, Lens: lens}, false)
			mayBe(t, Check{Gen: 1, LSN: 1, Order: []int{0}, Lens: lens}, false)
			mayBe(t, Check{Gen: 1, LSN: 1, Order: order, Lens: []int{0}}, false)
		}
	}
}
