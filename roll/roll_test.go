package roll

import (
	"math"
	"math/rand"
	"slices"
	"strings"
	"testing"

	"lodger/api"
	"lodger/check"
	"lodger/ckpt"
	"lodger/disk"
	"lodger/record"
	"lodger/seglog"
	"lodger/table"
)

const greatest = math.MaxUint64

// small is the conf of most tests: 14 sectors, of which 2 are heads, and 3 each segment's.
var small = api.Conf{Segs: 4, Slots: 2}

func place(slots int, at api.Loc) int { return 2 + at.Seg*(slots+1) + at.Slot }

func mayBe(c api.Conf) bool {
	return c.Segs >= 4 && c.Segs <= 16 && c.Slots >= 1 && c.Slots <= 30 && c.Share >= 0 && c.Share <= 1 && c.Rate >= 0 && c.Rate <= 8
}

// lowest is the lowest segment that is not in use, or -1.
func lowest(order []int, segs int) int {
	for seg := 0; seg < segs; seg++ {
		if !slices.Contains(order, seg) {
			return seg
		}
	}
	return -1
}

// best is the checkpoint of a disk's heads.
func best(d *disk.Disk) (ckpt.Check, bool) {
	var k ckpt.Check
	for i := 0; i < 2; i++ {
		s, _ := d.Read(i)
		if x, e := ckpt.Decode(s); e == api.OK && x.Gen > k.Gen {
			k = x
		}
	}
	return k, k.Gen > 0
}

// model is what a disk has, as the chapter's words tell it.
func model(d *disk.Disk, c api.Conf) (Image, api.Errno) {
	if !mayBe(c) {
		return Image{}, api.ErrArg
	}
	if d.Len() < 2+c.Segs*(c.Slots+1) {
		return Image{}, api.ErrFull
	}
	k, ok := best(d)
	if !ok {
		return Image{}, api.ErrForm
	}
	m := Image{Check: k, LSN: k.LSN, Ver: k.Ver}
	m.Table = table.Table{Segs: c.Segs, Slots: c.Slots}
	for i, seg := range k.Order {
		if seg >= c.Segs || k.Lens[i] > c.Slots {
			return Image{}, api.ErrForm
		}
		m.Table.Order, m.Table.Lens = append(m.Table.Order, seg), append(m.Table.Lens, k.Lens[i])
		firsts := []uint64{}
		for slot := 0; slot < k.Lens[i]; slot++ {
			at := api.Loc{Seg: seg, Slot: slot}
			s, _ := d.Read(place(c.Slots, at))
			r, e := record.Decode(s)
			if e != api.OK || r.Kind == record.Foot {
				return Image{}, api.ErrForm
			}
			firsts = append(firsts, r.LSN)
			m.Found = append(m.Found, Found{at, r})
		}
		m.Table.Firsts = append(m.Table.Firsts, append(firsts, k.LSN)[0])
	}
	for modelStep(d, &m) {
	}
	return m, api.OK
}

// modelStep tells whether there was one record more.
func modelStep(d *disk.Disk, m *Image) bool {
	t := &m.Table
	last := len(t.Order) - 1
	at := api.Loc{Seg: t.Order[last], Slot: t.Lens[last]}
	s, _ := d.Read(place(t.Slots, at))
	x, e := record.Decode(s)
	if e != api.OK || x.LSN != m.LSN || x.Epoch != m.Check.Epoch {
		return false
	}
	if x.Kind == record.Foot {
		free := lowest(t.Order, t.Segs)
		if free < 0 || x.Deadline != uint64(free) {
			return false
		}
		m.LSN++
		t.Order, t.Lens, t.Firsts = append(t.Order, free), append(t.Lens, 0), append(t.Firsts, m.LSN)
		return true
	}
	if at.Slot >= t.Slots {
		return false
	}
	m.Found = append(m.Found, Found{at, x})
	t.Lens[last]++
	m.LSN++
	if x.Ver > m.Ver {
		m.Ver = x.Ver
	}
	return true
}

func sameCheck(a, b ckpt.Check) bool {
	return a.Gen == b.Gen && a.Epoch == b.Epoch && a.LSN == b.LSN && a.Ver == b.Ver && slices.Equal(a.Order, b.Order) && slices.Equal(a.Lens, b.Lens)
}

func sameTable(a, b table.Table) bool {
	return a.Segs == b.Segs && a.Slots == b.Slots && slices.Equal(a.Order, b.Order) && slices.Equal(a.Lens, b.Lens) && slices.Equal(a.Firsts, b.Firsts)
}

func same(a, b Image) bool {
	return sameCheck(a.Check, b.Check) && sameTable(a.Table, b.Table) && a.LSN == b.LSN && a.Ver == b.Ver && slices.Equal(a.Found, b.Found)
}

func newDisk(t *testing.T, n int) *disk.Disk {
	t.Helper()
	d, e := disk.New(n)
	if e != api.OK {
		t.Fatal("disk.New", n, e)
	}
	return d
}

// sectors are what all of a disk's sectors hold, or will.
func sectors(d *disk.Disk) []string {
	l := make([]string, d.Len())
	for i := range l {
		l[i], _ = d.Read(i)
	}
	return l
}

// leaves asks whether a disk is as it was.
func leaves(t *testing.T, d *disk.Disk, was []string, pending int) {
	t.Helper()
	if d.Pending() != pending || !slices.Equal(sectors(d), was) {
		t.Fatalf("the disk has changed; %d are pending, %d were", d.Pending(), pending)
	}
}

// held asks what Scan and Open tell of a disk, and holds both against the model. The disk stays as it is.
func held(t *testing.T, d *disk.Disk, c api.Conf) (Image, api.Errno) {
	t.Helper()
	want, err := model(d, c)
	was, pending := sectors(d), d.Pending()
	dead := d.Copy()
	dead.Limit(0)
	for _, x := range []*disk.Disk{d, dead, d} {
		if m, e := Scan(x, c); e != err || !same(m, want) {
			t.Fatalf("Scan = %v, %d, want %v, %d", m, e, want, err)
		}
		leaves(t, x, was, pending)
	}
	switch {
	case err != api.OK:
		refuses(t, d, c, err)
	case want.LSN == 0 || want.Check.Gen == greatest:
		refuses(t, d, c, api.ErrForm) // no checkpoint may be written
	default:
		opens(t, d, c, want)
	}
	leaves(t, d, was, pending)
	return want, err
}

// refuses asks for an error of Open, whether the disk is dead or not, which has changed nothing.
func refuses(t *testing.T, d *disk.Disk, c api.Conf, want api.Errno) {
	t.Helper()
	for _, limit := range []int{-1, 0, 3, 9} {
		x := d.Copy()
		x.Limit(limit)
		if l, m, e := Open(x, c); e != want || l != nil || !same(m, Image{}) {
			t.Fatalf("Open, limit %d = %v, %v, %d, want %d", limit, l, m, e, want)
		}
		leaves(t, x, sectors(d), d.Pending())
		for range limit {
			if x.Flush() != api.OK {
				t.Fatalf("Open has used up some of the limit %d", limit)
			}
		}
	}
}

// opens asks for a log, and for what stands on the disk behind that; it takes three writes and flushes, not one less.
func opens(t *testing.T, d *disk.Disk, c api.Conf, want Image) {
	t.Helper()
	for limit := -1; limit < 3; limit++ {
		stops(t, d, c, want, limit)
	}
	x := d.Copy()
	x.Limit(3)
	l, m, e := Open(x, c)
	if e != api.OK || !same(m, want) {
		t.Fatalf("Open = %v, %d, want %v", m, e, want)
	}
	if !sameTable(l.Table(), want.Table) || l.LSN() != want.LSN || l.Epoch() != want.Check.Epoch+1 || l.Gen() != want.Check.Gen+1 {
		t.Fatalf("Open's log has %v, LSN %d, Epoch %d, Gen %d, want %v", l.Table(), l.LSN(), l.Epoch(), l.Gen(), want)
	}
	for _, f := range want.Found {
		if r, e := l.Read(f.At); e != api.OK || r != f.R {
			t.Fatalf("Open's log has %v, %d at %v, want %v", r, e, f.At, f.R)
		}
	}
	if x.Flush() != api.ErrDead {
		t.Fatal("Open does less than it must")
	}
	after := sectors(d)
	after[(want.Check.Gen+1)%2] = opened(t, want)
	leaves(t, x, after, 0)
	x.Crash(nil, 0, 0)
	leaves(t, x, after, 0)
	want, _ = model(x, c)
	if m, e := Scan(x, c); e != api.OK || !same(m, want) {
		t.Fatalf("behind Open, Scan = %v, %d, want %v", m, e, want)
	}
}

// opened is the sector of the checkpoint that Open makes.
func opened(t *testing.T, m Image) string {
	t.Helper()
	s, e := ckpt.Encode(ckpt.Check{Gen: m.Check.Gen + 1, Epoch: m.Check.Epoch + 1, LSN: m.LSN, Ver: m.Ver, Order: m.Table.Order, Lens: m.Table.Lens})
	if e != api.OK {
		t.Fatal(e)
	}
	return s
}

// stops asks for Open's error on a disk that does fewer than three writes and flushes.
func stops(t *testing.T, d *disk.Disk, c api.Conf, want Image, limit int) {
	t.Helper()
	x := d.Copy()
	x.Limit(limit)
	if l, m, e := Open(x, c); e != api.ErrDead || l != nil || !same(m, Image{}) {
		t.Fatalf("Open, limit %d = %v, %v, %d", limit, l, m, e)
	}
	after, pending := sectors(d), d.Pending()
	switch limit {
	case 1:
		pending = 0 // all of it is flushed
	case 2:
		after[(want.Check.Gen+1)%2], pending = opened(t, want), 1
	}
	leaves(t, x, after, pending)
}

// plant writes a record's sector, at its place.
func plant(t *testing.T, d *disk.Disk, slots int, at api.Loc, r record.Record) {
	t.Helper()
	s, e := record.Encode(r)
	if e != api.OK {
		t.Fatal(r, e)
	}
	write(t, d, place(slots, at), s)
}

func write(t *testing.T, d *disk.Disk, i int, s string) {
	t.Helper()
	if e := d.Write(i, s); e != api.OK {
		t.Fatal(i, e)
	}
}

// head writes a checkpoint's sector.
func head(t *testing.T, d *disk.Disk, i int, k ckpt.Check) {
	t.Helper()
	s, e := ckpt.Encode(k)
	if e != api.OK {
		t.Fatal(k, e)
	}
	write(t, d, i, s)
}

func live(lsn uint64, epoch uint32, ver uint64) record.Record {
	return record.Record{LSN: lsn, Epoch: epoch, Kind: record.Live, Ver: ver, Deadline: 9, ID: "a", Value: "v"}
}

func tomb(lsn uint64, epoch uint32, ver uint64) record.Record {
	return record.Record{LSN: lsn, Epoch: epoch, Kind: record.Tomb, Ver: ver, ID: "a"}
}

func foot(lsn uint64, epoch uint32, to uint64) record.Record {
	return record.Record{LSN: lsn, Epoch: epoch, Kind: record.Foot, Deadline: to}
}

// base is the checkpoint of most tests: the next record is that of LSN 10, Epoch 3.
func base(order, lens []int) ckpt.Check {
	return ckpt.Check{Gen: 7, Epoch: 3, LSN: 10, Ver: 5, Order: order, Lens: lens}
}

// made is a disk with one checkpoint, and a record at each place that it counts, of LSN 1, 2 and so on.
func made(t *testing.T, c api.Conf, k ckpt.Check) *disk.Disk {
	t.Helper()
	d := newDisk(t, 2+c.Segs*(c.Slots+1))
	head(t, d, int(k.Gen%2), k)
	lsn := uint64(0)
	for i, seg := range k.Order {
		for slot := range k.Lens[i] {
			lsn++
			plant(t, d, c.Slots, api.Loc{Seg: seg, Slot: slot}, live(lsn, 1, 1))
		}
	}
	return d
}

// lsns are those of the records that were found.
func lsns(m Image) []uint64 {
	var l []uint64
	for _, f := range m.Found {
		l = append(l, f.R.LSN)
	}
	return l
}

// tells asks what a disk has, beside its checkpoint.
func tells(t *testing.T, d *disk.Disk, c api.Conf, order, lens []int, firsts []uint64, lsn, ver uint64, found ...uint64) {
	t.Helper()
	m, e := held(t, d, c)
	x := table.Table{Segs: c.Segs, Slots: c.Slots, Order: order, Lens: lens, Firsts: firsts}
	if e != api.OK || !sameTable(m.Table, x) || m.LSN != lsn || m.Ver != ver || !slices.Equal(lsns(m), found) {
		t.Fatalf("%v, %d, want %v, LSN %d, Ver %d, records %v", m, e, x, lsn, ver, found)
	}
}

// tellsNone asks for an error.
func tellsNone(t *testing.T, d *disk.Disk, c api.Conf, want api.Errno) {
	t.Helper()
	if m, e := held(t, d, c); e != want {
		t.Fatalf("%v, %d, want %d", m, e, want)
	}
}

// P10.1: a conf that may not be, in each of its fields; ErrArg comes ahead of ErrFull, ErrForm and ErrDead.
func TestConf(t *testing.T) {
	good := api.Conf{Segs: 4, Slots: 2, Share: 0.5, Rate: 2}
	var bad []api.Conf
	add := func(change func(c *api.Conf)) {
		c := good
		change(&c)
		bad = append(bad, c)
	}
	for _, segs := range []int{3, 17, 0, -1, -4, 260, 1<<32 + 4, math.MinInt, math.MaxInt} {
		add(func(c *api.Conf) { c.Segs = segs })
	}
	for _, slots := range []int{0, 31, -1, -2, 258, 1<<32 + 2, math.MinInt, math.MaxInt} {
		add(func(c *api.Conf) { c.Slots = slots })
	}
	for _, share := range []float64{-0.1, -math.SmallestNonzeroFloat64, math.Nextafter(1, 2), 2, math.NaN(), math.Inf(1), math.Inf(-1)} {
		add(func(c *api.Conf) { c.Share = share })
	}
	for _, rate := range []int{-1, 9, 256, 1<<32 + 1, math.MinInt, math.MaxInt} {
		add(func(c *api.Conf) { c.Rate = rate })
	}
	bad = append(bad, api.Conf{}, api.Conf{Segs: 17, Slots: 31, Share: 2, Rate: 9})
	whole := made(t, small, base([]int{0}, []int{1}))
	for _, c := range bad {
		for _, d := range []*disk.Disk{whole, newDisk(t, 1), newDisk(t, 13), newDisk(t, 4096)} {
			tellsNone(t, d, c, api.ErrArg)
		}
	}
	for _, share := range []float64{0, math.Copysign(0, -1), math.SmallestNonzeroFloat64, 0.5, 1} {
		for _, rate := range []int{0, 1, 8} {
			tells(t, whole, api.Conf{Segs: 4, Slots: 2, Share: share, Rate: rate}, []int{0}, []int{1}, []uint64{1}, 10, 5, 1)
		}
	}
}

// P10.1: a disk of fewer sectors than are needed: ErrFull, ahead of ErrForm and ErrDead; of just as many, and of more.
func TestFull(t *testing.T) {
	for _, c := range []api.Conf{{Segs: 4, Slots: 1}, small, {Segs: 5, Slots: 30}, {Segs: 16, Slots: 1, Share: 1, Rate: 8}, {Segs: 16, Slots: 30}} {
		need := check.Sectors(c)
		for _, n := range []int{1, 2, 3, need / 2, need - 2, need - 1, need, need + 1, need + 100, 4096} {
			d := newDisk(t, n)
			want := api.ErrFull
			if n >= need {
				want = api.ErrForm
			}
			tellsNone(t, d, c, want)
			if n < 3 {
				continue
			}
			head(t, d, 1, base([]int{0}, []int{1}))
			plant(t, d, c.Slots, api.Loc{}, live(1, 1, 1))
			if n >= need {
				tells(t, d, c, []int{0}, []int{1}, []uint64{1}, 10, 5, 1)
				continue
			}
			tellsNone(t, d, c, api.ErrFull)
			write(t, d, 2, strings.Repeat("x", 128))
			tellsNone(t, d, c, api.ErrFull)
		}
	}
}

// P10.1: the last sector of a store is that of the last segment's Foot.
func TestLastSector(t *testing.T) {
	for _, c := range []api.Conf{small, {Segs: 16, Slots: 30}} {
		last := c.Segs - 1
		d := made(t, c, base([]int{last}, []int{c.Slots}))
		plant(t, d, c.Slots, api.Loc{Seg: last, Slot: c.Slots}, foot(10, 3, 0))
		plant(t, d, c.Slots, api.Loc{}, tomb(11, 3, 6))
		m, e := held(t, d, c)
		if e != api.OK || m.LSN != 12 || len(m.Found) != c.Slots+1 || !slices.Equal(m.Table.Order, []int{last, 0}) || d.Len() != place(c.Slots, api.Loc{Seg: last, Slot: c.Slots})+1 {
			t.Fatal(m, e)
		}
	}
}

// P10.1: no checkpoint in the heads, one in either, one in both with either the greater, or the same.
func TestHeads(t *testing.T) {
	none := []string{strings.Repeat("\x00", 128), strings.Repeat("x", 128)}
	r, _ := record.Encode(live(1, 1, 1))
	a, _ := ckpt.Encode(base([]int{0}, []int{1}))
	none = append(none, r, a[:127]+"\x01", a[:60]+strings.Repeat("\x00", 68), "\x08"+a[1:])
	for _, x := range none {
		for _, y := range none {
			d := newDisk(t, 14)
			write(t, d, 0, x)
			write(t, d, 1, y)
			plant(t, d, 2, api.Loc{}, live(1, 1, 1))
			write(t, d, 5, a) // no head
			tellsNone(t, d, small, api.ErrForm)
		}
	}
	for _, x := range none {
		for i := range 2 {
			d := newDisk(t, 14)
			write(t, d, i, a)
			write(t, d, 1-i, x)
			plant(t, d, 2, api.Loc{}, live(1, 1, 1))
			plant(t, d, 2, api.Loc{Slot: 1}, live(10, 3, 6))
			tells(t, d, small, []int{0}, []int{2}, []uint64{1}, 11, 6, 1, 10)
		}
	}
}

// P10.1: of two checkpoints that with the greater number tells all.
func TestBothHeads(t *testing.T) {
	for _, gens := range [][2]uint64{{1, 2}, {2, 1}, {8, 7}, {7, 8}, {255, 256}, {256, 255}, {1, greatest - 1}, {greatest - 1, 1}, {1, greatest}, {greatest, 1}, {5, 5}, {2, 4}, {3, 1}} {
		d := newDisk(t, 14)
		for i, gen := range gens {
			head(t, d, i, ckpt.Check{Gen: gen, Epoch: uint32(i) + 3, LSN: 10 + 10*uint64(i), Ver: 50 - 10*uint64(i), Order: []int{i}, Lens: []int{1}})
			plant(t, d, 2, api.Loc{Seg: i}, live(uint64(i)+1, 1, 1))
			plant(t, d, 2, api.Loc{Seg: i, Slot: 1}, live(10+10*uint64(i), uint32(i)+3, 45))
		}
		m, e := held(t, d, small)
		i := 0
		if gens[1] > gens[0] {
			i = 1
		}
		if e != api.OK || m.Check.Gen != gens[i] || m.Check.Epoch != uint32(i)+3 {
			t.Fatal(gens, m, e)
		}
		tells(t, d, small, []int{i}, []int{2}, []uint64{uint64(i) + 1}, 11+10*uint64(i), []uint64{50, 45}[i], uint64(i)+1, 10+10*uint64(i))
	}
}

// P10.1: a checkpoint of a store with more segments, or more slots: ErrForm, ahead of ErrDead, also where the other one would do.
func TestHeadsThatDoNotFit(t *testing.T) {
	for _, c := range []struct {
		conf        api.Conf
		order, lens []int
		fits        bool
	}{
		{small, []int{3}, []int{2}, true},
		{small, []int{4}, []int{2}, false},
		{small, []int{3}, []int{3}, false},
		{small, []int{4}, []int{0}, false},
		{small, []int{15}, []int{0}, false},
		{small, []int{0}, []int{30}, false},
		{small, []int{4, 0}, []int{0, 0}, false},
		{small, []int{0, 4}, []int{0, 0}, false},
		{small, []int{0, 4, 1}, []int{0, 0, 0}, false},
		{small, []int{0, 1, 2, 3, 4}, []int{0, 0, 0, 0, 0}, false},
		{small, []int{3, 2, 1, 0}, []int{2, 2, 2, 2}, true},
		{small, []int{3, 2, 1, 0}, []int{3, 2, 2, 2}, false},
		{small, []int{3, 2, 1, 0}, []int{2, 3, 2, 2}, false},
		{small, []int{3, 2, 1, 0}, []int{2, 2, 2, 3}, false},
		{api.Conf{Segs: 5, Slots: 1}, []int{4}, []int{1}, true},
		{api.Conf{Segs: 5, Slots: 1}, []int{5}, []int{1}, false},
		{api.Conf{Segs: 5, Slots: 1}, []int{4}, []int{2}, false},
		{api.Conf{Segs: 16, Slots: 30}, []int{15, 0}, []int{30, 30}, true},
		{api.Conf{Segs: 16, Slots: 29}, []int{15, 0}, []int{29, 30}, false},
		{api.Conf{Segs: 15, Slots: 30}, []int{0, 15}, []int{30, 30}, false},
	} {
		// The records are there, at the places that a greater store gives them.
		d := newDisk(t, 4096)
		head(t, d, 1, base(c.order, c.lens))
		for i, seg := range c.order {
			for slot := range c.lens[i] {
				plant(t, d, c.conf.Slots, api.Loc{Seg: seg, Slot: slot}, live(1, 1, 1))
			}
		}
		k := base([]int{0}, []int{0})
		k.Gen = 6
		head(t, d, 0, k)
		want := api.ErrForm
		if c.fits {
			want = api.OK
		}
		tellsNone(t, d, c.conf, want)
	}
}

// P10.1: what was counted is found, segment by segment, in the order of the checkpoint, whatever LSN, Epoch and Ver it has.
func TestCounted(t *testing.T) {
	d := made(t, small, base([]int{2, 0, 3}, []int{2, 1, 1}))
	want := []Found{
		{api.Loc{Seg: 2, Slot: 0}, live(1, 1, 1)},
		{api.Loc{Seg: 2, Slot: 1}, live(2, 1, 1)},
		{api.Loc{Seg: 0, Slot: 0}, live(3, 1, 1)},
		{api.Loc{Seg: 3, Slot: 0}, live(4, 1, 1)},
	}
	m, e := held(t, d, small)
	if e != api.OK || !slices.Equal(m.Found, want) || !sameCheck(m.Check, base([]int{2, 0, 3}, []int{2, 1, 1})) {
		t.Fatal(m, e)
	}
	tells(t, d, small, []int{2, 0, 3}, []int{2, 1, 1}, []uint64{1, 3, 4}, 10, 5, 1, 2, 3, 4)
	for _, r := range []record.Record{
		live(10, 3, 6), live(11, 3, greatest), live(greatest, math.MaxUint32, 9), tomb(9, 3, 77), tomb(3, 0, 0),
		{LSN: 8, Epoch: 2, Kind: record.Live, Ver: 6, Deadline: greatest, ID: "0123456789-abcxz", Value: strings.Repeat("\xff", 64)},
	} {
		x := d.Copy()
		plant(t, x, 2, api.Loc{Seg: 0, Slot: 0}, r)
		want[2].R = r
		m, e := held(t, x, small)
		if e != api.OK || !slices.Equal(m.Found, want) || m.Table.Firsts[1] != r.LSN || m.LSN != 10 || m.Ver != 5 {
			t.Fatal(r, m, e)
		}
	}
}

// P10.1: a record that is counted and is none, or a Foot: ErrForm, at each place.
func TestCountedNone(t *testing.T) {
	order, lens := []int{2, 0, 3}, []int{2, 1, 2}
	right, _ := record.Encode(live(9, 3, 5))
	step, _ := record.Encode(foot(9, 3, 1))
	nextFoot, _ := record.Encode(foot(10, 3, 1))
	k, _ := ckpt.Encode(base(order, lens))
	for _, s := range []string{strings.Repeat("\x00", 128), strings.Repeat("x", 128), right[:127] + "\x01", right[:124] + "\x00\x00\x00\x00", "\x08" + right[1:], step, nextFoot, k} {
		for i, seg := range order {
			for slot := range 3 {
				d := made(t, small, base(order, lens))
				write(t, d, place(2, api.Loc{Seg: seg, Slot: slot}), s)
				want := api.ErrForm
				if slot >= lens[i] {
					want = api.OK
				}
				tellsNone(t, d, small, want)
			}
		}
	}
}

// P10.1: what is free is not asked: whatever stands there.
func TestFreeIsNotAsked(t *testing.T) {
	d := made(t, small, base([]int{2, 0}, []int{1, 1}))
	for _, seg := range []int{1, 3} {
		for slot := range 3 {
			write(t, d, place(2, api.Loc{Seg: seg, Slot: slot}), strings.Repeat("x", 128))
		}
	}
	tells(t, d, small, []int{2, 0}, []int{1, 1}, []uint64{1, 2}, 10, 5, 1, 2)
	for slot := range 2 {
		plant(t, d, 2, api.Loc{Seg: 3, Slot: slot}, live(10+uint64(slot), 3, 9))
		plant(t, d, 2, api.Loc{Seg: 2, Slot: 1 + slot}, live(10+uint64(slot), 3, 9))
	}
	tells(t, d, small, []int{2, 0}, []int{1, 1}, []uint64{1, 2}, 10, 5, 1, 2)
}

// P10.1: Firsts of a segment that has no record is the checkpoint's LSN, wherever the segment stands.
func TestFirsts(t *testing.T) {
	for _, c := range []struct {
		lens   []int
		firsts []uint64
		found  []uint64
	}{
		{[]int{0, 0, 0}, []uint64{10, 10, 10}, nil},
		{[]int{1, 0, 0}, []uint64{1, 10, 10}, []uint64{1}},
		{[]int{0, 2, 0}, []uint64{10, 1, 10}, []uint64{1, 2}},
		{[]int{0, 0, 2}, []uint64{10, 10, 1}, []uint64{1, 2}},
		{[]int{2, 0, 2}, []uint64{1, 10, 3}, []uint64{1, 2, 3, 4}},
		{[]int{2, 2, 0}, []uint64{1, 3, 10}, []uint64{1, 2, 3, 4}},
		{[]int{1, 2, 1}, []uint64{1, 2, 4}, []uint64{1, 2, 3, 4}},
	} {
		d := made(t, small, base([]int{1, 3, 0}, c.lens))
		tells(t, d, small, []int{1, 3, 0}, c.lens, c.firsts, 10, 5, c.found...)
		if c.lens[2] > 0 {
			continue
		}
		// That of the open one stays, when it has a record.
		plant(t, d, 2, api.Loc{}, tomb(10, 3, 6))
		lens := slices.Clone(c.lens)
		lens[2]++
		tells(t, d, small, []int{1, 3, 0}, lens, c.firsts, 11, 6, append(c.found, 10)...)
	}
}

// P10.2: what stands behind those that were counted: it is found, if it has the next LSN and the Epoch.
func TestBehind(t *testing.T) {
	right, _ := record.Encode(live(10, 3, 6))
	for _, c := range []struct {
		r     record.Record
		found bool
	}{
		{live(10, 3, 6), true}, {tomb(10, 3, 6), true}, {live(10, 3, 0), true}, {tomb(10, 3, 0), true},
		{live(9, 3, 6), false}, {live(11, 3, 6), false}, {live(1, 3, 6), false}, {live(10+1<<32, 3, 6), false}, {live(greatest, 3, 6), false},
		{live(10, 2, 6), false}, {live(10, 4, 6), false}, {live(10, 0, 6), false}, {live(10, 1, 6), false}, {live(10, math.MaxUint32, 6), false},
		{tomb(9, 3, 6), false}, {tomb(11, 3, 6), false}, {tomb(10, 2, 6), false}, {tomb(10, 4, 6), false}, {live(3, 10, 6), false},
	} {
		d := made(t, small, base([]int{0}, []int{1}))
		plant(t, d, 2, api.Loc{Slot: 1}, c.r)
		if c.found {
			tells(t, d, small, []int{0}, []int{2}, []uint64{1}, 11, max(c.r.Ver, 5), 1, 10)
		} else {
			tells(t, d, small, []int{0}, []int{1}, []uint64{1}, 10, 5, 1)
		}
	}
	for n := range 128 {
		d := made(t, small, base([]int{0}, []int{1}))
		write(t, d, 3, right[:n]+string([]byte{right[n] ^ 1})+right[n+1:])
		tells(t, d, small, []int{0}, []int{1}, []uint64{1}, 10, 5, 1)
	}
}

// P10.2: one behind the other, up to the first that is none: what stands behind that is not found.
func TestBehindUpTo(t *testing.T) {
	c := api.Conf{Segs: 4, Slots: 8}
	for n := range 8 {
		for _, other := range []record.Record{live(9+uint64(n), 3, 99), live(11+uint64(n), 3, 99), live(10+uint64(n), 2, 99)} {
			d := made(t, c, base([]int{1}, []int{0}))
			var found []uint64
			for slot := range 8 {
				plant(t, d, 8, api.Loc{Seg: 1, Slot: slot}, live(10+uint64(slot), 3, 20+uint64(slot)))
			}
			for i := range n {
				found = append(found, 10+uint64(i))
			}
			plant(t, d, 8, api.Loc{Seg: 1, Slot: n}, other)
			ver := uint64(5)
			if n > 0 {
				ver = 19 + uint64(n)
			}
			tells(t, d, c, []int{1}, []int{n}, []uint64{10}, 10+uint64(n), ver, found...)
		}
	}
}

// P10.2: the last slot takes a Live and a Tomb, that of the Foot, behind it, takes neither.
func TestLastSlot(t *testing.T) {
	for slots := 1; slots <= 30; slots++ {
		c := api.Conf{Segs: 4, Slots: slots}
		for _, kind := range []func(lsn uint64, epoch uint32, ver uint64) record.Record{live, tomb} {
			d := made(t, c, base([]int{2}, []int{slots - 1}))
			plant(t, d, slots, api.Loc{Seg: 2, Slot: slots - 1}, kind(10, 3, 6))
			plant(t, d, slots, api.Loc{Seg: 2, Slot: slots}, kind(11, 3, 7))
			plant(t, d, slots, api.Loc{Seg: 3}, kind(12, 3, 8))
			plant(t, d, slots, api.Loc{}, kind(12, 3, 8))
			m, e := held(t, d, c)
			if e != api.OK || len(m.Found) != slots || m.LSN != 11 || m.Ver != 6 || m.Table.Lens[0] != slots {
				t.Fatal(slots, m, e)
			}
			// Of a segment that is counted as full there is no more.
			d = made(t, c, base([]int{2}, []int{slots}))
			plant(t, d, slots, api.Loc{Seg: 2, Slot: slots}, kind(10, 3, 7))
			plant(t, d, slots, api.Loc{Seg: 3}, kind(10, 3, 8))
			m, e = held(t, d, c)
			if e != api.OK || len(m.Found) != slots || m.LSN != 10 || m.Ver != 5 {
				t.Fatal(slots, m, e)
			}
		}
	}
}

// P10.2: Ver is the greatest one of the checkpoint's and of those behind it; those that it counts are not asked.
func TestVers(t *testing.T) {
	c := api.Conf{Segs: 4, Slots: 4}
	for _, x := range []struct {
		check uint64
		vers  [3]uint64
		want  uint64
	}{
		{5, [3]uint64{6, 7, 8}, 8}, {5, [3]uint64{8, 7, 6}, 8}, {5, [3]uint64{4, 3, 2}, 5}, {5, [3]uint64{0, 9, 0}, 9}, {5, [3]uint64{5, 5, 5}, 5}, {5, [3]uint64{5, 6, 5}, 6},
		{0, [3]uint64{0, 0, 0}, 0}, {0, [3]uint64{1, 0, 0}, 1}, {0, [3]uint64{0, 0, greatest}, greatest}, {greatest, [3]uint64{1, 2, 3}, greatest}, {1 << 63, [3]uint64{1<<63 - 1, 1<<63 + 1, 1}, 1<<63 + 1},
	} {
		for _, kind := range []func(lsn uint64, epoch uint32, ver uint64) record.Record{live, tomb} {
			k := base([]int{0}, []int{1})
			k.Ver = x.check
			d := made(t, c, k)
			plant(t, d, 4, api.Loc{}, live(1, 1, 1<<62))
			for i, ver := range x.vers {
				plant(t, d, 4, api.Loc{Slot: i + 1}, kind(10+uint64(i), 3, ver))
			}
			tells(t, d, c, []int{0}, []int{4}, []uint64{1}, 13, x.want, 1, 10, 11, 12)
		}
	}
}

// P10.2: a Foot leads on to the lowest free segment, and to no other one; it has the next LSN and the Epoch.
func TestFoot(t *testing.T) {
	for _, c := range []struct {
		order  []int
		lowest int
	}{
		{[]int{0}, 1}, {[]int{1}, 0}, {[]int{3}, 0}, {[]int{2, 0}, 1}, {[]int{0, 1}, 2}, {[]int{3, 1, 0}, 2}, {[]int{2, 1, 3}, 0}, {[]int{2, 1, 0}, 3}, {[]int{2, 1, 0, 3}, -1}, {[]int{0, 1, 2, 3}, -1},
	} {
		n := len(c.order)
		lens, firsts := make([]int, n), slices.Repeat([]uint64{10}, n)
		open := c.order[n-1]
		for slot := range 3 {
			lens[n-1] = slot
			var found []uint64
			if slot > 0 {
				firsts[n-1] = 1
				found = []uint64{1, 2}[:slot]
			}
			for to := range 16 {
				d := made(t, small, base(c.order, lens))
				if to%4 != open {
					plant(t, d, 2, api.Loc{Seg: to % 4}, live(11, 3, 6))
				}
				plant(t, d, 2, api.Loc{Seg: open, Slot: slot}, foot(10, 3, uint64(to)))
				if to != c.lowest {
					tells(t, d, small, c.order, lens, firsts, 10, 5, found...)
					continue
				}
				tells(t, d, small, append(slices.Clone(c.order), to), append(slices.Clone(lens), 1), append(slices.Clone(firsts), 11), 12, 6, append(slices.Clone(found), 11)...)
				for _, other := range []record.Record{foot(9, 3, uint64(to)), foot(11, 3, uint64(to)), foot(10, 2, uint64(to)), foot(10, 4, uint64(to))} {
					plant(t, d, 2, api.Loc{Seg: open, Slot: slot}, other)
					tells(t, d, small, c.order, lens, firsts, 10, 5, found...)
				}
			}
		}
	}
}

// P10.2: a Foot in each slot, up to the one behind the last; the record behind it stands in the next segment, and nowhere else.
func TestFootInEachSlot(t *testing.T) {
	for _, slots := range []int{1, 2, 5, 30} {
		c := api.Conf{Segs: 5, Slots: slots}
		for at := range slots + 1 {
			for counted := range at + 1 {
				d := made(t, c, base([]int{1}, []int{counted}))
				lsn := uint64(10)
				for slot := counted; slot < at; slot++ {
					plant(t, d, slots, api.Loc{Seg: 1, Slot: slot}, live(lsn, 3, 6))
					lsn++
				}
				plant(t, d, slots, api.Loc{Seg: 1, Slot: at}, foot(lsn, 3, 0))
				x := d.Copy()
				plant(t, x, slots, api.Loc{}, tomb(lsn+1, 3, 7))
				m, e := held(t, x, c)
				if e != api.OK || m.LSN != lsn+2 || m.Ver != 7 || len(m.Found) != at+1 || !slices.Equal(m.Table.Lens, []int{at, 1}) || m.Table.Firsts[1] != lsn+1 {
					t.Fatal(slots, at, counted, m, e)
				}
				if at < slots {
					plant(t, d, slots, api.Loc{Seg: 1, Slot: at + 1}, tomb(lsn+1, 3, 7))
				}
				plant(t, d, slots, api.Loc{Seg: 2}, tomb(lsn+1, 3, 7))
				m, e = held(t, d, c)
				if e != api.OK || m.LSN != lsn+1 || m.Ver != max(5, min(6, lsn-5)) || len(m.Found) != at || !slices.Equal(m.Table.Lens, []int{at, 0}) || m.Table.Firsts[1] != lsn+1 {
					t.Fatal(slots, at, counted, m, e)
				}
			}
		}
	}
}

// P10.2: Foot behind Foot, till no segment is free; a Foot then ends it, whatever its Deadline is.
func TestFeet(t *testing.T) {
	for to := range uint64(16) {
		d := made(t, small, base([]int{2}, []int{1}))
		plant(t, d, 2, api.Loc{Seg: 2, Slot: 1}, foot(10, 3, 0))
		plant(t, d, 2, api.Loc{Seg: 0}, foot(11, 3, 1))
		plant(t, d, 2, api.Loc{Seg: 1}, tomb(12, 3, 4))
		plant(t, d, 2, api.Loc{Seg: 1, Slot: 1}, foot(13, 3, 3))
		plant(t, d, 2, api.Loc{Seg: 3}, live(14, 3, 8))
		plant(t, d, 2, api.Loc{Seg: 3, Slot: 1}, live(15, 3, 7))
		plant(t, d, 2, api.Loc{Seg: 3, Slot: 2}, foot(16, 3, to))
		tells(t, d, small, []int{2, 0, 1, 3}, []int{1, 0, 1, 2}, []uint64{1, 11, 12, 14}, 16, 8, 1, 12, 14, 15)
	}
}

// P10.2: a store of most segments and most slots, full, all of it behind an empty checkpoint.
func TestGreatest(t *testing.T) {
	c := api.Conf{Segs: 16, Slots: 30, Share: 1, Rate: 8}
	d := made(t, c, ckpt.Check{Gen: 1, Epoch: 1, LSN: 1, Order: []int{0}, Lens: []int{0}})
	lsn := uint64(1)
	for seg := range 16 {
		for slot := range 30 {
			plant(t, d, 30, api.Loc{Seg: seg, Slot: slot}, live(lsn, 1, lsn))
			lsn++
		}
		if seg < 15 {
			plant(t, d, 30, api.Loc{Seg: seg, Slot: 30}, foot(lsn, 1, uint64(seg)+1))
			lsn++
		}
	}
	m, e := held(t, d, c)
	if e != api.OK || len(m.Found) != 480 || m.LSN != 496 || m.Ver != 495 || len(m.Table.Order) != 16 || m.Table.Firsts[15] != 466 {
		t.Fatal(m, e)
	}
}

// P10.1 and P10.2: of a sector that is written and not flushed, what is pending is found; Open flushes it.
func TestPending(t *testing.T) {
	d := made(t, small, base([]int{0}, []int{1}))
	d.Flush()
	plant(t, d, 2, api.Loc{Slot: 1}, live(10, 3, 6))
	tells(t, d, small, []int{0}, []int{2}, []uint64{1}, 11, 6, 1, 10)
	x := d.Copy()
	x.Crash(nil, -1, 0)
	tells(t, x, small, []int{0}, []int{1}, []uint64{1}, 10, 5, 1)
	if _, _, e := Open(d, small); e != api.OK {
		t.Fatal(e)
	}
	d.Crash(nil, -1, 0)
	tells(t, d, small, []int{0}, []int{2}, []uint64{1}, 11, 6, 1, 10)
}

// R1: behind the greatest LSN there is none, behind the greatest Epoch is 0, and behind the greatest number none.
func TestNoNumbersLeft(t *testing.T) {
	k := base([]int{0}, []int{1})
	k.LSN = greatest - 1
	d := made(t, small, k)
	tells(t, d, small, []int{0}, []int{1}, []uint64{1}, greatest-1, 5, 1)
	plant(t, d, 2, api.Loc{Slot: 1}, live(greatest-1, 3, 6))
	tells(t, d, small, []int{0}, []int{2}, []uint64{1}, greatest, 6, 1, greatest-1)
	x := d.Copy()
	plant(t, x, 2, api.Loc{Slot: 1}, live(greatest-1, 3, 6))
	plant(t, x, 2, api.Loc{Slot: 2}, foot(greatest, 3, 1))
	tells(t, x, small, []int{0, 1}, []int{2, 0}, []uint64{1, 0}, 0, 6, 1, greatest-1)
	k.LSN = greatest
	k.Lens = []int{0}
	d = made(t, small, k)
	plant(t, d, 2, api.Loc{}, live(greatest, 3, 6))
	plant(t, d, 2, api.Loc{Slot: 1}, live(1, 3, 6))
	tells(t, d, small, []int{0}, []int{1}, []uint64{greatest}, 0, 6, greatest)

	k = base([]int{0}, []int{1})
	k.Epoch = math.MaxUint32
	d = made(t, small, k)
	plant(t, d, 2, api.Loc{Slot: 1}, live(10, math.MaxUint32, 6))
	tells(t, d, small, []int{0}, []int{2}, []uint64{1}, 11, 6, 1, 10)
	if l, _, e := Open(d, small); e != api.OK || l.Epoch() != 0 {
		t.Fatal(e)
	}
	tells(t, d, small, []int{0}, []int{2}, []uint64{1}, 11, 6, 1, 10)

	k = base([]int{0}, []int{1})
	k.Gen = greatest
	tells(t, made(t, small, k), small, []int{0}, []int{1}, []uint64{1}, 10, 5, 1)
}

// P10.1 to P10.3: whatever a disk has: held against the model.
func TestAny(t *testing.T) {
	for seed := range int64(3000) {
		random := rand.New(rand.NewSource(seed))
		c := api.Conf{Segs: 4 + random.Intn(3), Slots: 1 + random.Intn(3)}
		k := anyCheck(random, c)
		d := newDisk(t, 2+c.Segs*(c.Slots+1)+random.Intn(2))
		for i := range 2 {
			if random.Intn(8) > 0 {
				head(t, d, i, k)
				k.Gen += uint64(random.Intn(3))
			}
		}
		anyRecords(t, random, d, c, k)
		held(t, d, c)
	}
}

func anyCheck(random *rand.Rand, c api.Conf) ckpt.Check {
	k := ckpt.Check{Gen: 1 + random.Uint64()>>(1+random.Intn(62)), Epoch: 1 + random.Uint32()>>random.Intn(32), LSN: 100, Ver: uint64(random.Intn(9))}
	segs := c.Segs
	if random.Intn(20) == 0 {
		segs++
	}
	k.Order = random.Perm(segs)[:1+random.Intn(c.Segs)]
	for range k.Order {
		records := random.Intn(c.Slots + 1)
		if random.Intn(60) == 0 {
			records++
		}
		k.Lens = append(k.Lens, records)
	}
	return k
}

// anyRecords lays records out as a log of that checkpoint would, but for some that are others.
func anyRecords(t *testing.T, random *rand.Rand, d *disk.Disk, c api.Conf, k ckpt.Check) {
	order, lens := slices.Clone(k.Order), slices.Clone(k.Lens)
	for i, seg := range order {
		for slot := range lens[i] {
			if seg < c.Segs && slot < c.Slots && random.Intn(60) > 0 {
				plant(t, d, c.Slots, api.Loc{Seg: seg, Slot: slot}, live(1+uint64(random.Intn(99)), k.Epoch-1, uint64(random.Intn(20))))
			}
		}
	}
	for lsn := k.LSN; ; lsn++ {
		last := len(order) - 1
		seg, free := order[last], lowest(order, c.Segs)
		if seg >= c.Segs || lens[last] > c.Slots || lens[last] == c.Slots && free < 0 {
			return
		}
		r := live(lsn, k.Epoch, uint64(random.Intn(12)))
		if random.Intn(3) == 0 {
			r = tomb(lsn, k.Epoch, uint64(random.Intn(12)))
		}
		at := api.Loc{Seg: seg, Slot: lens[last]}
		if lens[last] == c.Slots || random.Intn(4) == 0 && free >= 0 {
			r = foot(lsn, k.Epoch, uint64(free))
			order, lens = append(order, free), append(lens, 0)
		} else {
			lens[last]++
		}
		switch random.Intn(30) {
		case 0:
			r.LSN += uint64(random.Intn(3)) - 1
		case 1:
			r.Epoch += uint32(random.Intn(3)) - 1
		case 2:
			r = foot(lsn, k.Epoch, uint64(random.Intn(16)))
		case 3:
			r = live(lsn, k.Epoch, 30)
		case 4:
			continue
		}
		plant(t, d, c.Slots, at, r)
	}
}

// R2: of several errors that apply the first one is told.
func TestErrorsInOrder(t *testing.T) {
	bad := api.Conf{Segs: 4, Slots: 2, Rate: 9}
	k := base([]int{0, 4}, []int{1, 0})
	d := newDisk(t, 13)
	head(t, d, 1, k)
	d.Limit(0)
	tellsNone(t, d, bad, api.ErrArg)    // the disk is too small, the checkpoint does not fit, the disk is dead
	tellsNone(t, d, small, api.ErrFull) // the checkpoint does not fit, the disk is dead
	e := newDisk(t, 14)
	head(t, e, 1, k)
	e.Limit(0)
	tellsNone(t, e, bad, api.ErrArg)
	tellsNone(t, e, small, api.ErrForm) // the disk is dead
	f := newDisk(t, 14)
	head(t, f, 1, base([]int{0}, []int{1}))
	f.Limit(0)
	tellsNone(t, f, small, api.ErrForm)
	for _, x := range []*disk.Disk{d, e, f} {
		if l, m, err := Open(x, bad); err != api.ErrArg || l != nil || !same(m, Image{}) {
			t.Fatal(l, m, err)
		}
	}
}

// spoil writes over a list and the room behind it.
func spoil[T int | uint64](l []T) {
	for i := range l[:cap(l)] {
		l[:cap(l)][i] = 99
	}
}

func spoilFound(l []Found) {
	for i := range l[:cap(l)] {
		l[:cap(l)][i] = Found{api.Loc{Seg: 99, Slot: 99}, live(99, 99, 99)}
	}
}

func spoilAll(m Image) {
	spoil(m.Check.Order)
	spoil(m.Check.Lens)
	spoil(m.Table.Order)
	spoil(m.Table.Lens)
	spoil(m.Table.Firsts)
	spoilFound(m.Found)
}

// lists are copies of all numbers of an image's lists, with the room behind each.
func lists(m Image) [][]int {
	l := [][]int{m.Check.Order, m.Check.Lens, m.Table.Order, m.Table.Lens, nil, nil}
	for i := range l {
		l[i] = slices.Clone(l[i][:cap(l[i])])
	}
	for _, first := range m.Table.Firsts[:cap(m.Table.Firsts)] {
		l[4] = append(l[4], int(first))
	}
	for _, f := range m.Found[:cap(m.Found)] {
		l[5] = append(l[5], f.At.Seg)
	}
	return l
}

// images are disks whose images differ: with nothing behind the checkpoint, with records, with a Foot, and with nothing at all.
func images(t *testing.T) []*disk.Disk {
	a := made(t, small, base([]int{2, 0}, []int{2, 1}))
	b := a.Copy()
	plant(t, b, 2, api.Loc{Slot: 1}, live(10, 3, 6))
	c := b.Copy()
	plant(t, c, 2, api.Loc{Slot: 2}, foot(11, 3, 1))
	plant(t, c, 2, api.Loc{Seg: 1}, live(12, 3, 7))
	return []*disk.Disk{a, b, c, made(t, small, base([]int{3}, []int{0})), made(t, small, base([]int{3, 0, 1, 2}, []int{0, 0, 0, 0}))}
}

// R4: what is told is new memory, each list of its own: one that is written to is seen in no other one, in no later answer, and in no log.
func TestMemory(t *testing.T) {
	for _, d := range images(t) {
		was := sectors(d)
		for i := range 6 {
			m, _ := Scan(d, small)
			other, _ := Scan(d, small)
			want, kept := lists(m), lists(other)
			switch i {
			case 0:
				spoil(m.Check.Order)
			case 1:
				spoil(m.Check.Lens)
			case 2:
				spoil(m.Table.Order)
			case 3:
				spoil(m.Table.Lens)
			case 4:
				spoil(m.Table.Firsts)
			case 5:
				spoilFound(m.Found)
			}
			for j, l := range lists(m) {
				if j != i && !slices.Equal(l, want[j]) {
					t.Fatalf("list %d is %v behind a write to %d, want %v", j, l, i, want[j])
				}
			}
			for j, l := range lists(other) {
				if !slices.Equal(l, kept[j]) {
					t.Fatalf("list %d of another answer is %v, want %v", j, l, kept[j])
				}
			}
			leaves(t, d, was, d.Pending())
			held(t, d, small)
		}
	}
}

// R4 and R7: a log that was opened and the image that was told with it go their own ways, and so does a copy of the disk.
func TestOwnWays(t *testing.T) {
	for _, d := range images(t) {
		want, _ := model(d, small)
		was, pending := sectors(d), d.Pending()
		x := d.Copy()
		l, m, e := Open(x, small)
		_, other, _ := Open(d.Copy(), small)
		if e != api.OK {
			t.Fatal(e)
		}
		kept := l.Table()
		spoilAll(other)
		if !sameTable(l.Table(), want.Table) || !same(m, want) {
			t.Fatal(l.Table(), m)
		}
		if len(want.Table.Order) < 4 {
			if _, e := l.Append(live(0, 0, 50)); e != api.OK || l.Seal() != api.OK {
				t.Fatal(e)
			}
		} else if e := l.Drop(3, 50); e != api.OK {
			t.Fatal(e)
		}
		if !same(m, want) {
			t.Fatalf("the image is %v behind calls on the log, want %v", m, want)
		}
		now := l.Table()
		spoilAll(m)
		if !sameTable(l.Table(), now) || !sameTable(kept, want.Table) {
			t.Fatal("the log has changed behind a write to the image")
		}
		leaves(t, d, was, pending)
	}
}

// life is a log on a disk, and all that it was told to write.
type life struct {
	*testing.T
	c        api.Conf
	d        *disk.Disk
	l        *seglog.Log
	had      []Found // what the last checkpoint counts, in order
	lsn, ver uint64  // what it tells
	wrote    []Found // what was written behind it, Feet too, in order
	flushed  int     // how many of those were flushed
	last     uint64  // the last version
}

func newLife(t *testing.T, c api.Conf) *life {
	t.Helper()
	d := newDisk(t, 2+c.Segs*(c.Slots+1))
	l, e := seglog.Format(d, c)
	if e != api.OK {
		t.Fatal(e)
	}
	return &life{T: t, c: c, d: d, l: l, lsn: 1}
}

// copy is another life that goes on from here, on a disk of its own.
func (f *life) copy() *life {
	x := *f
	x.d = f.d.Copy()
	x.l = seglog.At(x.d, f.l.Table(), f.l.LSN(), f.l.Epoch(), f.l.Gen())
	x.had, x.wrote = slices.Clone(f.had), slices.Clone(f.wrote)
	return &x
}

// next is the record that is appended next: each has an id, and a value, of its own.
func (f *life) next() record.Record {
	f.last++
	id := "s" + strings.Repeat("x", int(f.last%11)) + string(rune('a'+f.last%26))
	if f.last%4 == 0 {
		return record.Record{Kind: record.Tomb, Ver: f.last, ID: id}
	}
	return record.Record{Kind: record.Live, Ver: f.last, Deadline: f.last * 1e9, ID: id, Value: strings.Repeat("\xff", int(f.last%65))}
}

// add appends n records, while there is room.
func (f *life) add(n int) {
	f.Helper()
	for range n {
		was, lsn := f.l.Table(), f.l.LSN()
		r := f.next()
		at, e := f.l.Append(r)
		if e == api.ErrFull {
			return
		}
		if e != api.OK {
			f.Fatal(e)
		}
		if len(f.l.Table().Order) > len(was.Order) {
			f.foot(was, lsn)
			lsn++
		}
		r.LSN, r.Epoch = lsn, f.l.Epoch()
		f.wrote = append(f.wrote, Found{at, r})
	}
}

func (f *life) foot(was table.Table, lsn uint64) {
	last := len(was.Order) - 1
	to := f.l.Table().Order[last+1]
	f.wrote = append(f.wrote, Found{api.Loc{Seg: was.Order[last], Slot: was.Lens[last]}, foot(lsn, f.l.Epoch(), uint64(to))})
}

func (f *life) seal() {
	f.Helper()
	was, lsn := f.l.Table(), f.l.LSN()
	if e := f.l.Seal(); e == api.OK {
		f.foot(was, lsn)
	} else if e != api.ErrFull {
		f.Fatal(e)
	}
}

func (f *life) flush() {
	f.Helper()
	if e := f.d.Flush(); e != api.OK {
		f.Fatal(e)
	}
	f.flushed = len(f.wrote)
}

func (f *life) checkpoint() {
	f.Helper()
	if e := f.l.Checkpoint(f.last); e != api.OK {
		f.Fatal(e)
	}
	f.counts()
}

func (f *life) drop(seg int) {
	f.Helper()
	if e := f.l.Drop(seg, f.last); e == api.ErrArg {
		return
	} else if e != api.OK {
		f.Fatal(e)
	}
	f.counts()
	f.had = slices.DeleteFunc(f.had, func(x Found) bool { return x.At.Seg == seg })
}

// counts makes all that was written what the last checkpoint counts.
func (f *life) counts() {
	f.had, _, _ = f.first(len(f.wrote))
	f.wrote, f.flushed = nil, 0
	f.lsn, f.ver = f.l.LSN(), f.last
}

// first is what there is of the first n that were written: the records, the next LSN, and the last version.
func (f *life) first(n int) ([]Found, uint64, uint64) {
	found, ver := slices.Clone(f.had), f.ver
	for _, x := range f.wrote[:n] {
		ver = max(ver, x.R.Ver)
		if x.R.Kind != record.Foot {
			found = append(found, x)
		}
	}
	return found, f.lsn + uint64(n), ver
}

// left is how many of those that were written are on a disk, up to the first that is not.
func (f *life) left(d *disk.Disk) int {
	for n, x := range f.wrote {
		want, _ := record.Encode(x.R)
		if s, _ := d.Read(place(f.c.Slots, x.At)); s != want {
			return n
		}
	}
	return len(f.wrote)
}

// finds asks what is found on a disk: the first n that were written, and no others.
func (f *life) finds(d *disk.Disk, n int) Image {
	f.Helper()
	found, lsn, ver := f.first(n)
	m, e := Scan(d, f.c)
	if e != api.OK || !slices.Equal(m.Found, found) || m.LSN != lsn || m.Ver != ver {
		f.Fatalf("%v, %d, want %v, LSN %d, Ver %d", m, e, found, lsn, ver)
	}
	return m
}

// crash crashes the disk, asks what is found, opens it, and goes on with that.
func (f *life) crash(keep []bool, torn, at int) {
	f.Helper()
	f.d.Crash(keep, torn, at)
	n := f.left(f.d)
	if n < f.flushed {
		f.Fatalf("%d of %d that were flushed are left", n, f.flushed)
	}
	f.reopen(n)
}

// reopen opens the disk, of which the first n that were written are left, twice, and goes on with that.
func (f *life) reopen(n int) {
	f.Helper()
	was := f.finds(f.d, n)
	for i := range uint64(2) {
		l, m, e := Open(f.d, f.c)
		if e != api.OK || !slices.Equal(m.Found, was.Found) || m.LSN != was.LSN || m.Ver != was.Ver {
			f.Fatalf("opened, %v, %d, want %v", m, e, was)
		}
		if l.Epoch() != was.Check.Epoch+uint32(i)+1 || l.Gen() != was.Check.Gen+i+1 || l.LSN() != was.LSN || !slices.Equal(l.Table().Lens, was.Table.Lens) {
			f.Fatalf("opened, %v, LSN %d, Epoch %d, Gen %d, want %v", l.Table(), l.LSN(), l.Epoch(), l.Gen(), was)
		}
		f.l = l
		f.d.Crash(nil, -1, 0)
	}
	f.had, f.lsn, f.ver = f.first(n)
	f.wrote, f.flushed = nil, 0
	f.finds(f.d, 0)
}

// lives have records pending: in a new log; behind a checkpoint, where the segments had others; behind a crash that left others of the same LSNs at the same places; and in a log that rolls at each record.
func lives(t *testing.T) []*life {
	fresh := newLife(t, small)
	fresh.add(4)

	used := newLife(t, small)
	used.add(8)
	used.drop(1)
	used.drop(0)
	used.drop(2)
	used.add(3)
	used.seal()

	stale := newLife(t, small)
	stale.add(1)
	stale.flush()
	stale.add(4)
	stale.crash([]bool{false, true, true, true, true}, -1, 0)
	stale.add(1)
	stale.flush()
	stale.add(3)

	rolls := newLife(t, api.Conf{Segs: 4, Slots: 1})
	rolls.add(1)
	rolls.seal()
	rolls.checkpoint()
	rolls.add(3)

	return []*life{fresh, used, stale, rolls}
}

// subset is the nth one of n pending writes.
func subset(n, size int) []bool {
	keep := make([]bool, size)
	for i := range keep {
		keep[i] = n>>i&1 == 1
	}
	return keep
}

// P10.4: a crash that keeps each subset of what was pending; opened again, and appended to behind that, where the next crash loses all of it, or keeps it.
func TestCrashKeeps(t *testing.T) {
	for i, f := range lives(t) {
		size := f.d.Pending()
		if size < 4 || size > 6 {
			t.Fatal(i, size)
		}
		most := 0
		for n := range 1 << size {
			x := f.copy()
			x.crash(subset(n, size), -1, 0)
			most = max(most, len(x.had)-len(f.had))
			x.add(1)
			y := x.copy()
			x.crash(nil, -1, 0)
			y.crash(slices.Repeat([]bool{true}, 9), -1, 0)
			y.add(2)
			y.flush()
			y.crash(nil, -1, 0)
		}
		all, _, _ := f.first(len(f.wrote))
		if most != len(all)-len(f.had) {
			t.Fatalf("life %d: at most %d are found", i, most)
		}
	}
}

// P10.4: a crash that tears each of what was pending, at each number of bytes, and keeps or loses the others.
func TestCrashTears(t *testing.T) {
	for _, f := range lives(t) {
		size := f.d.Pending()
		for torn := range size {
			for _, n := range []int{0, 1<<torn - 1, 1<<size - 1 - 1<<torn} {
				for at := -1; at <= 130; at++ {
					x := f.copy()
					x.crash(subset(n, size), torn, at)
					x.add(1)
					x.crash([]bool{true, true}, -1, 0)
				}
			}
		}
	}
}

// P10.4, as written out: a torn record is found as soon as its last byte that is not the old one's is there.
func TestTorn(t *testing.T) {
	for at := -1; at <= 130; at++ {
		f := newLife(t, small)
		f.add(2)
		f.d.Crash([]bool{true}, 1, at)
		want := 1
		if at >= 125 { // the Epoch's higher bytes are 0
			want = 2
		}
		if m := f.finds(f.d, want); len(m.Found) != want {
			t.Fatal(at, m)
		}
	}
}

// P10.4: a Checkpoint or a Drop that the disk stops, and a crash: what the old checkpoint, or the new one, had on; all that was flushed.
func TestCrashInCheckpoint(t *testing.T) {
	for _, begun := range lives(t) {
		for limit := range 3 {
			for _, seg := range []int{-1, begun.l.Table().Order[0]} {
				f := begun.copy()
				f.d.Limit(limit)
				if seg < 0 {
					if e := f.l.Checkpoint(f.last); e != api.ErrDead {
						t.Fatal(e)
					}
				} else if e := f.l.Drop(seg, f.last); e != api.ErrDead {
					t.Fatal(seg, e)
				}
				if limit > 0 {
					f.flushed = len(f.wrote)
				}
				for at := -1; at <= 129; at++ {
					x := f.copy()
					x.d.Crash(nil, 0, at)
					if k, _ := best(x.d); limit == 2 && k.Gen == begun.l.Gen()+1 {
						x.had, _, _ = x.first(len(x.wrote))
						x.had = slices.DeleteFunc(x.had, func(r Found) bool { return r.At.Seg == seg })
						x.wrote, x.flushed = nil, 0
						x.lsn, x.ver = k.LSN, k.Ver
					} else if k.Gen != begun.l.Gen() || at > 127 && limit == 2 {
						t.Fatal(k, at)
					}
					n := x.left(x.d)
					if n < x.flushed {
						t.Fatal(n, x.flushed)
					}
					x.reopen(n)
					x.add(2)
					x.crash([]bool{true}, 1, at)
				}
			}
		}
	}
}

// P10.4: an Open that the disk stops, and a crash: opened again, the same is found.
func TestCrashInOpen(t *testing.T) {
	for _, begun := range lives(t) {
		for limit := range 3 {
			for at := -1; at <= 129; at++ {
				f := begun.copy()
				f.d.Crash([]bool{true, true, false, true}, 3, 100)
				n := f.left(f.d)
				was := f.finds(f.d, n)
				f.d.Limit(limit)
				if l, _, e := Open(f.d, f.c); e != api.ErrDead || l != nil {
					t.Fatal(e)
				}
				f.d.Crash(nil, 0, at)
				m, e := Scan(f.d, f.c)
				if e != api.OK || !slices.Equal(m.Found, was.Found) || m.LSN != was.LSN || m.Ver != was.Ver || !slices.Equal(m.Table.Order, was.Table.Order) || !slices.Equal(m.Table.Lens, was.Table.Lens) {
					t.Fatalf("%v, %d, want %v", m, e, was)
				}
				f.had, f.lsn, f.ver = f.first(n)
				f.wrote, f.flushed = nil, 0
				f.reopen(0)
				f.add(3)
				f.crash([]bool{true, true}, -1, 0)
			}
		}
	}
}

// P10.4: an Append that the disk stops between its Foot and its record: the Foot alone may be left, and the log goes on behind it.
func TestCrashInAppend(t *testing.T) {
	for limit := range 2 {
		for n := range 8 {
			for at := -1; at <= 129; at++ {
				f := newLife(t, small)
				f.add(2)
				f.d.Limit(limit)
				if _, e := f.l.Append(f.next()); e != api.ErrDead {
					t.Fatal(e)
				}
				if limit == 1 {
					f.wrote = append(f.wrote, Found{api.Loc{Slot: 2}, foot(3, 1, 1)})
				}
				f.crash(subset(n, 3), 2, at)
				if n == 7 && limit == 1 && !slices.Equal(f.l.Table().Order, []int{0, 1}) {
					t.Fatal(f.l.Table())
				}
				f.add(3)
				f.crash([]bool{true, true, true}, -1, 0)
			}
		}
	}
}

// P10.4: whole lives, with many crashes.
func TestLives(t *testing.T) {
	for seed := range int64(60) {
		random := rand.New(rand.NewSource(seed))
		f := newLife(t, api.Conf{Segs: 4 + random.Intn(3), Slots: 1 + random.Intn(4)})
		for range 100 {
			switch random.Intn(12) {
			case 0:
				f.seal()
			case 1:
				f.flush()
			case 2:
				f.checkpoint()
			case 3, 4:
				f.drop(random.Intn(f.c.Segs))
			case 5:
				keep := make([]bool, random.Intn(f.d.Pending()+2))
				for i := range keep {
					keep[i] = random.Intn(5) > 0
				}
				f.crash(keep, random.Intn(f.d.Pending()+1), random.Intn(131)-1)
			default:
				f.add(1)
			}
			held(t, f.d, f.c)
		}
	}
}

// The chapter's example.
func TestExample(t *testing.T) {
	f := newLife(t, small)
	f.add(2)
	for _, c := range []struct {
		keep []bool
		want int
	}{{[]bool{false, true}, 0}, {[]bool{true, false}, 1}, {[]bool{true, true}, 2}, {nil, 0}} {
		d := f.d.Copy()
		d.Crash(c.keep, -1, 0)
		if m := f.finds(d, c.want); len(m.Found) != c.want {
			t.Fatal(c.keep, m)
		}
	}
}
