package seglog

import (
	"math"
	"math/rand"
	"slices"
	"strings"
	"testing"

	"lodger/api"
	"lodger/check"
	"lodger/ckpt"
	"lodger/disk"
	"lodger/record"
	"lodger/table"
)

const greatest = math.MaxUint64

var zeros = strings.Repeat("\x00", api.Sector)

// model is a log as the chapter's words tell it, on a disk of its own, that is handed the same acts.
type model struct {
	disk        *disk.Disk
	segs, slots int
	order, lens []int
	firsts      []uint64
	lsn         uint64
	epoch       uint32
	gen         uint64
}

func (m *model) last() int { return len(m.order) - 1 }

func (m *model) sector(seg, slot int) int { return 2 + seg*(m.slots+1) + slot }

// free is the lowest free segment, or -1.
func (m *model) free() int {
	for seg := 0; seg < m.segs; seg++ {
		if !slices.Contains(m.order, seg) {
			return seg
		}
	}
	return -1
}

func (m *model) table() table.Table {
	return table.Table{Segs: m.segs, Slots: m.slots, Order: m.order, Lens: m.lens, Firsts: m.firsts}
}

func (m *model) write(r record.Record) (api.Loc, api.Errno) {
	at := api.Loc{Seg: m.order[m.last()], Slot: m.lens[m.last()]}
	r.LSN, r.Epoch = m.lsn, m.epoch
	s, _ := record.Encode(r)
	if e := m.disk.Write(m.sector(at.Seg, at.Slot), s); e != api.OK {
		return api.Loc{}, e
	}
	m.lsn++
	return at, api.OK
}

func (m *model) seal() api.Errno {
	seg := m.free()
	if seg < 0 {
		return api.ErrFull
	}
	if _, e := m.write(record.Record{Kind: record.Foot, Deadline: uint64(seg)}); e != api.OK {
		return e
	}
	m.order, m.lens, m.firsts = append(m.order, seg), append(m.lens, 0), append(m.firsts, m.lsn)
	return api.OK
}

func (m *model) append(r record.Record) (api.Loc, api.Errno) {
	r.LSN = m.lsn
	if r.Kind != record.Live && r.Kind != record.Tomb || !record.Right(r) {
		return api.Loc{}, api.ErrForm
	}
	if m.lens[m.last()] == m.slots {
		if e := m.seal(); e != api.OK {
			return api.Loc{}, e
		}
	}
	at, e := m.write(r)
	if e == api.OK {
		m.lens[m.last()]++
	}
	return at, e
}

func (m *model) checkpoint(ver uint64) api.Errno {
	if e := m.disk.Flush(); e != api.OK {
		return e
	}
	s, _ := ckpt.Encode(ckpt.Check{Gen: m.gen + 1, Epoch: m.epoch, LSN: m.lsn, Ver: ver, Order: m.order, Lens: m.lens})
	if e := m.disk.Write(int((m.gen+1)%2), s); e != api.OK {
		return e
	}
	if e := m.disk.Flush(); e != api.OK {
		return e
	}
	m.gen++
	return api.OK
}

func (m *model) drop(seg int, ver uint64) api.Errno {
	i := slices.Index(m.order, seg)
	if i < 0 || i == m.last() {
		return api.ErrArg
	}
	m.order, m.lens, m.firsts = slices.Delete(m.order, i, i+1), slices.Delete(m.lens, i, i+1), slices.Delete(m.firsts, i, i+1)
	return m.checkpoint(ver)
}

func (m *model) read(at api.Loc) (record.Record, api.Errno) {
	i := slices.Index(m.order, at.Seg)
	if i < 0 || at.Slot < 0 || at.Slot >= m.lens[i] {
		return record.Record{}, api.ErrNone
	}
	s, _ := m.disk.Read(m.sector(at.Seg, at.Slot))
	return record.Decode(s)
}

// pair is a log, and the model that it is held against.
type pair struct {
	*testing.T
	l *Log
	d *disk.Disk
	m *model
}

func newDisk(t *testing.T, n int) *disk.Disk {
	t.Helper()
	d, e := disk.New(n)
	if e != api.OK {
		t.Fatal("disk.New", n, e)
	}
	return d
}

// formatted has a new log, on a disk with that many sectors more than are needed.
func formatted(t *testing.T, segs, slots, more int) *pair {
	t.Helper()
	c := api.Conf{Segs: segs, Slots: slots, Share: 0.5, Rate: 1}
	d := newDisk(t, check.Sectors(c)+more)
	m := &model{newDisk(t, d.Len()), segs, slots, []int{0}, []int{0}, []uint64{1}, 1, 1, 0}
	l, e := Format(d, c)
	if e != api.OK || m.checkpoint(0) != api.OK {
		t.Fatal("Format", c, e)
	}
	p := &pair{t, l, d, m}
	p.same()
	return p
}

// begun has a log that At goes on with, on a new disk.
func begun(t *testing.T, x table.Table, lsn uint64, epoch uint32, gen uint64) *pair {
	t.Helper()
	n := 2 + x.Segs*(x.Slots+1)
	d := newDisk(t, n)
	m := &model{newDisk(t, n), x.Segs, x.Slots, slices.Clone(x.Order), slices.Clone(x.Lens), slices.Clone(x.Firsts), lsn, epoch, gen}
	p := &pair{t, At(d, x, lsn, epoch, gen), d, m}
	p.same()
	return p
}

func sameTable(a, b table.Table) bool {
	return a.Segs == b.Segs && a.Slots == b.Slots && slices.Equal(a.Order, b.Order) && slices.Equal(a.Lens, b.Lens) && slices.Equal(a.Firsts, b.Firsts)
}

func image(d *disk.Disk) []string {
	l := make([]string, d.Len())
	for i := range l {
		l[i], _ = d.Read(i)
	}
	return l
}

// has asks for what a log has.
func has(t *testing.T, l *Log, x table.Table, lsn uint64, epoch uint32, gen uint64) {
	t.Helper()
	if got := l.Table(); !sameTable(got, x) || l.LSN() != lsn || l.Epoch() != epoch || l.Gen() != gen {
		t.Fatalf("%v, LSN %d, Epoch %d, Gen %d, want %v, %d, %d, %d", got, l.LSN(), l.Epoch(), l.Gen(), x, lsn, epoch, gen)
	}
}

// same asks whether log and model have the same, and whether their disks have.
func (p *pair) same() {
	p.Helper()
	has(p.T, p.l, p.m.table(), p.m.lsn, p.m.epoch, p.m.gen)
	p.sameDisks()
}

func (p *pair) sameDisks() {
	p.Helper()
	if p.d.Pending() != p.m.disk.Pending() {
		p.Fatalf("%d are pending, want %d", p.d.Pending(), p.m.disk.Pending())
	}
	a, b := image(p.d), image(p.m.disk)
	for i := range b {
		if a[i] != b[i] {
			p.Fatalf("sector %d is %q, want %q", i, a[i], b[i])
		}
	}
}

func (p *pair) add(r record.Record) {
	p.Helper()
	at, e := p.l.Append(r)
	want, err := p.m.append(r)
	if at != want || e != err {
		p.Fatalf("Append(%v) = %v, %d, want %v, %d", r, at, e, want, err)
	}
}

func (p *pair) put(r record.Record) {
	p.Helper()
	p.add(r)
	p.same()
}

// fill appends n records.
func (p *pair) fill(n int) {
	p.Helper()
	for i := range n {
		p.add(record.Record{Kind: record.Live, Ver: uint64(i) + 1, Deadline: 9, ID: "a", Value: "v"})
	}
	p.same()
}

func (p *pair) seal() {
	p.Helper()
	if e, want := p.l.Seal(), p.m.seal(); e != want {
		p.Fatalf("Seal() = %d, want %d", e, want)
	}
	p.same()
}

func (p *pair) checkpoint(ver uint64) {
	p.Helper()
	if e, want := p.l.Checkpoint(ver), p.m.checkpoint(ver); e != want {
		p.Fatalf("Checkpoint(%d) = %d, want %d", ver, e, want)
	}
	p.same()
}

func (p *pair) drop(seg int, ver uint64) {
	p.Helper()
	if e, want := p.l.Drop(seg, ver), p.m.drop(seg, ver); e != want {
		p.Fatalf("Drop(%d, %d) = %d, want %d", seg, ver, e, want)
	}
	p.same()
}

// far are numbers of segments and slots that are none's.
func far() []int {
	return []int{math.MinInt, -1 << 32, -256, -17, -16, 256, 1 << 32, 1<<32 + 1, 1 << 62, math.MaxInt}
}

// reads asks for each place, and for those beyond.
func (p *pair) reads() {
	p.Helper()
	var segs, slots []int
	for i := -3; i < 20; i++ {
		segs = append(segs, i)
	}
	for i := -3; i < p.m.slots+5; i++ {
		slots = append(slots, i)
	}
	for _, seg := range append(segs, far()...) {
		for _, slot := range append(slots, far()...) {
			at := api.Loc{Seg: seg, Slot: slot}
			r, e := p.l.Read(at)
			if want, err := p.m.read(at); r != want || e != err {
				p.Fatalf("Read(%v) = %v, %d, want %v, %d", at, r, e, want, err)
			}
		}
	}
	p.same()
}

// told is the checkpoint of a head.
func told(t *testing.T, d *disk.Disk, head int) ckpt.Check {
	t.Helper()
	s, _ := d.Read(head)
	c, e := ckpt.Decode(s)
	if e != api.OK {
		t.Fatalf("sector %d is no checkpoint's", head)
	}
	return c
}

func tells(t *testing.T, d *disk.Disk, head int, want ckpt.Check) {
	t.Helper()
	c := told(t, d, head)
	if c.Gen != want.Gen || c.Epoch != want.Epoch || c.LSN != want.LSN || c.Ver != want.Ver || !slices.Equal(c.Order, want.Order) || !slices.Equal(c.Lens, want.Lens) {
		t.Fatalf("sector %d tells %v, want %v", head, c, want)
	}
}

// stands asks for the record of a sector.
func stands(t *testing.T, d *disk.Disk, sector int, want record.Record) {
	t.Helper()
	s, _ := d.Read(sector)
	if r, e := record.Decode(s); e != api.OK || r != want {
		t.Fatalf("sector %d has %v, %d, want %v", sector, r, e, want)
	}
}

// upTo are the numbers from 0 on, n of them.
func upTo(n int) []int {
	l := make([]int, n)
	for i := range l {
		l[i] = i
	}
	return l
}

// P9.1: Format, on a disk of as many sectors as are needed, and of more.
func TestFormat(t *testing.T) {
	for _, c := range []api.Conf{
		{Segs: 4, Slots: 1},
		{Segs: 4, Slots: 2, Share: 0.5, Rate: 2},
		{Segs: 16, Slots: 30, Share: 1, Rate: 8},
		{Segs: 4, Slots: 30, Share: math.Copysign(0, -1), Rate: 8},
		{Segs: 16, Slots: 1, Share: math.SmallestNonzeroFloat64},
		{Segs: 9, Slots: 7, Share: 1},
	} {
		need := 2 + c.Segs*(c.Slots+1)
		for _, n := range []int{need, need + 1, need + 100, 4096} {
			d := newDisk(t, n)
			d.Limit(3)
			l, e := Format(d, c)
			if e != api.OK || l == nil || d.Pending() != 0 {
				t.Fatalf("Format of %v, %d sectors: %d, %d are pending", c, n, e, d.Pending())
			}
			has(t, l, table.Table{Segs: c.Segs, Slots: c.Slots, Order: []int{0}, Lens: []int{0}, Firsts: []uint64{1}}, 1, 1, 1)
			tells(t, d, 1, ckpt.Check{Gen: 1, Epoch: 1, LSN: 1, Order: []int{0}, Lens: []int{0}})
			for i, s := range image(d) {
				if i != 1 && s != zeros {
					t.Fatalf("Format of %v, %d sectors: sector %d is %q", c, n, i, s)
				}
			}
			if d.Flush() != api.ErrDead {
				t.Fatalf("Format of %v, %d sectors, does less than it must", c, n)
			}
		}
	}
}

// refusesFormat asks for an error, which has changed nothing, on a disk that may do as many acts.
func refusesFormat(t *testing.T, c api.Conf, n, limit int, want api.Errno) {
	t.Helper()
	d := newDisk(t, n)
	d.Limit(limit)
	l, e := Format(d, c)
	if e != want || l != nil {
		t.Fatalf("Format of %v, %d sectors = %v, %d, want none, %d", c, n, l, e, want)
	}
	for i := range limit {
		if d.Pending() != 0 || d.Flush() != api.OK {
			t.Fatalf("Format of %v, %d sectors, used up some of the limit: %d of %d are left", c, n, i, limit)
		}
	}
	for i, s := range image(d) {
		if s != zeros {
			t.Fatalf("Format of %v, %d sectors: sector %d is %q", c, n, i, s)
		}
	}
}

// P9.1: a conf that may not be, in each of its fields; ErrArg comes ahead of ErrFull and ErrDead.
func TestFormatConf(t *testing.T) {
	good := api.Conf{Segs: 4, Slots: 2, Share: 0.5, Rate: 2}
	var bad []api.Conf
	add := func(change func(c *api.Conf)) {
		c := good
		change(&c)
		bad = append(bad, c)
	}
	for _, segs := range []int{3, 17, 0, -1, -4, 260, 1<<32 + 4, math.MinInt, math.MaxInt} {
		add(func(c *api.Conf) { c.Segs = segs })
	}
	for _, slots := range []int{0, 31, -1, -2, 258, 1<<32 + 2, math.MinInt, math.MaxInt} {
		add(func(c *api.Conf) { c.Slots = slots })
	}
	for _, share := range []float64{-0.1, -math.SmallestNonzeroFloat64, math.Nextafter(1, 2), 2, math.NaN(), math.Inf(1), math.Inf(-1)} {
		add(func(c *api.Conf) { c.Share = share })
	}
	for _, rate := range []int{-1, 9, 256, 1<<32 + 1, math.MinInt, math.MaxInt} {
		add(func(c *api.Conf) { c.Rate = rate })
	}
	bad = append(bad, api.Conf{}, api.Conf{Segs: 17, Slots: 31, Share: 2, Rate: 9})
	for _, c := range bad {
		for _, n := range []int{1, 13, 14, 4096} {
			refusesFormat(t, c, n, 0, api.ErrArg)
			refusesFormat(t, c, n, 9, api.ErrArg)
		}
	}
}

// P9.1: a disk of fewer sectors than are needed; ErrFull comes ahead of ErrDead.
func TestFormatFull(t *testing.T) {
	for _, c := range []api.Conf{{Segs: 4, Slots: 1}, {Segs: 4, Slots: 2}, {Segs: 16, Slots: 30}, {Segs: 5, Slots: 30}, {Segs: 16, Slots: 1, Share: 1, Rate: 8}} {
		need := 2 + c.Segs*(c.Slots+1)
		for _, n := range []int{1, 2, need / 2, need - 2, need - 1} {
			refusesFormat(t, c, n, 0, api.ErrFull)
			refusesFormat(t, c, n, 9, api.ErrFull)
		}
	}
}

// P9.1: a disk that is dead, or stops at each of Format's writes and flushes.
func TestFormatDead(t *testing.T) {
	c := api.Conf{Segs: 4, Slots: 2}
	for _, limit := range []int{math.MinInt, -1, 0, 1, 2} {
		for _, n := range []int{14, 15, 4096} {
			d := newDisk(t, n)
			d.Limit(limit)
			if l, e := Format(d, c); e != api.ErrDead || l != nil {
				t.Fatalf("Format, limit %d: %v, %d", limit, l, e)
			}
			want := 0
			if limit == 2 {
				want = 1
			}
			if d.Pending() != want {
				t.Fatalf("Format, limit %d: %d are pending, want %d", limit, d.Pending(), want)
			}
			d.Crash(nil, -1, 0)
			if s, _ := d.Read(1); s != zeros {
				t.Fatalf("Format, limit %d: %q lasts", limit, s)
			}
		}
	}
}

// tables are those that At is handed: ordinary ones and those at the edges.
func tables() []table.Table {
	down := upTo(16)
	slices.Reverse(down)
	return []table.Table{
		{Segs: 4, Slots: 2, Order: []int{0}, Lens: []int{0}, Firsts: []uint64{1}},
		{Segs: 4, Slots: 1, Order: []int{3}, Lens: []int{1}, Firsts: []uint64{greatest}},
		{Segs: 4, Slots: 3, Order: []int{2, 0}, Lens: []int{3, 2}, Firsts: []uint64{9, 13}},
		{Segs: 4, Slots: 3, Order: []int{1, 3, 0, 2}, Lens: []int{0, 1, 2, 2}, Firsts: []uint64{3, 4, 6, 9}},
		{Segs: 4, Slots: 3, Order: []int{3, 2, 1, 0}, Lens: []int{3, 3, 3, 3}, Firsts: []uint64{1, 5, 9, 13}},
		{Segs: 5, Slots: 1, Order: []int{4, 2, 0}, Lens: []int{0, 1, 0}, Firsts: []uint64{0, 0, 0}},
		{Segs: 16, Slots: 30, Order: down, Lens: upTo(16), Firsts: make([]uint64, 16)},
		{Segs: 16, Slots: 30, Order: []int{7, 15}, Lens: []int{30, 29}, Firsts: []uint64{1 << 40, 1 << 50}},
	}
}

// P9.1: At, with each LSN, Epoch and number: what it has, and how it goes on. Nothing is written by it.
func TestAt(t *testing.T) {
	for _, x := range tables() {
		for _, lsn := range []uint64{1, 2, 255, 256, 1 << 32, 1 << 63, greatest - 9} {
			for _, epoch := range []uint32{0, 1, 1 << 31, math.MaxUint32} {
				for _, gen := range []uint64{0, 1, 2, 1 << 32, 1<<63 + 1, greatest - 3} {
					p := begun(t, x, lsn, epoch, gen)
					if p.d.Pending() != 0 {
						t.Fatal("At writes")
					}
					has(t, p.l, x, lsn, epoch, gen)
					p.checkpoint(5)
					tells(t, p.d, int((gen+1)%2), ckpt.Check{Gen: gen + 1, Epoch: epoch, LSN: lsn, Ver: 5, Order: x.Order, Lens: x.Lens})
					p.fill(2)
					p.seal()
					p.checkpoint(greatest)
				}
			}
		}
	}
}

// P9.1: At writes nothing, and asks nothing, where the disk has something, or is dead.
func TestAtLeavesTheDisk(t *testing.T) {
	p := formatted(t, 4, 2, 0)
	p.fill(3)
	x := p.l.Table()
	was := image(p.d)
	p.d.Limit(0)
	l := At(p.d, x, 9, 2, 7)
	has(t, l, x, 9, 2, 7)
	if !slices.Equal(image(p.d), was) || p.d.Pending() != 4 {
		t.Fatal("At writes")
	}
	if r, e := l.Read(api.Loc{Seg: 1, Slot: 0}); e != api.OK || r.LSN != 4 || r.Epoch != 1 {
		t.Fatal(r, e)
	}
}

// P9.1: the log goes on where At says, with another epoch.
func TestAtGoesOn(t *testing.T) {
	p := formatted(t, 4, 2, 0)
	p.fill(3)
	l := At(p.d, p.l.Table(), p.l.LSN(), 2, p.l.Gen())
	at, e := l.Append(record.Record{Kind: record.Tomb, ID: "b", Ver: 4})
	if e != api.OK || at != (api.Loc{Seg: 1, Slot: 1}) {
		t.Fatal(at, e)
	}
	stands(t, p.d, 6, record.Record{LSN: 5, Epoch: 2, Kind: record.Tomb, ID: "b", Ver: 4})
	if e := l.Checkpoint(4); e != api.OK {
		t.Fatal(e)
	}
	tells(t, p.d, 0, ckpt.Check{Gen: 2, Epoch: 2, LSN: 6, Ver: 4, Order: []int{0, 1}, Lens: []int{2, 2}})
	has(t, l, table.Table{Segs: 4, Slots: 2, Order: []int{0, 1}, Lens: []int{2, 2}, Firsts: []uint64{1, 4}}, 6, 2, 2)
}

// P9.2: each place, in all states of a log.
func TestRead(t *testing.T) {
	for _, slots := range []int{1, 2, 5, 30} {
		p := formatted(t, 5, slots, 3)
		p.reads()
		for range 3 * slots {
			p.fill(1)
			p.reads()
		}
		p.seal()
		p.reads()
		p.drop(1, 3)
		p.reads()
		p.fill(2)
		p.reads()
		p.checkpoint(9)
		p.drop(0, 4)
		p.reads()
	}
}

// P9.2, as written out.
func TestReadPlaces(t *testing.T) {
	p := formatted(t, 4, 2, 0)
	p.fill(3)
	for _, c := range []struct {
		at  api.Loc
		lsn uint64
	}{
		{api.Loc{Seg: 0, Slot: 0}, 1}, {api.Loc{Seg: 0, Slot: 1}, 2}, {api.Loc{Seg: 1, Slot: 0}, 4},
		{api.Loc{Seg: 0, Slot: 2}, 0}, // the Foot
		{api.Loc{Seg: 0, Slot: 3}, 0}, // the next segment's first record, by its sector
		{api.Loc{Seg: 1, Slot: -3}, 0},
		{api.Loc{Seg: 1, Slot: 1}, 0}, {api.Loc{Seg: 2, Slot: 0}, 0}, {api.Loc{Seg: 3, Slot: 0}, 0}, {api.Loc{Seg: 4, Slot: 0}, 0}, {api.Loc{Seg: -1, Slot: 0}, 0}, {api.Loc{Seg: 0, Slot: -1}, 0},
	} {
		r, e := p.l.Read(c.at)
		if c.lsn == 0 && (e != api.ErrNone || r != record.Record{}) || c.lsn > 0 && (e != api.OK || r.LSN != c.lsn || r.ID != "a" || r.Value != "v" || r.Kind != record.Live) {
			t.Errorf("Read(%v) = %v, %d, want LSN %d", c.at, r, e, c.lsn)
		}
	}
	p.drop(0, 1)
	if r, e := p.l.Read(api.Loc{}); e != api.ErrNone || r != (record.Record{}) {
		t.Errorf("Read of a segment that is dropped: %v, %d", r, e)
	}
}

// P9.2: a place of a segment in use, whose sector is no record's, or a Foot's; and a disk that is dead.
func TestReadDecodes(t *testing.T) {
	x := table.Table{Segs: 4, Slots: 2, Order: []int{2, 1}, Lens: []int{2, 2}, Firsts: []uint64{1, 4}}
	p := begun(t, x, 7, 1, 1)
	foot := record.Record{LSN: 9, Epoch: 4, Kind: record.Foot, Deadline: 3}
	s, _ := record.Encode(foot)
	for _, d := range []*disk.Disk{p.d, p.m.disk} {
		d.Write(8, s)
		d.Write(9, s[:127]+"\x09")
		d.Write(5, strings.Repeat("a", 128))
		d.Flush()
		d.Limit(0)
	}
	p.reads()
	for _, c := range []struct {
		at   api.Loc
		want record.Record
		err  api.Errno
	}{
		{api.Loc{Seg: 2, Slot: 0}, foot, api.OK},
		{api.Loc{Seg: 2, Slot: 1}, record.Record{}, api.ErrForm},
		{api.Loc{Seg: 1, Slot: 0}, record.Record{}, api.ErrForm},
		{api.Loc{Seg: 1, Slot: 1}, record.Record{}, api.ErrForm},
		{api.Loc{Seg: 1, Slot: 2}, record.Record{}, api.ErrNone},
	} {
		if r, e := p.l.Read(c.at); r != c.want || e != c.err {
			t.Errorf("Read(%v) = %v, %d, want %v, %d", c.at, r, e, c.want, c.err)
		}
	}
}

const idBytes = "abcdefghijklmnopqrstuvwxyz0123456789-"

// good are records that may be appended.
func good() []record.Record {
	l := []record.Record{
		{Kind: record.Live, ID: "a"},
		{Kind: record.Live, ID: "a", Value: "v", Ver: 1, Deadline: 9},
		{Kind: record.Live, ID: "0123456789-abcxz", Value: strings.Repeat("\xff", 64), Ver: greatest, Deadline: greatest},
		{Kind: record.Live, ID: "-", Value: "\x00\x00", Ver: 1 << 63},
		{Kind: record.Live, ID: "user-1", Deadline: 1},
		{Kind: record.Tomb, ID: "a"},
		{Kind: record.Tomb, ID: "0123456789-abcxz", Ver: greatest},
		{Kind: record.Tomb, ID: "z", Ver: 1},
	}
	for i := range idBytes {
		l = append(l, record.Record{Kind: record.Live, ID: idBytes[i : i+1], Value: strings.Repeat("v", i)}, record.Record{Kind: record.Tomb, ID: idBytes[i:min(i+16, 37)]})
	}
	return l
}

// bad are records that may not be appended, some of which may be.
func bad() []record.Record {
	l := []record.Record{
		{}, {Kind: record.Foot}, {Kind: record.Foot, Deadline: 1}, {Kind: record.Foot, Deadline: 15}, {Kind: record.Foot, Deadline: 16}, {Kind: record.Foot, ID: "a"},
		{Kind: record.Live}, {Kind: record.Tomb}, {Kind: record.Live, Value: "v"},
		{Kind: record.Tomb, ID: "a", Value: "x"}, {Kind: record.Tomb, ID: "a", Deadline: 1}, {Kind: record.Tomb, ID: "a", Deadline: greatest},
	}
	for _, kind := range []int{0, -1, record.Foot, record.Kinds, 5, 256, 257, 258, -255, 1<<32 + 1, math.MinInt, math.MaxInt} {
		l = append(l, record.Record{Kind: kind, ID: "a"}, record.Record{Kind: kind, ID: "a", Value: "v", Ver: 1, Deadline: 9})
	}
	for _, id := range []string{"", "0123456789-abcxyz", strings.Repeat("a", 257), "A", "a b", "a\x00", "é", "a_", " "} {
		l = append(l, record.Record{Kind: record.Live, ID: id}, record.Record{Kind: record.Tomb, ID: id})
	}
	for _, n := range []int{65, 66, 81, 128, 256, 320} {
		l = append(l, record.Record{Kind: record.Live, ID: "a", Value: strings.Repeat("v", n)})
	}
	return l
}

// P9.3: what may be appended; an LSN and an Epoch of its own are overwritten.
func TestAppendTakes(t *testing.T) {
	for _, r := range good() {
		for _, own := range []struct {
			lsn   uint64
			epoch uint32
		}{{0, 0}, {1, 1}, {5, 0}, {77, 7}, {greatest, math.MaxUint32}} {
			r.LSN, r.Epoch = own.lsn, own.epoch
			p := formatted(t, 4, 2, 0)
			p.put(r)
			p.put(r)
			p.put(r)
			want := r
			want.Epoch = 1
			for i, at := range []api.Loc{{Seg: 0, Slot: 0}, {Seg: 0, Slot: 1}, {Seg: 1, Slot: 0}} {
				want.LSN = []uint64{1, 2, 4}[i]
				if got, e := p.l.Read(at); e != api.OK || got != want {
					t.Fatalf("%v, %d stands at %v, want %v", got, e, at, want)
				}
				stands(t, p.d, []int{2, 3, 5}[i], want)
			}
		}
	}
}

// P9.3: what may not be appended: nothing is changed. ErrForm comes ahead of ErrFull and ErrDead.
func TestAppendRefuses(t *testing.T) {
	for _, full := range []int{0, 1, 2, 7, 8} {
		for _, limit := range []int{0, 99} {
			p := formatted(t, 4, 2, 0)
			p.fill(full)
			p.d.Limit(limit)
			for _, r := range bad() {
				for _, lsn := range []uint64{0, 1, 9} {
					r.LSN, r.Epoch = lsn, uint32(lsn)
					if at, e := p.l.Append(r); e != api.ErrForm || at != (api.Loc{}) {
						t.Fatalf("Append(%v) = %v, %d", r, at, e)
					}
				}
			}
			p.same()
			p.reads()
			for range limit {
				if p.d.Flush() != api.OK {
					t.Fatal("a record that may not be appended used up some of the limit")
				}
			}
		}
	}
}

// P9.3: a log takes as many records as it has room for, and then no more; ErrFull comes ahead of ErrDead.
func TestAppendTillFull(t *testing.T) {
	for _, c := range []struct{ segs, slots int }{{4, 1}, {4, 2}, {5, 3}, {16, 1}, {4, 30}, {16, 30}} {
		p := formatted(t, c.segs, c.slots, 0)
		for n := range c.segs * c.slots {
			at, e := p.l.Append(good()[n%8])
			want, _ := p.m.append(good()[n%8])
			lsn := uint64(n + 2 + n/c.slots)
			if e != api.OK || at != want || at != (api.Loc{Seg: n / c.slots, Slot: n % c.slots}) || p.l.LSN() != lsn || p.d.Pending() != int(lsn)-1 {
				t.Fatalf("%d segments of %d: the record %d stands at %v, %d, LSN %d, %d are pending", c.segs, c.slots, n, at, e, p.l.LSN(), p.d.Pending())
			}
		}
		p.same()
		p.reads()
		for _, limit := range []int{5, 0} {
			p.d.Limit(limit)
			for _, r := range good() {
				if at, e := p.l.Append(r); e != api.ErrFull || at != (api.Loc{}) {
					t.Fatalf("Append of a full log = %v, %d", at, e)
				}
			}
		}
		p.same()
	}
}

// P9.3: an open segment that is full, and none free, but room behind a Drop.
func TestAppendBehindDrop(t *testing.T) {
	for _, slots := range []int{1, 2, 7} {
		for seg := range 3 {
			p := formatted(t, 4, slots, 0)
			p.fill(4 * slots)
			p.put(good()[0]) // ErrFull
			p.drop(seg, 8)
			at, e := p.l.Append(good()[1])
			p.m.append(good()[1])
			if e != api.OK || at != (api.Loc{Seg: seg, Slot: 0}) {
				t.Fatal(seg, at, e)
			}
			p.same()
			p.reads()
			p.fill(slots - 1)
			p.put(good()[0]) // ErrFull
			if table.Room(p.l.Table()) != 0 {
				t.Fatal(p.l.Table())
			}
		}
	}
}

// P9.3: the last segment has room, though none is free; and a sealed one that is not full gives none.
func TestAppendIntoTheLast(t *testing.T) {
	p := formatted(t, 4, 3, 0)
	p.fill(1)
	p.seal()
	p.seal()
	p.seal()
	p.fill(3)
	if at, e := p.l.Append(good()[0]); e != api.ErrFull || at != (api.Loc{}) {
		t.Fatal(at, e)
	}
	p.same()
	has(t, p.l, table.Table{Segs: 4, Slots: 3, Order: []int{0, 1, 2, 3}, Lens: []int{1, 0, 0, 3}, Firsts: []uint64{1, 3, 4, 5}}, 8, 1, 1)
	p.reads()
}

// The Foot: its sector, its place, its Deadline, with each number of slots.
func TestFoot(t *testing.T) {
	for slots := 1; slots <= 30; slots++ {
		p := formatted(t, 4, slots, 0)
		p.fill(slots)
		if p.d.Pending() != slots {
			t.Fatal("a log rolls ahead of the record that is to stand in the next segment")
		}
		p.fill(1)
		stands(t, p.d, 2+slots, record.Record{LSN: uint64(slots) + 1, Epoch: 1, Kind: record.Foot, Deadline: 1})
		stands(t, p.d, 3+slots, record.Record{LSN: uint64(slots) + 2, Epoch: 1, Kind: record.Live, Ver: 1, Deadline: 9, ID: "a", Value: "v"})
		if r, e := p.l.Read(api.Loc{Seg: 0, Slot: slots}); e != api.ErrNone || r != (record.Record{}) {
			t.Fatal(r, e)
		}
	}
}

// The Foot's Deadline is the lowest free segment, not the next one.
func TestFootOfTheLowest(t *testing.T) {
	for _, c := range []struct {
		order []int
		want  uint64
	}{
		{[]int{0}, 1}, {[]int{1}, 0}, {[]int{3}, 0}, {[]int{2, 0}, 1}, {[]int{0, 1}, 2}, {[]int{3, 1, 0}, 2}, {[]int{2, 1, 3}, 0}, {[]int{2, 1, 0}, 3},
	} {
		for _, slots := range []int{1, 4} {
			n := len(c.order)
			for _, full := range []bool{false, true} {
				lens := make([]int, n)
				if full {
					lens[n-1] = slots
				}
				p := begun(t, table.Table{Segs: 4, Slots: slots, Order: c.order, Lens: lens, Firsts: make([]uint64, n)}, 40, 3, 6)
				if full {
					p.fill(1)
				} else {
					p.seal()
				}
				stands(t, p.d, 2+c.order[n-1]*(slots+1)+lens[n-1], record.Record{LSN: 40, Epoch: 3, Kind: record.Foot, Deadline: c.want})
				x := p.l.Table()
				if !slices.Equal(x.Order, append(slices.Clone(c.order), int(c.want))) || x.Firsts[n] != 41 {
					t.Fatal(c.order, x)
				}
			}
		}
	}
}

// P9.4: Seal of an empty open segment, of one with records, of a full one, and with no free segment.
func TestSeal(t *testing.T) {
	for _, slots := range []int{1, 2, 3, 30} {
		for n := range slots + 1 {
			p := formatted(t, 4, slots, 0)
			p.fill(n)
			p.seal()
			stands(t, p.d, 2+n, record.Record{LSN: uint64(n) + 1, Epoch: 1, Kind: record.Foot, Deadline: 1})
			has(t, p.l, table.Table{Segs: 4, Slots: slots, Order: []int{0, 1}, Lens: []int{n, 0}, Firsts: []uint64{1, uint64(n) + 2}}, uint64(n)+2, 1, 1)
			if p.d.Pending() != n+1 {
				t.Fatal(p.d.Pending())
			}
			p.fill(1)
			stands(t, p.d, 3+slots, record.Record{LSN: uint64(n) + 2, Epoch: 1, Kind: record.Live, Ver: 1, Deadline: 9, ID: "a", Value: "v"})
			p.reads()
		}
	}
}

// P9.4: no segment is free: ErrFull, ahead of ErrDead, and nothing is changed.
func TestSealFull(t *testing.T) {
	for _, segs := range []int{4, 5, 16} {
		for _, n := range []int{0, 1, 2} {
			p := formatted(t, segs, 2, 0)
			for range segs - 1 {
				p.seal()
			}
			p.fill(n)
			for _, limit := range []int{3, 0, 99} {
				p.d.Limit(limit)
				if e := p.l.Seal(); e != api.ErrFull {
					t.Fatal(segs, n, e)
				}
				p.same()
			}
			p.drop(1, 5)
			p.seal()
			x := p.l.Table()
			if x.Order[segs-1] != 1 || p.l.Seal() != api.ErrFull {
				t.Fatal(x)
			}
			p.same()
		}
	}
}

// P9.5: Checkpoint behind records that were not flushed, once and again and again: which sector, which number, what it tells.
func TestCheckpoint(t *testing.T) {
	p := formatted(t, 4, 2, 5)
	vers := []uint64{0, 1, greatest, 7, 7, 3, 1 << 63}
	for i, ver := range vers {
		p.fill(1)
		if p.d.Pending() == 0 {
			t.Fatal("nothing is pending")
		}
		p.checkpoint(ver)
		if p.d.Pending() != 0 {
			t.Fatal(p.d.Pending())
		}
		x := p.l.Table()
		gen := uint64(i) + 2
		tells(t, p.d, i%2, ckpt.Check{Gen: gen, Epoch: 1, LSN: p.l.LSN(), Ver: ver, Order: x.Order, Lens: x.Lens})
		if c := told(t, p.d, (i+1)%2); c.Gen != gen-1 {
			t.Fatal(c)
		}
		has(t, p.l, x, p.l.LSN(), 1, gen)
		p.d.Crash(nil, 0, 0)
		p.same()
		p.reads()
	}
	// Of nothing new it is one too.
	was := image(p.d)
	p.checkpoint(5)
	p.checkpoint(5)
	if s := image(p.d); !slices.Equal(s[2:], was[2:]) || s[0] == was[0] || s[1] == was[1] || p.l.Gen() != 10 {
		t.Fatal("Checkpoint of nothing new", p.l.Gen())
	}
}

// P9.5: what is pending is flushed ahead of the checkpoint: where that stops, no checkpoint tells of what is not there.
func TestCheckpointFlushesFirst(t *testing.T) {
	p := formatted(t, 4, 2, 0)
	p.fill(2)
	p.d.Limit(1)
	if e := p.l.Checkpoint(2); e != api.ErrDead {
		t.Fatal(e)
	}
	if p.d.Pending() != 0 {
		t.Fatal("what was pending is not flushed first")
	}
	if s, _ := p.d.Read(0); s != zeros {
		t.Fatalf("sector 0 is %q", s)
	}
	if s, _ := p.d.Read(3); s == zeros {
		t.Fatal("the second record is not there")
	}
}

// P9.5: Drop of each sealed segment.
func TestDrop(t *testing.T) {
	for _, c := range []struct{ segs, slots, records int }{{4, 1, 2}, {4, 1, 4}, {4, 2, 5}, {4, 2, 8}, {5, 3, 13}, {16, 1, 16}, {16, 30, 451}} {
		last := (c.records - 1) / c.slots
		for seg := range last {
			for _, ver := range []uint64{0, 1, greatest} {
				p := formatted(t, c.segs, c.slots, 0)
				p.fill(c.records)
				was := p.l.Table()
				lsn := p.l.LSN()
				p.drop(seg, ver)
				x := table.Table{Segs: c.segs, Slots: c.slots, Order: slices.Delete(was.Order, seg, seg+1), Lens: slices.Delete(was.Lens, seg, seg+1), Firsts: slices.Delete(was.Firsts, seg, seg+1)}
				has(t, p.l, x, lsn, 1, 2)
				tells(t, p.d, 0, ckpt.Check{Gen: 2, Epoch: 1, LSN: lsn, Ver: ver, Order: x.Order, Lens: x.Lens})
				if p.d.Pending() != 0 {
					t.Fatal(p.d.Pending())
				}
				p.reads()
			}
		}
	}
}

// P9.5: Drop of the open segment, of a free one, and of none: ErrArg, ahead of ErrDead, and nothing is changed.
func TestDropRefuses(t *testing.T) {
	p := formatted(t, 5, 2, 0)
	p.fill(5)
	p.drop(1, 3)
	refuse := func(segs ...int) {
		t.Helper()
		for _, seg := range append(segs, append(far(), -1, -2, -5, 5, 6, 15, 16)...) {
			for _, limit := range []int{4, 0} {
				p.d.Limit(limit)
				if e := p.l.Drop(seg, 9); e != api.ErrArg {
					t.Fatalf("Drop(%d) = %d", seg, e)
				}
				p.same()
			}
			p.d.Limit(99)
		}
	}
	refuse(2, 1, 3, 4)
	p.fill(2) // seals 2, opens 1
	refuse(1, 3, 4)
	p.drop(0, 3)
	refuse(0, 1, 3, 4)
	p.drop(2, 3)
	refuse(0, 1, 2, 3, 4)
	fresh := formatted(t, 4, 1, 0)
	for seg := -1; seg < 5; seg++ {
		if e := fresh.l.Drop(seg, 0); e != api.ErrArg {
			t.Fatal(seg, e)
		}
	}
	fresh.same()
}

// P9.5: Drop once is not Drop twice, and each order goes.
func TestDropAll(t *testing.T) {
	for _, order := range [][]int{{0, 1, 2}, {2, 1, 0}, {1, 0, 2}, {1, 2, 0}} {
		p := formatted(t, 4, 1, 0)
		p.fill(4)
		for i, seg := range order {
			p.drop(seg, uint64(i))
			p.drop(seg, 77) // ErrArg
			if p.l.Gen() != uint64(i)+2 {
				t.Fatal(p.l.Gen())
			}
		}
		has(t, p.l, table.Table{Segs: 4, Slots: 1, Order: []int{3}, Lens: []int{1}, Firsts: []uint64{7}}, 8, 1, 4)
		for want := range 3 {
			p.fill(1)
			if x := p.l.Table(); x.Order[len(x.Order)-1] != want {
				t.Fatal(x)
			}
		}
	}
}

// act is a call that writes or flushes, how often it does, and how many records are appended ahead of it.
type act struct {
	name    string
	limit   int
	records int
	do      func(l *Log) api.Errno
}

func acts() []act {
	add := func(l *Log) api.Errno {
		at, e := l.Append(record.Record{Kind: record.Tomb, ID: "b", Ver: 9})
		if e != api.OK && at != (api.Loc{}) {
			return -1
		}
		return e
	}
	return []act{
		{"Append", 1, 0, add},
		{"Append", 1, 3, add},
		{"Append that rolls", 2, 2, add},
		{"Append that rolls", 2, 6, add},
		{"Append into the last one", 1, 7, add},
		{"Seal", 1, 0, (*Log).Seal},
		{"Seal", 1, 2, (*Log).Seal},
		{"Seal", 1, 5, (*Log).Seal},
		{"Checkpoint", 3, 0, func(l *Log) api.Errno { return l.Checkpoint(9) }},
		{"Checkpoint", 3, 5, func(l *Log) api.Errno { return l.Checkpoint(9) }},
		{"Drop", 3, 3, func(l *Log) api.Errno { return l.Drop(0, 9) }},
		{"Drop", 3, 8, func(l *Log) api.Errno { return l.Drop(2, 9) }},
	}
}

// P9.3 to P9.5: a limit of the disk at each write and flush: ErrDead; with just as many the call is done.
func TestDead(t *testing.T) {
	for _, a := range acts() {
		whole := formatted(t, 4, 2, 0)
		whole.fill(a.records)
		if e := a.do(whole.l); e != api.OK {
			t.Fatal(a.name, e)
		}
		for limit := -1; limit < a.limit; limit++ {
			p := formatted(t, 4, 2, 0)
			p.fill(a.records)
			p.d.Limit(limit)
			if e := a.do(p.l); e != api.ErrDead {
				t.Fatalf("%s behind %d records, limit %d: %d", a.name, a.records, limit, e)
			}
			if limit < 1 {
				p.sameDisks()
			}
		}
		p := formatted(t, 4, 2, 0)
		p.fill(a.records)
		p.d.Limit(a.limit)
		if e := a.do(p.l); e != api.OK {
			t.Fatalf("%s behind %d records, limit %d: %d", a.name, a.records, a.limit, e)
		}
		if p.d.Flush() != api.ErrDead {
			t.Fatalf("%s behind %d records does less than %d", a.name, a.records, a.limit)
		}
		has(t, p.l, whole.l.Table(), whole.l.LSN(), 1, whole.l.Gen())
		if !slices.Equal(image(p.d), image(whole.d)) {
			t.Fatalf("%s behind %d records: not all is there", a.name, a.records)
		}
	}
}

// P9.3: where the Foot is written, and the record behind it is not, the Foot alone is pending.
func TestDeadBetween(t *testing.T) {
	p := formatted(t, 4, 2, 0)
	p.fill(2)
	p.d.Limit(1)
	if at, e := p.l.Append(good()[0]); e != api.ErrDead || at != (api.Loc{}) {
		t.Fatal(at, e)
	}
	stands(t, p.d, 4, record.Record{LSN: 3, Epoch: 1, Kind: record.Foot, Deadline: 1})
	if s, _ := p.d.Read(5); s != zeros || p.d.Pending() != 3 {
		t.Fatalf("%q, %d are pending", s, p.d.Pending())
	}
}

// what is any call of a life.
func (p *pair) what(random *rand.Rand) {
	p.Helper()
	switch random.Intn(12) {
	case 0:
		p.seal()
	case 1:
		p.checkpoint(random.Uint64() >> random.Intn(64))
	case 2, 3:
		p.drop(random.Intn(p.m.segs+2)-1, random.Uint64()>>random.Intn(64))
	case 4:
		p.put(bad()[random.Intn(len(bad()))])
	default:
		p.put(good()[random.Intn(len(good()))])
	}
}

// crashed are copies of both disks, that crash alike.
func (p *pair) crashed(random *rand.Rand) (*disk.Disk, *disk.Disk) {
	keep := make([]bool, random.Intn(p.d.Pending()+2))
	for i := range keep {
		keep[i] = random.Intn(2) == 0
	}
	torn, at := random.Intn(p.d.Pending()+1), random.Intn(130)-1
	a, b := p.d.Copy(), p.m.disk.Copy()
	a.Crash(keep, torn, at)
	b.Crash(keep, torn, at)
	return a, b
}

// P9.1 to P9.5: whole lives, held against the model, with each write in its order: what any crash would leave is the same.
func TestLives(t *testing.T) {
	for seed := range int64(60) {
		random := rand.New(rand.NewSource(seed))
		p := formatted(t, 4+random.Intn(4), 1+random.Intn(5), random.Intn(3))
		for range 150 {
			p.what(random)
			if a, b := p.crashed(random); !slices.Equal(image(a), image(b)) {
				t.Fatalf("life %d: a crash leaves something else", seed)
			}
		}
		p.reads()
	}
}

// P9.6: each record stands behind all ahead of it: LSNs rise by 1 within a segment, from its first one on, and the segments' by more.
func TestOrder(t *testing.T) {
	for seed := range int64(40) {
		random := rand.New(rand.NewSource(1000 + seed))
		p := formatted(t, 4+random.Intn(13), 1+random.Intn(6), 0)
		for range 120 {
			p.what(random)
			x := p.l.Table()
			lsn := uint64(0)
			for i, seg := range x.Order {
				if x.Firsts[i] <= lsn {
					t.Fatalf("life %d: %v, behind LSN %d", seed, x, lsn)
				}
				lsn = x.Firsts[i]
				for slot := range x.Lens[i] {
					if r, e := p.l.Read(api.Loc{Seg: seg, Slot: slot}); e != api.OK || r.LSN != lsn {
						t.Fatalf("life %d: %v: %v, %d at %d %d, want LSN %d", seed, x, r, e, seg, slot, lsn)
					}
					lsn++
				}
			}
			if p.l.LSN() < lsn {
				t.Fatalf("life %d: %v: LSN %d, want %d or more", seed, x, p.l.LSN(), lsn)
			}
		}
	}
}

// lasting is a checkpoint, and the sectors of the records that it counts.
type lasting struct {
	check   ckpt.Check
	sectors map[int]string
}

func (p *pair) lasting(ver uint64) lasting {
	x := p.l.Table()
	l := lasting{ckpt.Check{Gen: p.l.Gen(), Epoch: p.l.Epoch(), LSN: p.l.LSN(), Ver: ver, Order: x.Order, Lens: x.Lens}, map[int]string{}}
	for i, seg := range x.Order {
		for slot := range x.Lens[i] {
			at := p.m.sector(seg, slot)
			l.sectors[at], _ = p.d.Read(at)
		}
	}
	return l
}

// lasts asks whether a checkpoint, and all that it counts, is there.
func (p *pair) lasts(d *disk.Disk, l lasting) {
	p.Helper()
	a, _ := d.Read(0)
	b, _ := d.Read(1)
	c, _, e := ckpt.Best(a, b)
	if e != api.OK || c.Gen != l.check.Gen {
		p.Fatalf("behind a crash: %v, %d, want %v", c, e, l.check)
	}
	tells(p.T, d, int(c.Gen%2), l.check)
	for at, want := range l.sectors {
		if s, _ := d.Read(at); s != want {
			p.Fatalf("behind a crash: sector %d is %q, want %q", at, s, want)
		}
	}
}

// P9.6: what Checkpoint told no error of stays, with the records that it counts, whatever crashes.
func TestCheckpointLasts(t *testing.T) {
	for seed := range int64(60) {
		random := rand.New(rand.NewSource(2000 + seed))
		p := formatted(t, 4+random.Intn(2), 1+random.Intn(4), 0)
		kept := p.lasting(0)
		for range 80 {
			switch random.Intn(8) {
			case 0:
				p.checkpoint(5)
			case 1:
				p.drop(random.Intn(p.m.segs), 5)
			case 2:
				p.seal()
			default:
				p.fill(1)
			}
			if p.l.Gen() != kept.check.Gen {
				kept = p.lasting(5)
			}
			for range 3 {
				a, _ := p.crashed(random)
				p.lasts(a, kept)
			}
		}
	}
}

// P9.6: a Checkpoint, or a Drop, that the disk stops: what the one ahead of it told stays, or the new one is there, whole.
func TestStoppedCheckpoint(t *testing.T) {
	for seed := range int64(300) {
		random := rand.New(rand.NewSource(3000 + seed))
		p := formatted(t, 4, 1+random.Intn(4), 0)
		p.fill(random.Intn(4 * p.m.slots))
		p.checkpoint(3)
		p.fill(random.Intn(2 * p.m.slots))
		old, lsn, x := told(t, p.d, 0), p.l.LSN(), p.l.Table()
		call := func() api.Errno { return p.l.Checkpoint(4) }
		if len(x.Order) > 1 && random.Intn(2) == 0 {
			seg := x.Order[random.Intn(len(x.Order)-1)]
			call = func() api.Errno { return p.l.Drop(seg, 4) }
			x, _ = table.Drop(x, seg)
		}
		p.d.Limit(random.Intn(3))
		if e := call(); e != api.ErrDead {
			t.Fatal(e)
		}
		d, _ := p.crashed(random)
		a, _ := d.Read(0)
		b, _ := d.Read(1)
		c, _, e := ckpt.Best(a, b)
		if e != api.OK {
			t.Fatal(e)
		}
		if c.Gen == old.Gen {
			tells(t, d, 0, old)
			continue
		}
		tells(t, d, 1, ckpt.Check{Gen: 3, Epoch: 1, LSN: lsn, Ver: 4, Order: x.Order, Lens: x.Lens})
	}
}

// spare has a list with room behind it, that holds marks.
func spare[T int | uint64](l []T) []T {
	room := slices.Repeat([]T{7}, len(l)+8)
	copy(room, l)
	return room[:len(l)]
}

func withSpare(x table.Table) table.Table {
	x.Order, x.Lens, x.Firsts = spare(x.Order), spare(x.Lens), spare(x.Firsts)
	return x
}

// untouched tells whether a table is as withSpare made it, the room behind its lists too.
func untouched(x, was table.Table) bool {
	n := len(was.Order) + 8
	want := withSpare(was)
	return sameTable(x, was) && slices.Equal(x.Order[:n], want.Order[:n]) && slices.Equal(x.Lens[:n], want.Lens[:n]) && slices.Equal(x.Firsts[:n], want.Firsts[:n])
}

// spoil writes over a list and the room behind it.
func spoil[T int | uint64](l []T) {
	for i := range l[:cap(l)] {
		l[:cap(l)][i] = 99
	}
}

func spoilAll(x table.Table) {
	spoil(x.Order)
	spoil(x.Lens)
	spoil(x.Firsts)
}

// R4: a table that is handed to At is neither changed nor kept, nor the room behind its lists.
func TestAtKeepsNothing(t *testing.T) {
	for _, x := range tables() {
		given := withSpare(x)
		p := begun(t, given, 50, 1, 1)
		if !untouched(given, x) {
			t.Fatalf("%v is %v now", x, given)
		}
		p.fill(2)
		p.seal()
		p.drop(x.Order[0], 3)
		if !untouched(given, x) {
			t.Fatalf("%v is %v now", x, given)
		}
		q := begun(t, given, 50, 1, 1)
		spoilAll(given)
		q.same()
		q.fill(2)
		spoilAll(given)
		q.checkpoint(3)
	}
}

// R4 and R7: a table that is told stays as it was, and may be written to; its lists share nothing.
func TestToldTables(t *testing.T) {
	for _, x := range tables() {
		p := begun(t, x, 50, 1, 1)
		kept := p.l.Table()
		spoilAll(p.l.Table())
		p.same()
		p.fill(2)
		told := p.l.Table()
		spoilAll(told)
		p.same()
		p.seal()
		told = p.l.Table()
		lens := told.Lens[:cap(told.Lens)]
		was := slices.Clone(lens)
		spoil(told.Order)
		if !slices.Equal(lens, was) {
			t.Fatalf("Lens are %v, behind a write to Order, want %v", lens, was)
		}
		p.drop(x.Order[0], 3)
		spoilAll(told)
		p.checkpoint(3)
		p.same()
		if !sameTable(kept, x) {
			t.Fatalf("a table that was told is %v now, want %v", kept, x)
		}
	}
	p := formatted(t, 4, 2, 0)
	first, second := p.l.Table(), p.l.Table()
	spoilAll(first)
	if second.Order[0] != 0 || second.Lens[0] != 0 || second.Firsts[0] != 1 {
		t.Fatal("two tables that are told share memory")
	}
}

// R7: a copy of a log tells what the log had, and goes its own way.
func TestCopies(t *testing.T) {
	for _, x := range tables() {
		p := begun(t, x, 50, 1, 1)
		was := *p.l
		p.fill(2)
		p.seal()
		p.drop(x.Order[0], 3)
		has(t, &was, x, 50, 1, 1)
	}
}

// R5: the same is answered again, whatever other logs do between.
func TestOneAnswer(t *testing.T) {
	life := func(seed int64) []string {
		random := rand.New(rand.NewSource(seed))
		p := formatted(t, 5, 3, 0)
		for range 60 {
			p.what(random)
		}
		return image(p.d)
	}
	for seed := range int64(5) {
		a := life(seed)
		life(seed + 50)
		if !slices.Equal(a, life(seed)) {
			t.Fatalf("life %d goes on otherwise", seed)
		}
	}
}

// R1 and R2: behind the greatest LSN there is none, and behind the greatest number none: an error, which changes nothing.
func TestNoNumbersLeft(t *testing.T) {
	unchanged := func(l *Log, d *disk.Disk, call func() api.Errno) {
		t.Helper()
		x, lsn, gen, was := l.Table(), l.LSN(), l.Gen(), image(d)
		if e := call(); e != api.ErrForm {
			t.Fatal(e)
		}
		has(t, l, x, lsn, 1, gen)
		if !slices.Equal(image(d), was) {
			t.Fatal("an error has written something")
		}
	}
	add := func(l *Log) func() api.Errno {
		return func() api.Errno {
			at, e := l.Append(good()[0])
			if at != (api.Loc{}) {
				t.Fatal(at, e)
			}
			return e
		}
	}
	x := table.Table{Segs: 4, Slots: 2, Order: []int{0, 1}, Lens: []int{2, 0}, Firsts: []uint64{1, 4}}
	d := newDisk(t, 14)
	l := At(d, x, greatest, 1, 1)
	if at, e := l.Append(good()[0]); e != api.OK || at != (api.Loc{Seg: 1, Slot: 0}) {
		t.Fatal(at, e)
	}
	stands(t, d, 5, record.Record{LSN: greatest, Epoch: 1, Kind: record.Live, ID: "a"})
	unchanged(l, d, add(l))
	unchanged(l, d, l.Seal)
	unchanged(l, d, func() api.Errno { return l.Checkpoint(1) })
	unchanged(l, d, func() api.Errno { return l.Drop(0, 1) })

	x.Lens[1] = 2
	d = newDisk(t, 14)
	l = At(d, x, greatest, 1, 1)
	unchanged(l, d, add(l)) // the Foot would have it

	// A record would be right with the log's LSN, but there is no room: ErrFull.
	l = At(d, table.Table{Segs: 4, Slots: 2, Order: upTo(4), Lens: []int{2, 2, 2, 2}, Firsts: []uint64{1, 4, 7, 10}}, greatest, 1, 1)
	if e := add(l)(); e != api.ErrFull || d.Pending() != 0 {
		t.Fatal(e)
	}

	l = At(d, x, 9, 1, greatest)
	if at, e := l.Append(good()[0]); e != api.OK || at != (api.Loc{Seg: 2, Slot: 0}) {
		t.Fatal(at, e)
	}
	pending := d.Pending()
	unchanged(l, d, func() api.Errno { return l.Checkpoint(1) })
	unchanged(l, d, func() api.Errno { return l.Drop(0, 1) })
	if d.Pending() != pending {
		t.Fatal("an error has flushed")
	}
}

// The chapter's example.
func TestExample(t *testing.T) {
	d := newDisk(t, 14)
	l, e := Format(d, api.Conf{Segs: 4, Slots: 2})
	if e != api.OK {
		t.Fatal(e)
	}
	for i, want := range []api.Loc{{Seg: 0, Slot: 0}, {Seg: 0, Slot: 1}, {Seg: 1, Slot: 0}} {
		at, e := l.Append(record.Record{Kind: record.Live, Ver: uint64(i) + 1, Deadline: 9, ID: "abc"[i : i+1]})
		if e != api.OK || at != want {
			t.Fatal(i, at, e)
		}
	}
	stands(t, d, 4, record.Record{LSN: 3, Epoch: 1, Kind: record.Foot, Deadline: 1})
	if r, e := l.Read(api.Loc{Seg: 1, Slot: 0}); e != api.OK || r != (record.Record{LSN: 4, Epoch: 1, Kind: record.Live, Ver: 3, Deadline: 9, ID: "c"}) {
		t.Fatal(r, e)
	}
	has(t, l, table.Table{Segs: 4, Slots: 2, Order: []int{0, 1}, Lens: []int{2, 1}, Firsts: []uint64{1, 4}}, 5, 1, 1)
}
