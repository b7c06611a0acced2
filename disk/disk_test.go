package disk

import (
	"math"
	"math/rand"
	"strings"
	"testing"

	"lodger/api"
)

func full(b byte) string { return strings.Repeat(string([]byte{b}), api.Sector) }

// mixed is a sector whose first n bytes are a, and the others b.
func mixed(a byte, n int, b byte) string { return full(a)[:n] + full(b)[n:] }

func newDisk(t *testing.T, n int) *Disk {
	t.Helper()
	d, e := New(n)
	if e != api.OK || d == nil {
		t.Fatal("New", n, e)
	}
	return d
}

// holds asks for what all sectors of a disk tell.
func holds(t *testing.T, d *Disk, want ...string) {
	t.Helper()
	if d.Len() != len(want) {
		t.Fatalf("Len %d, want %d", d.Len(), len(want))
	}
	for i, w := range want {
		if s, e := d.Read(i); e != api.OK || s != w {
			t.Fatalf("Read(%d) = %q, %d, want %q", i, s, e, w)
		}
	}
}

func writes(t *testing.T, d *Disk, i int, s string, want api.Errno) {
	t.Helper()
	if e := d.Write(i, s); e != want {
		t.Fatalf("Write(%d, %d bytes) = %d, want %d", i, len(s), e, want)
	}
}

func flushes(t *testing.T, d *Disk, want api.Errno) {
	t.Helper()
	if e := d.Flush(); e != want {
		t.Fatalf("Flush() = %d, want %d", e, want)
	}
}

func pends(t *testing.T, d *Disk, want int) {
	t.Helper()
	if n := d.Pending(); n != want {
		t.Fatalf("Pending() = %d, want %d", n, want)
	}
}

// P5.1
func TestNew(t *testing.T) {
	for _, n := range []int{0, -1, -4096, 4097, 1 << 32, 1<<32 + 1, math.MinInt, math.MaxInt} {
		if d, e := New(n); e != api.ErrArg || d != nil {
			t.Fatal(n, e, d)
		}
	}
	for _, n := range []int{1, 2, 3, 46, 4095, 4096} {
		d := newDisk(t, n)
		pends(t, d, 0)
		want := make([]string, n)
		for i := range want {
			want[i] = full(0)
		}
		holds(t, d, want...)
		if d.Len() != n {
			t.Fatal(n, d.Len())
		}
	}
}

// P5.1
func TestRead(t *testing.T) {
	for _, n := range []int{1, 3, 4096} {
		d := newDisk(t, n)
		for _, i := range []int{-1, n, n + 1, -n, math.MinInt, math.MaxInt, 1 << 32} {
			if s, e := d.Read(i); s != "" || e != api.ErrArg {
				t.Fatal(n, i, s, e)
			}
		}
		writes(t, d, 0, full('a'), api.OK)
		writes(t, d, n-1, full('b'), api.OK)
		for _, i := range []int{-1, n} {
			if s, e := d.Read(i); s != "" || e != api.ErrArg {
				t.Fatal(n, i, s, e)
			}
		}
		if s, e := d.Read(n - 1); s != full('b') || e != api.OK {
			t.Fatal(n, s, e)
		}
	}
}

// P5.1: a sector with no write, with one pending, with several pending, behind a Flush, and with some pending behind that.
func TestReadTellsTheLastWrite(t *testing.T) {
	d := newDisk(t, 3)
	holds(t, d, full(0), full(0), full(0))
	writes(t, d, 1, full('a'), api.OK)
	holds(t, d, full(0), full('a'), full(0))
	writes(t, d, 1, full('b'), api.OK)
	writes(t, d, 2, full('c'), api.OK)
	writes(t, d, 1, full('d'), api.OK)
	holds(t, d, full(0), full('d'), full('c'))
	pends(t, d, 4)
	flushes(t, d, api.OK)
	pends(t, d, 0)
	holds(t, d, full(0), full('d'), full('c'))
	writes(t, d, 0, full('e'), api.OK)
	writes(t, d, 2, full(0), api.OK)
	holds(t, d, full('e'), full('d'), full(0))
	// Read has changed nothing.
	pends(t, d, 2)
	d.Crash(nil, -1, 0)
	holds(t, d, full(0), full('d'), full('c'))
}

// P5.1: all bytes there are, each in its place.
func TestBytesStay(t *testing.T) {
	var all []byte
	for b := range 256 {
		all = append(all, byte(b))
	}
	d := newDisk(t, 2)
	writes(t, d, 0, string(all[:128]), api.OK)
	writes(t, d, 1, string(all[128:]), api.OK)
	holds(t, d, string(all[:128]), string(all[128:]))
	flushes(t, d, api.OK)
	holds(t, d, string(all[:128]), string(all[128:]))
}

// P5.2, R2: of several errors the one that is named first; what tells one changes nothing.
func TestWriteErrors(t *testing.T) {
	sizes := []int{0, 1, 127, 128, 129, 256}
	for _, n := range []int{1, 3, 4096} {
		d := newDisk(t, n)
		for _, dead := range []bool{false, true} {
			if dead {
				d.Limit(0)
			}
			for _, size := range sizes {
				s := strings.Repeat("a", size)
				for _, i := range []int{-1, n, n + 1, math.MinInt, math.MaxInt} {
					writes(t, d, i, s, api.ErrArg)
				}
				for _, i := range []int{0, n - 1} {
					switch {
					case size != 128:
						writes(t, d, i, s, api.ErrForm)
					case dead:
						writes(t, d, i, s, api.ErrDead)
					}
				}
			}
			pends(t, d, 0)
			if s, e := d.Read(0); s != full(0) || e != api.OK {
				t.Fatal(s, e)
			}
		}
	}
}

// P5.2: pending writes are done in order, those to one sector too.
func TestFlush(t *testing.T) {
	d := newDisk(t, 3)
	flushes(t, d, api.OK)
	for i, b := range []byte("abcdefg") {
		writes(t, d, i%3, full(b), api.OK)
		pends(t, d, i+1)
	}
	flushes(t, d, api.OK)
	pends(t, d, 0)
	d.Crash([]bool{true, true, true}, 0, 128)
	holds(t, d, full('g'), full('e'), full('f'))
	flushes(t, d, api.OK)
	holds(t, d, full('g'), full('e'), full('f'))
}

// P5.3: without a limit there is none, however many writes.
func TestNoLimit(t *testing.T) {
	d := newDisk(t, 1)
	for range 10000 {
		writes(t, d, 0, full('a'), api.OK)
	}
	pends(t, d, 10000)
	for range 10000 {
		flushes(t, d, api.OK)
	}
	pends(t, d, 0)
}

// P5.2, P5.3
func TestLimitUsedUp(t *testing.T) {
	for _, n := range []int{math.MinInt, -7, -1, 0, 1, 2, 3, 4, 9} {
		d := newDisk(t, 2)
		writes(t, d, 1, full('z'), api.OK)
		d.Limit(n)
		held := full(0)
		for k := 0; k < n; k++ {
			// What tells an error uses up nothing.
			writes(t, d, 2, full('a'), api.ErrArg)
			writes(t, d, 0, "a", api.ErrForm)
			if k%3 == 2 {
				flushes(t, d, api.OK)
				continue
			}
			held = full(byte('a' + k))
			writes(t, d, 0, held, api.OK)
		}
		pending := d.Pending()
		for range 3 {
			writes(t, d, 0, full('y'), api.ErrDead)
			flushes(t, d, api.ErrDead)
			writes(t, d, -1, full('y'), api.ErrArg)
			writes(t, d, 0, full('y')+"y", api.ErrForm)
		}
		pends(t, d, pending)
		holds(t, d, held, full('z'))
	}
}

// P5.2: a Flush of a disk that is dead does nothing of what is pending.
func TestDeadFlush(t *testing.T) {
	d := newDisk(t, 1)
	d.Limit(1)
	writes(t, d, 0, full('a'), api.OK)
	flushes(t, d, api.ErrDead)
	pends(t, d, 1)
	holds(t, d, full('a'))
	d.Crash(nil, -1, 0)
	holds(t, d, full(0))
}

// P5.3: a limit is set anew, to more or to less, and takes nothing from what is pending.
func TestLimitAnew(t *testing.T) {
	d := newDisk(t, 1)
	d.Limit(0)
	writes(t, d, 0, full('a'), api.ErrDead)
	d.Limit(2)
	writes(t, d, 0, full('b'), api.OK)
	d.Limit(1)
	writes(t, d, 0, full('c'), api.OK)
	writes(t, d, 0, full('d'), api.ErrDead)
	d.Limit(math.MaxInt)
	for range 100 {
		flushes(t, d, api.OK)
	}
	writes(t, d, 0, full('e'), api.OK)
	d.Limit(5)
	d.Limit(-5)
	flushes(t, d, api.ErrDead)
	pends(t, d, 1)
	holds(t, d, full('e'))
	d.Limit(1)
	flushes(t, d, api.OK)
	flushes(t, d, api.ErrDead)
}

// P5.3: behind a crash there is no limit, be it used up or not.
func TestLimitGone(t *testing.T) {
	for _, n := range []int{-1, 0, 1, 5} {
		d := newDisk(t, 1)
		d.Limit(n)
		d.Crash(nil, -1, 0)
		for range 20 {
			writes(t, d, 0, full('a'), api.OK)
			flushes(t, d, api.OK)
		}
	}
}

// P5.3: a crash itself uses up nothing, and does its work on a disk that is dead.
func TestCrashOfADeadDisk(t *testing.T) {
	d := newDisk(t, 2)
	d.Limit(2)
	writes(t, d, 0, full('a'), api.OK)
	writes(t, d, 1, full('b'), api.OK)
	flushes(t, d, api.ErrDead)
	d.Crash([]bool{true}, 1, 127)
	holds(t, d, full('a'), mixed('b', 127, 0))
}

// P5.3: keep of no length, shorter than what is pending, and longer.
func TestCrashKeep(t *testing.T) {
	yes, no := full('b'), full('a')
	for _, c := range []struct {
		keep []bool
		want [3]string
	}{
		{nil, [3]string{no, no, no}},
		{[]bool{}, [3]string{no, no, no}},
		{[]bool{true}, [3]string{yes, no, no}},
		{[]bool{false, true}, [3]string{no, yes, no}},
		{[]bool{true, true, true}, [3]string{yes, yes, yes}},
		{[]bool{true, false, true}, [3]string{yes, no, yes}},
		{[]bool{false, false, true, true, true}, [3]string{no, no, yes}},
	} {
		d := newDisk(t, 3)
		for i := range 3 {
			writes(t, d, i, no, api.OK)
		}
		flushes(t, d, api.OK)
		for i := range 3 {
			writes(t, d, i, yes, api.OK)
		}
		d.Crash(c.keep, -1, 128)
		pends(t, d, 0)
		holds(t, d, c.want[:]...)
		// What was lost does not come back.
		flushes(t, d, api.OK)
		d.Crash([]bool{true, true, true}, 0, 128)
		holds(t, d, c.want[:]...)
	}
}

// P5.3
func TestCrashTorn(t *testing.T) {
	for _, at := range []int{math.MinInt, -129, -1, 0, 1, 2, 64, 120, 127, 128, 129, 256, math.MaxInt} {
		n := at
		if at < 0 {
			n = 0
		}
		if at > 128 {
			n = 128
		}
		for _, torn := range []int{math.MinInt, -1, 0, 1, 2, 3, 1 << 32, math.MaxInt} {
			for _, keep := range [][]bool{nil, {false, true}, {true, true, true}} {
				d := newDisk(t, 3)
				want := make([]string, 3)
				for i := range 3 {
					writes(t, d, i, full('a'), api.OK)
				}
				flushes(t, d, api.OK)
				for i := range 3 {
					writes(t, d, i, full('b'), api.OK)
					switch {
					case i < len(keep) && keep[i]:
						want[i] = full('b')
					case i == torn:
						want[i] = mixed('b', n, 'a')
					default:
						want[i] = full('a')
					}
				}
				d.Crash(keep, torn, at)
				pends(t, d, 0)
				holds(t, d, want...)
			}
		}
	}
}

// P5.3: what is torn goes over what is done ahead of it, and what is kept behind goes over that.
func TestCrashInOrder(t *testing.T) {
	for _, c := range []struct {
		keep     []bool
		torn, at int
		want     string
	}{
		{[]bool{true, true, true}, -1, 0, full('d')},
		{[]bool{true, true}, -1, 0, full('c')},
		{[]bool{true, false, true}, 1, 5, full('d')},
		{[]bool{true}, 1, 5, mixed('c', 5, 'b')},
		{[]bool{true, true}, 2, 5, mixed('d', 5, 'c')},
		{[]bool{true}, 2, 5, mixed('d', 5, 'b')},
		{nil, 2, 5, mixed('d', 5, 'a')},
		{[]bool{false, true}, 0, 5, full('c')},
		{nil, 3, 5, full('a')},
	} {
		d := newDisk(t, 1)
		writes(t, d, 0, full('a'), api.OK)
		flushes(t, d, api.OK)
		for _, b := range []byte("bcd") {
			writes(t, d, 0, full(b), api.OK)
		}
		d.Crash(c.keep, c.torn, c.at)
		holds(t, d, c.want)
	}
}

// P5.3
func TestCrashOfNothing(t *testing.T) {
	d := newDisk(t, 2)
	d.Crash(nil, 0, 5)
	d.Crash([]bool{true, true}, 1, 128)
	holds(t, d, full(0), full(0))
	writes(t, d, 1, full('a'), api.OK)
	flushes(t, d, api.OK)
	d.Crash([]bool{false}, 0, 0)
	holds(t, d, full(0), full('a'))
	pends(t, d, 0)
}

// The chapter's example.
func TestExample(t *testing.T) {
	d := newDisk(t, 1)
	writes(t, d, 0, full('a'), api.OK)
	flushes(t, d, api.OK)
	writes(t, d, 0, full('b'), api.OK)
	d.Crash(nil, 0, 3)
	holds(t, d, "bbb"+strings.Repeat("a", 125))
}

// P5.3, R7: calls on one of them are not seen in the other one.
func TestCopy(t *testing.T) {
	make2 := func() (*Disk, *Disk) {
		d := newDisk(t, 2)
		writes(t, d, 0, full('a'), api.OK)
		flushes(t, d, api.OK)
		for _, b := range []byte("bcd") {
			writes(t, d, 1, full(b), api.OK)
		}
		d.Limit(2)
		return d, d.Copy()
	}
	for _, swap := range []bool{false, true} {
		one, other := make2()
		if swap {
			one, other = other, one
		}
		writes(t, one, 0, full('e'), api.OK)
		holds(t, one, full('e'), full('d'))
		holds(t, other, full('a'), full('d'))
		pends(t, other, 3)
		writes(t, other, 0, full('f'), api.OK)
		holds(t, one, full('e'), full('d'))
		flushes(t, one, api.OK)
		writes(t, one, 0, full('g'), api.ErrDead)
		pends(t, other, 4)
		writes(t, other, 1, full('h'), api.OK)
		flushes(t, other, api.ErrDead)
		one.Crash(nil, -1, 0)
		flushes(t, other, api.ErrDead)
		other.Crash([]bool{true, false, true, true}, 4, 7)
		holds(t, one, full('e'), full('d'))
		holds(t, other, full('f'), mixed('h', 7, 'd'))
	}
}

// R7: a copy outlives what its original does next, and is no part of it.
func TestCopyOfACopy(t *testing.T) {
	d := newDisk(t, 1)
	c := d.Copy()
	if c == d {
		t.Fatal("the same disk")
	}
	d.Limit(0)
	writes(t, c, 0, full('a'), api.OK)
	dead := d.Copy()
	d.Crash(nil, -1, 0)
	writes(t, dead, 0, full('b'), api.ErrDead)
	cc := c.Copy()
	c.Crash(nil, -1, 0)
	pends(t, cc, 1)
	holds(t, cc, full('a'))
	holds(t, c, full(0))
}

// R4
func TestKeepIsTheCallers(t *testing.T) {
	room := []bool{true, false, true, true}
	keep := room[:2]
	d := newDisk(t, 3)
	for i := range 3 {
		writes(t, d, i, full('a'), api.OK)
	}
	d.Crash(keep, 2, 1)
	if !room[0] || room[1] || !room[2] || !room[3] {
		t.Fatal(room)
	}
	holds(t, d, full('a'), full(0), mixed('a', 1, 0))
}

// model is a disk told in the promises' words: every call goes over all that was done.
type model struct {
	held    [][]byte
	pending []int
	bytes   []string
	limited bool
	left    int
}

func newModel(n int) *model {
	m := &model{}
	for range n {
		m.held = append(m.held, make([]byte, 128))
	}
	return m
}

func (m *model) read(i int) string {
	s := string(m.held[i])
	for p, at := range m.pending {
		if at == i {
			s = m.bytes[p]
		}
	}
	return s
}

func (m *model) write(i int, s string) api.Errno {
	if i < 0 || i >= len(m.held) {
		return api.ErrArg
	}
	if len(s) != 128 {
		return api.ErrForm
	}
	if m.limited && m.left <= 0 {
		return api.ErrDead
	}
	m.left--
	m.pending = append(m.pending, i)
	m.bytes = append(m.bytes, s)
	return api.OK
}

func (m *model) flush() api.Errno {
	if m.limited && m.left <= 0 {
		return api.ErrDead
	}
	m.left--
	for p, i := range m.pending {
		m.held[i] = []byte(m.bytes[p])
	}
	m.pending, m.bytes = nil, nil
	return api.OK
}

func (m *model) crash(keep []bool, torn, at int) {
	for p, i := range m.pending {
		for b := range 128 {
			if p < len(keep) && keep[p] || p == torn && b < at {
				m.held[i][b] = m.bytes[p][b]
			}
		}
	}
	m.pending, m.bytes, m.limited = nil, nil, false
}

func (m *model) copy() *model {
	c := *m
	c.held = nil
	for _, s := range m.held {
		c.held = append(c.held, []byte(string(s)))
	}
	c.pending = append([]int(nil), m.pending...)
	c.bytes = append([]string(nil), m.bytes...)
	return &c
}

func randomText(r *rand.Rand) string {
	n := 128
	if r.Intn(10) == 0 {
		n = 126 + r.Intn(5)
	}
	b := make([]byte, n)
	r.Read(b)
	return string(b)
}

func randomKeep(r *rand.Rand, pending int) []bool {
	keep := make([]bool, r.Intn(pending+3))
	for i := range keep {
		keep[i] = r.Intn(2) == 0
	}
	return keep
}

// step does one call on a disk and on its model, and holds what they tell against each other.
func step(t *testing.T, r *rand.Rand, d *Disk, m *model) {
	t.Helper()
	n := len(m.held)
	switch k := r.Intn(20); {
	case k < 13:
		i, s := r.Intn(n+2)-1, randomText(r)
		if got, want := d.Write(i, s), m.write(i, s); got != want {
			t.Fatalf("Write(%d, %d bytes) = %d, want %d", i, len(s), got, want)
		}
	case k < 16:
		if got, want := d.Flush(), m.flush(); got != want {
			t.Fatalf("Flush() = %d, want %d", got, want)
		}
	case k < 17:
		left := r.Intn(12) - 1
		d.Limit(left)
		m.limited, m.left = true, left
	case k < 19:
		keep, torn, at := randomKeep(r, len(m.pending)), r.Intn(len(m.pending)+3)-1, r.Intn(140)-5
		d.Crash(keep, torn, at)
		m.crash(keep, torn, at)
	}
	if d.Pending() != len(m.pending) || d.Len() != n {
		t.Fatal(d.Pending(), len(m.pending), d.Len(), n)
	}
	for i := range n {
		if s, e := d.Read(i); e != api.OK || s != m.read(i) {
			t.Fatalf("Read(%d) = %q, %d, want %q", i, s, e, m.read(i))
		}
	}
}

// P5.1 to P5.3, R7
func TestAgainstModel(t *testing.T) {
	for seed := range 60 {
		r := rand.New(rand.NewSource(int64(seed)))
		n := 1 + r.Intn(5)
		disks, models := []*Disk{newDisk(t, n)}, []*model{newModel(n)}
		for range 300 {
			k := r.Intn(len(disks))
			step(t, r, disks[k], models[k])
			if len(disks) < 4 && r.Intn(40) == 0 {
				disks, models = append(disks, disks[k].Copy()), append(models, models[k].copy())
			}
		}
	}
}

// P5.4
func TestFlushedStays(t *testing.T) {
	for seed := range 300 {
		r := rand.New(rand.NewSource(int64(seed)))
		n := 2 + r.Intn(6)
		d := newDisk(t, n)
		flushed := make([]string, n)
		for i := range flushed {
			flushed[i] = full(byte('A' + i))
			writes(t, d, i, flushed[i], api.OK)
		}
		flushes(t, d, api.OK)
		told := make([][]string, n)
		for k := range r.Intn(12) {
			i := r.Intn(n)
			s := full(byte('a' + k))
			writes(t, d, i, s, api.OK)
			told[i] = append(told[i], s)
		}
		d.Crash(randomKeep(r, d.Pending()), r.Intn(d.Pending()+2)-1, 1+r.Intn(127))
		torn := 0
		for i := range n {
			s, _ := d.Read(i)
			whole := s == flushed[i]
			for _, w := range told[i] {
				whole = whole || s == w
			}
			if !whole {
				torn++
			}
			if len(told[i]) == 0 && s != flushed[i] {
				t.Fatalf("seed %d: sector %d, of no later write, tells %q", seed, i, s)
			}
		}
		if torn > 1 {
			t.Fatalf("seed %d: %d sectors are mixed", seed, torn)
		}
		// And it stays behind more crashes.
		for range 3 {
			before := d.Copy()
			d.Crash([]bool{true, true}, 0, 64)
			for i := range n {
				s, _ := d.Read(i)
				if was, _ := before.Read(i); s != was {
					t.Fatalf("seed %d: sector %d has changed", seed, i)
				}
			}
		}
	}
}
