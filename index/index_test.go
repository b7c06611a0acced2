package index

import (
	"fmt"
	"math"
	"math/rand"
	"slices"
	"strconv"
	"strings"
	"testing"

	"lodger/api"
	"lodger/record"
)

const most = math.MaxUint64

func loc(seg, slot int) api.Loc { return api.Loc{Seg: seg, Slot: slot} }

func live(id string, ver uint64) record.Record {
	return record.Record{LSN: 5, Epoch: 2, Kind: record.Live, ID: id, Ver: ver, Deadline: ver + 7, Value: "val"}
}

func tomb(id string, ver uint64) record.Record {
	return record.Record{LSN: 6, Epoch: 2, Kind: record.Tomb, ID: id, Ver: ver}
}

// standing is a record of the model: where it stands, and whether it is the newest of its id, and lives.
type standing struct {
	r            record.Record
	at           api.Loc
	newest, live bool
}

// model has all records in one list, in the order in which they came.
type model struct {
	all []standing
}

func (m *model) find(is func(s standing) bool) int {
	return slices.IndexFunc(m.all, is)
}

func (m *model) count(is func(s standing) bool) int {
	n := 0
	for _, s := range m.all {
		if is(s) {
			n++
		}
	}
	return n
}

func (m *model) newest(id string) int {
	return m.find(func(s standing) bool { return s.newest && s.r.ID == id })
}

func (m *model) add(r record.Record, at api.Loc) bool {
	if r.Kind != 1 && r.Kind != 2 || at.Seg < 0 || at.Slot < 0 || m.find(func(s standing) bool { return s.at == at }) >= 0 {
		return false
	}
	m.all = append(m.all, standing{r: r, at: at})
	was := m.newest(r.ID)
	if was >= 0 && m.all[was].r.Ver > r.Ver {
		return false
	}
	if was >= 0 {
		m.all[was].newest, m.all[was].live = false, false
	}
	last := &m.all[len(m.all)-1]
	last.newest, last.live = true, r.Kind == 1
	return true
}

func (m *model) kill(id string) bool {
	was := m.newest(id)
	if was < 0 || !m.all[was].live {
		return false
	}
	m.all[was].live = false
	return true
}

func (m *model) gone(seg int) int {
	had := len(m.all)
	m.all = slices.DeleteFunc(m.all, func(s standing) bool { return s.at.Seg == seg })
	return had - len(m.all)
}

func (m *model) in(seg int) (newest, live, size int) {
	for _, s := range m.all {
		if s.at.Seg == seg && s.newest {
			newest++
			if s.live {
				live++
				size += 31 + len(s.r.ID) + len(s.r.Value)
			}
		}
	}
	return newest, live, size
}

// ahead goes by bytes, one by one; an end is ahead of all of them.
func ahead(a, b string) bool {
	for i := 0; i < len(a) && i < len(b); i++ {
		if a[i] != b[i] {
			return a[i] < b[i]
		}
	}
	return len(a) < len(b)
}

func (m *model) ids() []string {
	var ids []string
	for _, s := range m.all {
		if s.live {
			at := 0
			for at < len(ids) && ahead(ids[at], s.r.ID) {
				at++
			}
			ids = slices.Insert(ids, at, s.r.ID)
		}
	}
	return ids
}

// both are an index and a model of it, to which the same is done; done tells what was. What is asked for are all ids, segments and places that came up.
type both struct {
	t      *testing.T
	x      *Index
	m      model
	ids    []string
	segs   []int
	places []api.Loc
	done   [][]any
}

func start(t *testing.T) *both {
	b := &both{t: t, x: New(), ids: []string{"none", ""}, segs: []int{-1, 0, 1, math.MaxInt}, places: []api.Loc{loc(0, 0), loc(0, 1), loc(-1, 0), loc(0, -1), loc(-1, -1)}}
	b.held()
	return b
}

func (b *both) did(what ...any) {
	b.done = append(b.done, what)
}

func (b *both) same(what string, got, want any) {
	b.t.Helper()
	if got != want {
		b.t.Fatalf("%s is %v, want %v, behind\n%#v", what, got, want, b.done)
	}
}

func noted[T comparable](l []T, x T) []T {
	if slices.Contains(l, x) {
		return l
	}
	return append(l, x)
}

// held asks for all that an index tells without a change.
func (b *both) held() {
	b.t.Helper()
	for _, id := range b.ids {
		b.heldID(id)
	}
	for _, at := range b.places {
		want, is := "", false
		if i := b.m.find(func(s standing) bool { return s.at == at }); i >= 0 {
			want, is = b.m.all[i].r.ID, true
		}
		id, found := b.x.At(at)
		if id != want || found != is {
			b.t.Fatalf("At %v is %q, %v, want %q, %v, behind\n%#v", at, id, found, want, is, b.done)
		}
	}
	for _, seg := range b.segs {
		n, l, size := b.x.In(seg)
		if wantN, wantL, wantSize := b.m.in(seg); n != wantN || l != wantL || size != wantSize {
			b.t.Fatalf("In %d is %d, %d, %d, want %d, %d, %d, behind\n%#v", seg, n, l, size, wantN, wantL, wantSize, b.done)
		}
	}
	b.same("Lives", b.x.Lives(), b.m.count(func(s standing) bool { return s.live }))
	if ids, want := b.x.IDs(), b.m.ids(); !slices.Equal(ids, want) {
		b.t.Fatalf("IDs are %q, want %q, behind\n%#v", ids, want, b.done)
	}
}

func (b *both) heldID(id string) {
	b.t.Helper()
	var want Entry
	at := b.m.newest(id)
	if at >= 0 {
		s := b.m.all[at]
		want = Entry{Ver: s.r.Ver, Deadline: s.r.Deadline, Live: s.live, Size: 31 + len(s.r.ID) + len(s.r.Value), At: s.at}
	}
	if e, is := b.x.Newest(id); e != want || is != (at >= 0) {
		b.t.Fatalf("Newest of %q is %v, %v, want %v, behind\n%#v", id, e, is, want, b.done)
	}
	for _, seg := range b.segs {
		want := b.m.count(func(s standing) bool { return s.r.ID == id && s.at.Seg != seg })
		if n := b.x.Others(id, seg); n != want {
			b.t.Fatalf("Others of %q and %d are %d, want %d, behind\n%#v", id, seg, n, want, b.done)
		}
	}
}

func (b *both) add(r record.Record, at api.Loc) bool {
	b.t.Helper()
	b.ids, b.segs, b.places = noted(b.ids, r.ID), noted(b.segs, at.Seg), noted(b.places, at)
	b.did("Add", r, at)
	is := b.x.Add(r, at)
	b.same("Add", is, b.m.add(r, at))
	b.held()
	return is
}

func (b *both) kill(id string) bool {
	b.t.Helper()
	b.ids = noted(b.ids, id)
	b.did("Kill", id)
	was := b.x.Kill(id)
	b.same("Kill", was, b.m.kill(id))
	b.held()
	return was
}

func (b *both) gone(seg int) int {
	b.t.Helper()
	b.segs = noted(b.segs, seg)
	b.did("Gone", seg)
	n := b.x.Gone(seg)
	b.same("Gone", n, b.m.gone(seg))
	b.held()
	return n
}

// adds, kills and goes say besides what the answer is.
func (b *both) adds(want bool, r record.Record, at api.Loc) {
	b.t.Helper()
	b.same("Add", b.add(r, at), want)
}

func (b *both) kills(want bool, id string) {
	b.t.Helper()
	b.same("Kill", b.kill(id), want)
}

func (b *both) goes(want, seg int) {
	b.t.Helper()
	b.same("Gone", b.gone(seg), want)
}

func (b *both) has(id string, want Entry) {
	b.t.Helper()
	if e, is := b.x.Newest(id); e != want || !is {
		b.t.Fatalf("Newest of %q is %v, %v, want %v, behind\n%#v", id, e, is, want, b.done)
	}
}

func (b *both) hasNot(id string) {
	b.t.Helper()
	if e, is := b.x.Newest(id); e != (Entry{}) || is {
		b.t.Fatalf("Newest of %q is %v, %v, behind\n%#v", id, e, is, b.done)
	}
}

func (b *both) in(seg, newest, lives, size int) {
	b.t.Helper()
	if n, l, s := b.x.In(seg); n != newest || l != lives || s != size {
		b.t.Fatalf("In %d is %d, %d, %d, want %d, %d, %d, behind\n%#v", seg, n, l, s, newest, lives, size, b.done)
	}
}

// someIDs are empty, beginnings of each other, and with bytes above 127; rising.
var someIDs = []string{"", "\x00", "\x00\x00", "-", "0", "10", "9", "A", "B", "Z", "a", "a\x00", "aa", "aaa", "ab", "b", "ba", "z", "\x7f", "\x80", "\xc3", "é", "é\x00", "日", "\xff", "\xff\x00", "\xff\xff"}

func anyOf[T any](random *rand.Rand, l []T) T { return l[random.Intn(len(l))] }

// P13.1 to P13.4: the chapter's example.
func TestExample(t *testing.T) {
	b := start(t)
	b.adds(true, live("a", 1), loc(0, 0))
	b.adds(true, live("a", 2), loc(0, 1))
	b.has("a", Entry{Ver: 2, Deadline: 9, Live: true, Size: 35, At: loc(0, 1)})
	b.same("Others", b.x.Others("a", 1), 2)
	b.goes(2, 0)
}

// P13.1: an index without a record has nothing, whatever it is asked.
func TestNew(t *testing.T) {
	x := New()
	for _, n := range []int{math.MinInt, -1, 0, 1, 15, 16, math.MaxInt} {
		newest, lives, size := x.In(n)
		if newest != 0 || lives != 0 || size != 0 || x.Gone(n) != 0 {
			t.Fatal(n, newest, lives, size)
		}
		for _, m := range []int{math.MinInt, -1, 0, 1, math.MaxInt} {
			if id, is := x.At(loc(n, m)); id != "" || is {
				t.Fatal(n, m, id)
			}
		}
		for _, id := range someIDs {
			if e, is := x.Newest(id); e != (Entry{}) || is || x.Others(id, n) != 0 || x.Kill(id) {
				t.Fatal(id, e)
			}
		}
	}
	if x.Lives() != 0 || len(x.IDs()) != 0 {
		t.Fatal(x.Lives(), x.IDs())
	}
}

// P13.1: what one index has, another has not.
func TestTwo(t *testing.T) {
	first, second := start(t), start(t)
	first.adds(true, live("a", 1), loc(0, 0))
	second.held()
	second.adds(true, tomb("b", 1), loc(0, 0))
	first.held()
	first.goes(1, 0)
	second.held()
}

// P13.1: only Live ones and Tombs come to stand.
func TestKinds(t *testing.T) {
	for _, kind := range []int{math.MinInt, -1, 0, record.Foot, record.Kinds, 5, 256, 257, 258, math.MaxInt} {
		b := start(t)
		r := live("a", 3)
		r.Kind = kind
		b.adds(false, r, loc(0, 0))
		b.adds(false, record.Record{Kind: kind}, loc(0, 0))
		b.adds(false, record.Record{Kind: kind, LSN: 1, Deadline: 3}, loc(0, 1))
		b.hasNot("a")
		b.adds(true, live("a", 1), loc(0, 0))
		b.adds(false, r, loc(0, 1))
		b.adds(false, r, loc(0, 0))
		b.has("a", Entry{Ver: 1, Deadline: 8, Live: true, Size: 35, At: loc(0, 0)})
		b.goes(1, 0)
	}
}

// P13.1: at a place where a record stands none is added, whatever it is.
func TestTaken(t *testing.T) {
	b := start(t)
	b.adds(true, live("a", 5), loc(2, 3))
	for _, r := range []record.Record{live("a", 5), live("a", 4), live("a", 6), tomb("a", 6), live("b", 9), tomb("", 1)} {
		b.adds(false, r, loc(2, 3))
		b.has("a", Entry{Ver: 5, Deadline: 12, Live: true, Size: 35, At: loc(2, 3)})
	}
	b.adds(false, live("a", 4), loc(2, 4))
	b.adds(false, live("b", 9), loc(2, 4)) // also where an older one stands
	b.hasNot("b")
	b.adds(true, live("b", 9), loc(3, 2))
	b.adds(true, live("c", 9), loc(3, 3))
	b.goes(2, 2)
	b.adds(true, live("b", 9), loc(2, 3))
}

// P13.1: the newest one is that of the greatest Ver, of several the last one.
func TestVers(t *testing.T) {
	vers := []uint64{0, 1, 2, 3, 1 << 31, 1 << 32, 1<<63 - 1, 1 << 63, most - 1, most}
	for _, first := range vers {
		for _, second := range vers {
			for _, r := range []record.Record{live("a", first), tomb("a", first)} {
				for _, other := range []record.Record{live("a", second), tomb("a", second)} {
					b := start(t)
					b.adds(true, r, loc(0, 0))
					b.adds(second >= first, other, loc(1, 0))
					b.adds(true, live("b", 0), loc(1, 1)) // no matter of another id's
				}
			}
		}
	}
}

// P13.1, P13.3: an entry has what the record says, also one that may not be.
func TestEntry(t *testing.T) {
	long := strings.Repeat("x", 1000)
	for _, r := range []record.Record{
		{Kind: record.Live},
		{Kind: record.Tomb},
		{Kind: record.Live, ID: "a", Ver: 1},
		{Kind: record.Live, ID: "abc", Ver: 7, Deadline: 3, Value: "0123456789"},
		{Kind: record.Live, ID: "é", Ver: most, Deadline: most, Value: "日\x00\xff"},
		{Kind: record.Tomb, ID: "user-1", Ver: 9, LSN: 3, Epoch: 4},
		{Kind: record.Tomb, ID: "A", Ver: 9, Deadline: 8, Value: "of a tomb"},
		{Kind: record.Live, ID: long, Ver: 1, Deadline: 1 << 63, Value: long + long},
		{Kind: record.Live, ID: "a234567890123456", Ver: 1 << 40, Deadline: 5, Value: long[:64], LSN: most, Epoch: math.MaxUint32},
	} {
		b := start(t)
		b.adds(true, r, loc(7, 11))
		b.has(r.ID, Entry{Ver: r.Ver, Deadline: r.Deadline, Live: r.Kind == record.Live, Size: 31 + len(r.ID) + len(r.Value), At: loc(7, 11)})
		id, is := b.x.At(loc(7, 11))
		b.same("At", id, r.ID)
		b.same("At", is, true)
		if r.Kind == record.Live {
			b.in(7, 1, 1, 31+len(r.ID)+len(r.Value))
		} else {
			b.in(7, 1, 0, 0)
		}
	}
}

// P13.1: where a record stands in the log, and in which epoch, makes no difference.
func TestLSN(t *testing.T) {
	b := start(t)
	b.adds(true, record.Record{Kind: record.Live, ID: "a", Ver: 2, LSN: 9, Epoch: 9}, loc(0, 0))
	b.adds(false, record.Record{Kind: record.Live, ID: "a", Ver: 1, LSN: 10, Epoch: 10}, loc(0, 1))
	b.adds(true, record.Record{Kind: record.Live, ID: "a", Ver: 2, LSN: 8, Epoch: 8}, loc(0, 2))
}

// P13.1: a Live one behind a Tomb lives; a Tomb behind a Live one does not.
func TestTombs(t *testing.T) {
	b := start(t)
	b.adds(true, live("a", 1), loc(0, 0))
	b.adds(true, tomb("a", 2), loc(0, 1))
	b.in(0, 1, 0, 0)
	b.adds(false, live("a", 1), loc(0, 2))
	b.has("a", Entry{Ver: 2, Size: 32, At: loc(0, 1)})
	b.adds(true, live("a", 2), loc(1, 0))
	b.in(0, 0, 0, 0)
	b.in(1, 1, 1, 35)
	b.adds(true, tomb("a", 2), loc(1, 1))
	b.adds(false, tomb("a", 1), loc(1, 2))
	b.adds(true, live("a", 3), loc(0, 3))
	b.has("a", Entry{Ver: 3, Deadline: 10, Live: true, Size: 35, At: loc(0, 3)})
	b.in(1, 0, 0, 0)
	b.same("Lives", b.x.Lives(), 1)
}

// P13.2: who lived is killed once; its entry stays, and so does where it stands.
func TestKill(t *testing.T) {
	b := start(t)
	b.kills(false, "a")
	b.adds(true, live("a", 1), loc(0, 0))
	b.adds(true, live("b", 1), loc(0, 1))
	b.adds(true, tomb("c", 1), loc(0, 2))
	b.kills(false, "ab")
	b.kills(false, "")
	b.kills(false, "c")
	b.kills(true, "a")
	b.has("a", Entry{Ver: 1, Deadline: 8, Size: 35, At: loc(0, 0)})
	b.in(0, 3, 1, 35)
	b.kills(false, "a")
	b.adds(true, live("a", 1), loc(0, 3)) // a copy lives, as it is Live
	b.kills(true, "a")
	b.adds(false, live("a", 0), loc(0, 4))
	b.kills(false, "a")
	b.adds(true, tomb("a", 1), loc(0, 5))
	b.kills(false, "a")
	b.kills(true, "b")
	b.same("Lives", b.x.Lives(), 0)
	b.goes(6, 0)
	b.kills(false, "a")
	b.kills(false, "c")
}

// P13.2: an id whose newest stood in the segment has none, though older ones stand elsewhere; one whose newest is elsewhere keeps it.
func TestGone(t *testing.T) {
	b := start(t)
	b.adds(true, live("a", 1), loc(0, 0))
	b.adds(true, live("b", 2), loc(0, 1))
	b.adds(true, tomb("c", 3), loc(0, 2))
	b.adds(true, live("a", 4), loc(1, 0))
	b.adds(true, live("d", 5), loc(1, 1))
	b.adds(false, live("b", 1), loc(1, 2))
	b.adds(false, live("c", 2), loc(2, 0))
	b.kills(true, "d")
	b.goes(0, 3)
	b.goes(0, -1)
	b.goes(3, 0)
	b.hasNot("b")
	b.hasNot("c")
	b.has("a", Entry{Ver: 4, Deadline: 11, Live: true, Size: 35, At: loc(1, 0)})
	b.goes(0, 0)
	b.same("Others", b.x.Others("b", 0), 1)
	b.same("Others", b.x.Others("b", 1), 0)
	b.adds(true, live("b", 0), loc(0, 1)) // anew, though it is of a lesser Ver than the one in segment 1
	b.adds(true, tomb("c", 1), loc(0, 0))
	b.adds(false, live("a", 3), loc(0, 2))
	b.has("b", Entry{Ver: 0, Deadline: 7, Live: true, Size: 35, At: loc(0, 1)})
	b.goes(3, 1)
	b.hasNot("a")
	b.hasNot("d")
	b.same("Others", b.x.Others("a", 1), 1)
	b.goes(3, 0)
	b.goes(1, 2)
	b.goes(0, 2)
	for _, id := range []string{"a", "b", "c", "d"} {
		b.hasNot(id)
		b.same("Others", b.x.Others(id, 9), 0)
	}
}

// P13.2: how many stood there, of whatever ids, newest or not, and at whatever slots.
func TestGoneCounts(t *testing.T) {
	for n := range 12 {
		b := start(t)
		b.adds(true, live("b", 50), loc(5, 0))
		for i := range n {
			b.add(live([]string{"a", "b", "c"}[i%3], uint64(100-i)), loc(4, i*i))
		}
		b.adds(true, live("d", 1), loc(3, 0))
		b.goes(n, 4)
		b.goes(0, 4)
		b.goes(1, 5)
		b.goes(1, 3)
	}
}

// P13.3: of an id none; of one all of whose records stand in that segment none; else those elsewhere, newest or not.
func TestOthers(t *testing.T) {
	b := start(t)
	b.adds(true, live("a", 1), loc(3, 0))
	b.adds(true, live("a", 9), loc(3, 1))
	b.adds(false, tomb("a", 4), loc(3, 2))
	b.same("Others", b.x.Others("a", 3), 0)
	b.adds(true, live("b", 9), loc(4, 1))
	b.same("Others", b.x.Others("a", 4), 3)
	b.same("Others", b.x.Others("a", 5), 3)
	b.same("Others", b.x.Others("b", 3), 1)
	b.same("Others", b.x.Others("b", 4), 0)
	b.same("Others", b.x.Others("c", 3), 0)
	b.same("Others", b.x.Others("", 3), 0)
	b.adds(false, live("a", 2), loc(5, 0))
	b.same("Others", b.x.Others("a", 3), 1)
	b.same("Others", b.x.Others("a", 5), 3)
	b.kills(true, "a")
	b.same("Others", b.x.Others("a", 4), 4)
	b.goes(1, 4)
	b.same("Others", b.x.Others("b", 3), 0)
}

// P13.3: each place is one of its own: segment and slot both count, and none is taken for the other.
func TestPlaces(t *testing.T) {
	b := start(t)
	numbers := []int{0, 1, 2, 10, 11, 15, 16, 30, 31, 100, 1 << 32, math.MaxInt}
	name := func(i, j int) string { return fmt.Sprintf("%02d-%02d", i, j) }
	for i, seg := range numbers {
		for j, slot := range numbers {
			b.x.Add(live(name(i, j), 1), loc(seg, slot))
			b.m.add(live(name(i, j), 1), loc(seg, slot))
			b.places = noted(b.places, loc(seg, slot))
		}
		b.segs = noted(b.segs, seg)
	}
	b.held()
	for i, seg := range numbers {
		for j, slot := range numbers {
			if id, is := b.x.At(loc(seg, slot)); id != name(i, j) || !is {
				t.Fatalf("%q at %d %d", id, seg, slot)
			}
		}
		b.in(seg, len(numbers), len(numbers), len(numbers)*39)
	}
	for _, seg := range numbers {
		b.goes(len(numbers), seg)
	}
}

// P13.1, P13.3, R6: a place below 0 is none: nothing comes to stand there, and nothing is found.
func TestBelowZero(t *testing.T) {
	for _, at := range []api.Loc{loc(-1, 0), loc(0, -1), loc(-1, -1), loc(math.MinInt, 3), loc(3, math.MinInt), loc(-1, math.MaxInt)} {
		b := start(t)
		b.adds(false, live("a", 1), at)
		b.adds(false, tomb("a", 1), at)
		b.hasNot("a")
		b.adds(true, live("a", 1), loc(0, 0))
		b.adds(false, live("a", 2), at)
		id, is := b.x.At(at)
		b.same("At", id, "")
		b.same("At", is, false)
		b.same("Others", b.x.Others("a", -1), 1)
		b.same("Others", b.x.Others("a", math.MinInt), 1)
		b.in(-1, 0, 0, 0)
		b.in(math.MinInt, 0, 0, 0)
		b.goes(0, -1)
		b.goes(0, math.MinInt)
		b.has("a", Entry{Ver: 1, Deadline: 8, Live: true, Size: 35, At: loc(0, 0)})
		b.goes(1, 0)
	}
}

// P13.4: rising by bytes, whatever the order in which they came; those that do not live are not told.
func TestIDs(t *testing.T) {
	random := rand.New(rand.NewSource(1))
	for range 50 {
		b := start(t)
		for _, i := range random.Perm(len(someIDs)) {
			b.x.Add(live(someIDs[i], uint64(i)), loc(i%3, i))
			b.m.add(live(someIDs[i], uint64(i)), loc(i%3, i))
		}
		if ids := b.x.IDs(); !slices.Equal(ids, someIDs) {
			t.Fatalf("IDs are %q", ids)
		}
		b.ids = append(b.ids, someIDs...)
		b.held()
		for i, id := range someIDs {
			switch random.Intn(4) {
			case 0:
				b.kills(true, id)
			case 1:
				b.adds(true, tomb(id, most), loc(4, i))
			case 2:
				b.adds(true, live(id, most), loc(4, i))
			}
		}
		b.gone(random.Intn(5))
	}
}

// P13.4: those that live are told, and the newest that do not are counted, but not their Sizes.
func TestIn(t *testing.T) {
	b := start(t)
	for i, value := range []string{"", "v", "vv", strings.Repeat("v", 64)} {
		r := live(fmt.Sprint("id", i), 1)
		r.Value = value
		b.adds(true, r, loc(6, i))
	}
	b.in(6, 4, 4, 4*34+67)
	b.kills(true, "id2")
	b.in(6, 4, 3, 3*34+65)
	b.adds(true, tomb("id3", 2), loc(6, 4))
	b.in(6, 4, 2, 2*34+1)
	b.adds(true, live("id1", 1), loc(7, 0))
	b.in(6, 3, 1, 34)
	b.in(7, 1, 1, 37)
	b.adds(false, live("id0", 0), loc(7, 1))
	b.in(7, 1, 1, 37)
	b.adds(true, live("id2", 1), loc(7, 2))
	b.in(6, 2, 1, 34)
	b.in(7, 2, 2, 74)
	b.goes(5, 6)
	b.in(6, 0, 0, 0)
	b.in(7, 2, 2, 74)
	b.same("Lives", b.x.Lives(), 2)
}

// P13.5: a copy is the newest, the one that it is of is not; what is left when either of both is gone.
func TestCopy(t *testing.T) {
	for _, r := range []record.Record{live("a", 3), tomb("a", 3)} {
		for _, killed := range []bool{false, true} {
			for seg := range 2 {
				b := start(t)
				b.adds(true, r, loc(0, 0))
				if killed {
					b.kill("a")
				}
				b.adds(true, r, loc(1, 0))
				want := Entry{Ver: 3, Deadline: r.Deadline, Live: r.Kind == record.Live, Size: 32 + len(r.Value), At: loc(1, 0)}
				b.has("a", want)
				b.in(0, 0, 0, 0)
				b.same("Others", b.x.Others("a", 0), 1)
				b.same("Others", b.x.Others("a", 1), 1)
				if killed {
					b.kill("a")
					want.Live = false
				}
				b.goes(1, seg)
				if seg == 0 {
					b.has("a", want)
				} else {
					b.hasNot("a")
				}
				b.same("Others", b.x.Others("a", 1-seg), 0)
				b.adds(true, r, loc(seg, 0))
				b.goes(1, 1-seg)
				b.in(seg, 1, b.x.Lives(), b.x.Lives()*35)
			}
		}
	}
}

// P13.5: all segments' together are Lives, as a cleaner copies what is needed and frees segments.
func TestCleaned(t *testing.T) {
	random := rand.New(rand.NewSource(2))
	b := start(t)
	var ids []string
	for i := range 20 {
		ids = append(ids, fmt.Sprint("id", i))
	}
	lives := map[string]bool{}
	ver, open, slot := uint64(0), 0, 0
	write := func(r record.Record) {
		if slot == 6 {
			open, slot = open+1, 0
		}
		b.adds(true, r, loc(open, slot))
		slot++
	}
	for range 400 {
		id := anyOf(random, ids)
		ver++
		if random.Intn(3) == 0 {
			write(tomb(id, ver))
		} else {
			write(live(id, ver))
		}
		lives[id] = b.m.all[len(b.m.all)-1].live
		if random.Intn(8) == 0 && open > 4 {
			seg := open - 1 - random.Intn(4)
			for _, s := range slices.Clone(b.m.all) {
				if s.at.Seg == seg && s.newest && (s.live || b.x.Others(s.r.ID, seg) > 0) {
					write(s.r)
				}
			}
			b.gone(seg)
		}
		all := 0
		for seg := range open + 1 {
			_, l, _ := b.x.In(seg)
			all += l
		}
		b.same("Lives", b.x.Lives(), all)
		for _, id := range ids {
			if e, _ := b.x.Newest(id); e.Live != lives[id] {
				t.Fatalf("%s lives: %v", id, e.Live)
			}
		}
	}
}

// P13.1 to P13.5: all courses of four acts out of some.
func TestAllCourses(t *testing.T) {
	acts := []func(b *both){
		func(b *both) { b.kill("a") },
		func(b *both) { b.gone(0) },
		func(b *both) { b.gone(1) },
	}
	for _, at := range []api.Loc{loc(0, 0), loc(0, 1), loc(1, 0)} {
		for _, r := range []record.Record{live("a", 1), live("a", 2), tomb("a", 1), tomb("a", 2), live("b", 1)} {
			acts = append(acts, func(b *both) { b.add(r, at) })
		}
	}
	courses := len(acts) * len(acts) * len(acts) * len(acts)
	for course := range courses {
		b := start(t)
		for n, left := 0, course; n < 4; n++ {
			acts[left%len(acts)](b)
			left /= len(acts)
		}
	}
}

// P13.1 to P13.5: long seeded courses.
func TestLongCourses(t *testing.T) {
	random := rand.New(rand.NewSource(3))
	for range 150 {
		b := start(t)
		ids := slices.Clone(someIDs)
		random.Shuffle(len(ids), func(i, j int) { ids[i], ids[j] = ids[j], ids[i] })
		ids = ids[:1+random.Intn(len(ids))]
		segs, slots, vers := 1+random.Intn(6), 1+random.Intn(12), 1+random.Intn(60)
		for range 200 {
			id := anyOf(random, ids)
			switch random.Intn(16) {
			case 0:
				b.gone(random.Intn(segs+2) - 1)
			case 1, 2:
				b.kill(id)
			default:
				r := record.Record{Kind: anyOf(random, []int{1, 1, 1, 1, 1, 2, 2, 3, 0}), ID: id, Ver: uint64(random.Intn(vers)), Deadline: random.Uint64(), Value: strings.Repeat("v", random.Intn(70))}
				if random.Intn(50) == 0 {
					r.Ver = most - r.Ver
				}
				b.add(r, loc(random.Intn(segs+1)-random.Intn(2), random.Intn(slots+1)-random.Intn(2)))
			}
		}
	}
}

// R1: many records of one id and of many, in one segment and in many, take no long time.
func TestMany(t *testing.T) {
	const n = 100000
	for _, ids := range []int{1, 300, n} {
		for _, segs := range []int{1, 300, n} {
			x := New()
			for i := range n {
				id, seg := strconv.Itoa(i%ids), i/(n/segs+1)
				if !x.Add(live(id, uint64(i)), loc(seg, i)) {
					t.Fatal(i)
				}
				if newest, _, _ := x.In(seg); newest == 0 || x.Lives() != min(i+1, ids) || x.Others(id, -1) != i/ids+1 {
					t.Fatal(i, newest, x.Lives())
				}
			}
			if l := x.IDs(); len(l) != ids || !slices.IsSorted(l) {
				t.Fatal(len(l))
			}
			for i := range n {
				if x.Kill(strconv.Itoa(i)) != (i < ids) {
					t.Fatal(i)
				}
			}
			all := 0
			for seg := range segs {
				all += x.Gone(seg)
			}
			if all != n || x.Lives() != 0 || len(x.IDs()) != 0 {
				t.Fatal(all, x.Lives())
			}
		}
	}
}

// LANGUAGE.md's rule 8: what is gone leaves nothing behind.
func TestNothingKept(t *testing.T) {
	b := start(t)
	for i, id := range someIDs {
		b.add(live(id, 1), loc(i%4, i))
		b.add(tomb(id, 2), loc(i%3, 50+i))
		b.add(live(id, 1), loc(i%2, 100+i))
	}
	b.kill("a")
	for seg := range 4 {
		b.gone(seg)
	}
	if n := len(b.x.places) + len(b.x.segs) + len(b.x.counts) + len(b.x.newest) + b.x.lives; n != 0 {
		t.Fatalf("%+v", b.x)
	}
}

// R3: beside a no the other answer is zero, whatever there was.
func TestNothing(t *testing.T) {
	b := start(t)
	b.add(live("a", 3), loc(1, 1))
	b.add(live("", 4), loc(1, 2))
	id, is := b.x.At(loc(1, 2))
	b.same("At", id, "")
	b.same("At", is, true)
	b.goes(2, 1)
	for _, at := range []api.Loc{loc(1, 1), loc(1, 2), loc(0, 0)} {
		id, is := b.x.At(at)
		b.same("At", id, "")
		b.same("At", is, false)
	}
	b.hasNot("a")
	b.hasNot("")
	if l := b.x.IDs(); len(l) != 0 {
		t.Fatal(l)
	}
}

// R4: the ids that are told are their caller's alone, and so is the room behind them.
func TestOwnMemory(t *testing.T) {
	for n := range 20 {
		x := New()
		var want []string
		for i := range n {
			id := string(rune('a' + i))
			x.Add(live(id, 1), loc(0, i))
			want = append(want, id)
		}
		first, second := x.IDs(), x.IDs()
		for i := range first[:cap(first)] {
			first[:cap(first)][i] = "other"
		}
		first = append(first, "more")
		x.Add(live("z", 1), loc(1, 0))
		if !slices.Equal(second, want) || !slices.Equal(x.IDs(), append(want, "z")) {
			t.Fatalf("%q, %q behind %q", second, x.IDs(), first)
		}
	}
}

// R4: an entry that was told goes its own way.
func TestEntryIsACopy(t *testing.T) {
	b := start(t)
	b.add(live("a", 3), loc(1, 1))
	e, _ := b.x.Newest("a")
	kept := e
	e.Ver, e.Live, e.Size, e.At = 9, false, 1, loc(5, 5)
	b.held()
	b.kill("a")
	b.add(live("a", 4), loc(1, 2))
	b.same("the entry", kept, Entry{Ver: 3, Deadline: 10, Live: true, Size: 35, At: loc(1, 1)})
	b.same("the other", e.Ver, uint64(9))
}

// answers are all that an index tells in a seeded course.
func answers(seed int64) []string {
	random := rand.New(rand.NewSource(seed))
	x := New()
	var l []string
	tell := func(what ...any) { l = append(l, fmt.Sprintf("%q", what)) }
	for range 600 {
		id := anyOf(random, someIDs)
		at := loc(random.Intn(8), random.Intn(40))
		switch random.Intn(12) {
		case 0:
			tell(x.Gone(at.Seg))
		case 1:
			tell(x.Kill(id))
		default:
			r := live(id, uint64(random.Intn(20)))
			r.Kind = 1 + random.Intn(3)
			tell(x.Add(r, at))
		}
		e, is := x.Newest(id)
		tell(e, is, x.Others(id, at.Seg), x.Lives())
		id, is = x.At(at)
		tell(id, is)
		newest, lives, size := x.In(at.Seg)
		tell(newest, lives, size, x.IDs())
	}
	return l
}

// R5: the same course has the same answers, and what is asked twice is answered twice.
func TestSameAnswers(t *testing.T) {
	for seed := range int64(5) {
		first := answers(seed)
		for range 10 {
			if !slices.Equal(answers(seed), first) {
				t.Fatal("another answer to the same course")
			}
		}
	}
	b := start(t)
	for i, id := range someIDs {
		b.add(live(id, uint64(i%3)), loc(i%5, i))
	}
	for range 100 {
		b.held()
	}
}
