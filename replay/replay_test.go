package replay

import (
	"fmt"
	"math"
	"math/rand"
	"slices"
	"strings"
	"testing"

	"lodger/record"
)

const most = math.MaxUint64

func live(id string, ver, deadline uint64) record.Record {
	return record.Record{LSN: 1 + ver, Epoch: 1, Kind: record.Live, Ver: ver, Deadline: deadline, ID: id, Value: "value of " + id}
}

func tomb(id string, ver uint64) record.Record {
	return record.Record{LSN: 1 + ver, Epoch: 1, Kind: record.Tomb, Ver: ver, ID: id}
}

// foot has a version and texts, too, though such a one may not be: a list may have it.
func foot(id string, ver uint64) record.Record {
	return record.Record{LSN: 1 + ver, Epoch: 1, Kind: record.Foot, Ver: ver, Deadline: most, ID: id, Value: "foot"}
}

// marked is the list with places as LSNs: no two of its records are the same.
func marked(l ...record.Record) []record.Record {
	l = slices.Clone(l)
	for i := range l {
		l[i].LSN = uint64(i)
	}
	return l
}

// before goes by bytes, one by one; an end is ahead of all of them.
func before(a, b string) bool {
	for i := 0; i < len(a) && i < len(b); i++ {
		if a[i] != b[i] {
			return a[i] < b[i]
		}
	}
	return len(a) < len(b)
}

// isNewest holds the record at i against each other one, as the chapter's words tell it.
func isNewest(l []record.Record, i int) bool {
	ofOne := func(r record.Record) bool {
		return (r.Kind == record.Live || r.Kind == record.Tomb) && r.ID == l[i].ID
	}
	if !ofOne(l[i]) {
		return false
	}
	for j, r := range l {
		if ofOne(r) && (r.Ver > l[i].Ver || r.Ver == l[i].Ver && j > i) {
			return false
		}
	}
	return true
}

func modelNewest(l []record.Record) []record.Record {
	var newest []record.Record
	for i, r := range l {
		if !isNewest(l, i) {
			continue
		}
		at := 0
		for at < len(newest) && before(newest[at].ID, r.ID) {
			at++
		}
		newest = slices.Insert(newest, at, r)
	}
	return newest
}

func modelSessions(l []record.Record, now uint64) []Session {
	var sessions []Session
	for _, r := range modelNewest(l) {
		if r.Kind == record.Tomb || r.Deadline <= now {
			continue
		}
		sessions = append(sessions, Session{r.ID, r.Value, r.Deadline})
	}
	return sessions
}

func modelUpto(l []record.Record, ver uint64) []record.Record {
	return slices.DeleteFunc(slices.Clone(l), func(r record.Record) bool { return r.Ver > ver })
}

// edges are the numbers of a list's records, those next to them, and the ends.
func edges(l []record.Record, number func(r record.Record) uint64) []uint64 {
	all := []uint64{0, 1, 1<<63 - 1, 1 << 63, most - 1, most}
	for _, r := range l {
		n := number(r)
		all = append(all, n-1, n, n+1)
	}
	slices.Sort(all)
	return slices.Compact(all)
}

func versions(l []record.Record) []uint64 {
	return edges(l, func(r record.Record) uint64 { return r.Ver })
}

func times(l []record.Record) []uint64 {
	return edges(l, func(r record.Record) uint64 { return r.Deadline })
}

// is asks for what is told, in order.
func is[T comparable](t *testing.T, got, want []T, what ...any) {
	t.Helper()
	if !slices.Equal(got, want) {
		t.Fatalf("%#v:\n%#v, want\n%#v", what, got, want)
	}
}

// held holds all that is told of a list against the model, at each time and version at which it may change.
func held(t *testing.T, l []record.Record) {
	t.Helper()
	is(t, Newest(l), modelNewest(l), "Newest", l)
	for _, now := range times(l) {
		is(t, Sessions(l, now), modelSessions(l, now), "Sessions", l, now)
	}
	for _, ver := range versions(l) {
		is(t, Upto(l, ver), modelUpto(l, ver), "Upto", l, ver)
	}
}

// tells asks for the newest ones by their places in the list.
func tells(t *testing.T, l []record.Record, places ...int) {
	t.Helper()
	l = marked(l...)
	var want []record.Record
	for _, place := range places {
		want = append(want, l[place])
	}
	is(t, Newest(l), want, "Newest", l)
	held(t, l)
}

// living asks for the ids that live at a time.
func living(t *testing.T, l []record.Record, now uint64, ids ...string) {
	t.Helper()
	var got []string
	for _, s := range Sessions(l, now) {
		got = append(got, s.ID)
	}
	is(t, got, ids, "what lives", l, now)
	held(t, l)
}

// someIDs are empty, beginnings of each other, with bytes above 127, and such as check lets through; rising.
var someIDs = []string{"", "\x00", "\x00\x00", "\x00a", "-", "0", "9", "A", "a", "a\x00", "aa", "aaa", "ab", "abcdefghijklmnop", "abcdefghijklmnopq", "a\x7f", "a\x80", "a\xff", "b", "ba", "z", "\x7f", "\x80", "\xc3", "é", "é\x00", "ü", "日", "\xff", "\xff\x00", "\xff\xff"}

var someNumbers = []uint64{0, 0, 1, 1, 2, 2, 3, 3, 255, 256, 1<<32 - 1, 1 << 32, 1<<63 - 1, 1 << 63, most - 1, most}

// otherKinds are neither a Live one's nor a Tomb's; many look like one's, cut to fewer bits.
var otherKinds = []int{0, record.Foot, record.Kinds, 5, 9, -1, -2, -3, 255, 256, 257, 258, 1<<16 + 1, 1<<32 + 1, 1<<32 + 2, math.MinInt, math.MinInt + 1, math.MinInt + 2, math.MaxInt}

func anyOf[T any](random *rand.Rand, l []T) T { return l[random.Intn(len(l))] }

// anyList has few ids, so that many records are of the same one; most are Live or Tombs.
func anyList(random *rand.Rand, n int) []record.Record {
	ids := make([]string, 1+random.Intn(6))
	for i := range ids {
		ids[i] = anyOf(random, someIDs)
	}
	l := make([]record.Record, n)
	for i := range l {
		kind := 1 + random.Intn(2)
		if random.Intn(6) == 0 {
			kind = anyOf(random, otherKinds)
		}
		l[i] = record.Record{LSN: uint64(random.Intn(20)), Epoch: uint32(random.Intn(4)), Kind: kind, Ver: anyOf(random, someNumbers), Deadline: anyOf(random, someNumbers), ID: anyOf(random, ids), Value: fmt.Sprint("v", i)}
	}
	return l
}

// someLists are of each size, some of them with ties; the same each time.
func someLists() [][]record.Record {
	random := rand.New(rand.NewSource(11))
	lists := [][]record.Record{nil, {}}
	for n := range 14 {
		for range 30 {
			lists = append(lists, anyList(random, n))
		}
	}
	return append(lists, anyList(random, 100))
}

// withoutTies is a list in which no two Live ones or Tombs of an id have the same version.
func withoutTies(l []record.Record) []record.Record {
	type key struct {
		id  string
		ver uint64
	}
	seen := map[key]bool{}
	return slices.DeleteFunc(slices.Clone(l), func(r record.Record) bool {
		k := key{r.ID, r.Ver}
		had := seen[k]
		seen[k] = true
		return had
	})
}

// P11.1, P11.2: of an empty list, and of none, nothing is told.
func TestEmpty(t *testing.T) {
	for _, l := range [][]record.Record{nil, {}, make([]record.Record, 0, 5)} {
		for _, n := range []uint64{0, 1, 1 << 63, most} {
			if newest, sessions, upto := Newest(l), Sessions(l, n), Upto(l, n); len(newest)+len(sessions)+len(upto) != 0 {
				t.Errorf("at %d: %v, %v, %v", n, newest, sessions, upto)
			}
		}
	}
}

// P11.1, P11.2: a list of one record, of each kind, with texts and without.
func TestOne(t *testing.T) {
	for _, id := range someIDs {
		for _, value := range []string{"", "v", strings.Repeat("\xff", 64), strings.Repeat("v", 100)} {
			for _, kind := range append([]int{record.Live, record.Tomb}, otherKinds...) {
				r := record.Record{LSN: 5, Epoch: 6, Kind: kind, Ver: 7, Deadline: 8, ID: id, Value: value}
				l := []record.Record{r}
				var newest []record.Record
				var sessions []Session
				if kind == record.Live || kind == record.Tomb {
					newest = l
				}
				if kind == record.Live {
					sessions = []Session{{id, value, 8}}
				}
				is(t, Newest(l), newest, "Newest", l)
				is(t, Sessions(l, 7), sessions, "Sessions", l)
				is(t, Sessions(l, 8), nil, "Sessions", l)
				is(t, Upto(l, 6), nil, "Upto", l)
				is(t, Upto(l, 7), l, "Upto", l)
				held(t, l)
			}
		}
	}
}

// P11.1: a zero record tells nothing; the least Live one and the least Tomb do.
func TestZeros(t *testing.T) {
	tells(t, []record.Record{{}})
	tells(t, []record.Record{{Kind: record.Live}}, 0)
	tells(t, []record.Record{{Kind: record.Tomb}}, 0)
	tells(t, []record.Record{{Kind: record.Live}, {Kind: record.Tomb}}, 1)
	tells(t, []record.Record{{Kind: record.Tomb}, {Kind: record.Live}, {}}, 1)
	living(t, []record.Record{{Kind: record.Live, Deadline: 1}}, 0, "")
	living(t, []record.Record{{Kind: record.Live}}, 0)
}

// P11.1: of an id the greatest version counts, whatever the order; of several of it the last one.
func TestVersions(t *testing.T) {
	a := func(vers ...uint64) []record.Record {
		var l []record.Record
		for _, ver := range vers {
			l = append(l, live("a", ver, 9))
		}
		return l
	}
	tells(t, a(1, 2, 3), 2)
	tells(t, a(3, 2, 1), 0)
	tells(t, a(1, 3, 2), 1)
	tells(t, a(2, 2, 2), 2)
	tells(t, a(3, 3, 2), 1)
	tells(t, a(3, 2, 3), 2)
	tells(t, a(3, 2, 3, 1), 2)
	tells(t, a(2, 3, 3, 2, 3, 2), 4)
	tells(t, a(0, 0), 1)
	tells(t, a(0, 1, 0), 1)
	tells(t, a(most, 0), 0)
	tells(t, a(most, most-1), 0)
	tells(t, a(most, most), 1)
	tells(t, a(1<<63, 1<<63-1), 0)
	tells(t, a(1<<32, 1<<32-1, 1), 0)
	tells(t, a(256, 255, 1), 0)
}

// P11.1: versions of other ids make no difference, nor do LSNs, epochs and deadlines.
func TestOtherFields(t *testing.T) {
	tells(t, []record.Record{live("a", 1, 9), live("b", 5, 9), live("a", 2, 9), live("b", 4, 9)}, 2, 1)
	tells(t, []record.Record{live("b", 5, 9), live("a", 1, 9), live("c", 3, 9)}, 1, 0, 2)
	early, late := live("a", 2, 1), live("a", 1, most)
	early.LSN, late.LSN = 1, most
	early.Epoch, late.Epoch = 0, math.MaxUint32
	early.Value, late.Value = "", "zzz"
	for _, l := range [][]record.Record{{early, late}, {late, early}} {
		is(t, Newest(l), []record.Record{early}, "the newest")
		is(t, Sessions(l, 0), []Session{{"a", "", 1}}, "what lives")
		living(t, l, 1)
	}
}

// P11.1: each field of the newest record is told as it is, also of one that may not be.
func TestWhole(t *testing.T) {
	l := []record.Record{
		{LSN: most, Epoch: math.MaxUint32, Kind: record.Tomb, Ver: most, Deadline: most, ID: "A_", Value: "a Tomb with a value"},
		{Kind: record.Live, ID: "", Value: strings.Repeat("\xff\x00", 500)},
		{LSN: 1 << 63, Epoch: 1 << 31, Kind: record.Live, Ver: 1 << 63, Deadline: 1 << 63, ID: strings.Repeat("a", 300), Value: ""},
	}
	is(t, Newest(l), []record.Record{l[1], l[0], l[2]}, "the newest")
	is(t, Sessions(l, 1<<63-1), []Session{{ID: l[2].ID, Deadline: 1 << 63}}, "what lives")
	is(t, Upto(l, most), l, "what there is")
	held(t, l)
}

// P11.1, P11.2: a Tomb that is the newest ends a session; one that is not does not.
func TestTombs(t *testing.T) {
	for _, x := range []struct {
		l      []record.Record
		newest int
		lives  bool
	}{
		{[]record.Record{live("a", 1, 9), tomb("a", 2)}, 1, false},
		{[]record.Record{tomb("a", 2), live("a", 1, 9)}, 0, false},
		{[]record.Record{tomb("a", 1), live("a", 2, 9)}, 1, true},
		{[]record.Record{live("a", 2, 9), tomb("a", 1)}, 0, true},
		{[]record.Record{live("a", 2, 9), tomb("a", 2)}, 1, false},
		{[]record.Record{tomb("a", 2), live("a", 2, 9)}, 1, true},
		{[]record.Record{live("a", 2, 9), tomb("a", 2), live("a", 2, 9)}, 2, true},
		{[]record.Record{live("a", 1, 9), tomb("a", 2), live("a", 3, 9)}, 2, true},
		{[]record.Record{live("a", 1, 9), tomb("a", 3), live("a", 2, 9)}, 1, false},
		{[]record.Record{tomb("a", 0), live("a", 0, 9)}, 1, true},
		{[]record.Record{tomb("a", most), live("a", most-1, 9)}, 0, false},
		{[]record.Record{tomb("a", 4), tomb("a", 5)}, 1, false},
	} {
		var ids []string
		if x.lives {
			ids = []string{"a"}
		}
		tells(t, x.l, x.newest)
		living(t, x.l, 8, ids...)
		living(t, append(x.l, live("b", 0, 9)), 8, append(ids, "b")...)
	}
}

// P11.2: a Tomb does not live, though it may have a deadline and a value.
func TestTombWithDeadline(t *testing.T) {
	r := tomb("a", 2)
	r.Deadline, r.Value = most, "v"
	living(t, []record.Record{r}, 0)
	living(t, []record.Record{live("a", 1, most), r}, 0)
	living(t, []record.Record{live("a", 3, 9), r}, 0, "a")
}

// P11.1, P11.2: Feet, and what is of no kind, tell nothing of an id, whatever their versions.
func TestOtherKinds(t *testing.T) {
	for _, kind := range otherKinds {
		for _, ver := range []uint64{0, 1, 2, 3, most} {
			r := record.Record{LSN: 9, Epoch: 9, Kind: kind, Ver: ver, Deadline: most, ID: "a", Value: "other"}
			alone := r
			alone.ID = "b"
			tells(t, []record.Record{live("a", 2, 9), r}, 0)
			tells(t, []record.Record{r, live("a", 2, 9), r}, 1)
			tells(t, []record.Record{r, tomb("a", 2), alone, r}, 1)
			tells(t, []record.Record{tomb("a", 3), r, live("a", 2, 9), alone}, 0)
			tells(t, []record.Record{alone, r})
			living(t, []record.Record{live("a", 2, 9), r, alone}, 8, "a")
			living(t, []record.Record{tomb("a", 2), r, alone}, 0)
			living(t, []record.Record{r, alone}, 0)
		}
	}
}

// P11.1, P11.2: ids are told once, rising, by their bytes.
func TestIDs(t *testing.T) {
	var l []record.Record
	for i, id := range someIDs {
		l = append(l, live(id, uint64(i%3), most))
	}
	random := rand.New(rand.NewSource(1))
	for i := range 200 {
		given := slices.Clone(l)
		switch i {
		case 0:
		case 1:
			slices.Reverse(given)
		default:
			random.Shuffle(len(given), func(i, j int) { given[i], given[j] = given[j], given[i] })
		}
		is(t, Newest(given), l, "the newest")
		living(t, given, 0, someIDs...)
		twice := append(slices.Clone(given), given...)
		is(t, Newest(twice), l, "the newest")
		living(t, twice, 0, someIDs...)
	}
}

// P11.1: ids that are alike, but not the same, are each its own.
func TestAlike(t *testing.T) {
	for _, a := range someIDs {
		for _, b := range someIDs {
			if a == b {
				tells(t, []record.Record{live(a, 2, 9), tomb(b, 1)}, 0)
				continue
			}
			places := []int{0, 1}
			if before(b, a) {
				places = []int{1, 0}
			}
			tells(t, []record.Record{live(a, 2, 9), tomb(b, 1)}, places...)
			living(t, []record.Record{live(a, 2, 9), tomb(b, 3)}, 8, a)
		}
	}
}

// P11.2: a session lives up to its deadline, and not at it.
func TestDeadlines(t *testing.T) {
	for _, deadline := range []uint64{0, 1, 2, 255, 256, 1 << 32, 1<<63 - 1, 1 << 63, 1<<63 + 1, most - 1, most} {
		l := []record.Record{live("a", 1, deadline)}
		if deadline > 0 {
			living(t, l, deadline-1, "a")
			living(t, l, 0, "a")
		}
		living(t, l, deadline)
		if deadline < most {
			living(t, l, deadline+1)
		}
		living(t, l, most)
	}
	l := []record.Record{live("d", 1, most), live("c", 1, 7), live("b", 1, 6), live("a", 1, 5), live("0", 1, 0)}
	living(t, l, 0, "a", "b", "c", "d")
	living(t, l, 4, "a", "b", "c", "d")
	living(t, l, 5, "b", "c", "d")
	living(t, l, 6, "c", "d")
	living(t, l, 7, "d")
	living(t, l, most-1, "d")
	living(t, l, most)
}

// P11.2: the newest record's deadline and value count, not those of an older one.
func TestNewestCounts(t *testing.T) {
	old, young := live("a", 1, 50), live("a", 2, 10)
	old.Value, young.Value = "old", "young"
	for _, l := range [][]record.Record{{old, young}, {young, old}} {
		is(t, Sessions(l, 9), []Session{{"a", "young", 10}}, "what lives at 9")
		living(t, l, 10)
		living(t, l, 49)
	}
	young.Deadline = 60
	for _, l := range [][]record.Record{{old, young}, {young, old}} {
		is(t, Sessions(l, 9), []Session{{"a", "young", 60}}, "what lives at 9")
		is(t, Sessions(l, 55), []Session{{"a", "young", 60}}, "what lives at 55")
	}
	old.Ver = 2
	is(t, Sessions([]record.Record{old, young}, 9), []Session{{"a", "young", 60}}, "what lives")
	is(t, Sessions([]record.Record{young, old}, 9), []Session{{"a", "old", 50}}, "what lives")
	young.Deadline = 0
	living(t, []record.Record{old, young}, 0)
	living(t, []record.Record{young, old}, 0, "a")
}

// P11.2: records of each kind are told up to a version, in order, as they are.
func TestUpto(t *testing.T) {
	l := []record.Record{live("a", 3, 1), foot("", 0), tomb("b", 1), foot("f", 2), live("a", 2, 9), {Kind: 9, Ver: 3}, {}, tomb("a", 1), live("a", 3, 0), foot("", 4), live("c", most, 0)}
	for _, x := range []struct {
		ver    uint64
		places []int
	}{
		{0, []int{1, 6}},
		{1, []int{1, 2, 6, 7}},
		{2, []int{1, 2, 3, 4, 6, 7}},
		{3, []int{0, 1, 2, 3, 4, 5, 6, 7, 8}},
		{4, []int{0, 1, 2, 3, 4, 5, 6, 7, 8, 9}},
		{5, []int{0, 1, 2, 3, 4, 5, 6, 7, 8, 9}},
		{most - 1, []int{0, 1, 2, 3, 4, 5, 6, 7, 8, 9}},
		{most, []int{0, 1, 2, 3, 4, 5, 6, 7, 8, 9, 10}},
	} {
		var want []record.Record
		for _, place := range x.places {
			want = append(want, l[place])
		}
		is(t, Upto(l, x.ver), want, "Upto", x.ver)
	}
	held(t, l)
}

// P11.2: a version at ver, and just above it; the ends.
func TestUptoEdges(t *testing.T) {
	for _, n := range []uint64{0, 1, 255, 256, 1 << 32, 1<<63 - 1, 1 << 63, most - 1, most} {
		for _, r := range []record.Record{live("a", n, 0), tomb("a", n), foot("", n), {Kind: -1, Ver: n}} {
			l := []record.Record{r, r}
			is(t, Upto(l, n), l, "what there is at it")
			if n > 0 {
				is(t, Upto(l, n-1), nil, "what there is below it")
				is(t, Upto(l, 0), nil, "what there is at 0")
			}
			if n < most {
				is(t, Upto(l, n+1), l, "what there is above it")
			}
			is(t, Upto(l, most), l, "what there is at all")
		}
	}
}

// P11.1, P11.2: all short lists of some records, one of each kind and tie among them.
func TestShortLists(t *testing.T) {
	some := []record.Record{live("a", 1, 5), live("a", 1, 3), tomb("a", 1), live("a", 2, 4), tomb("a", 2), live("b", 1, 5), tomb("b", 0), foot("a", 2)}
	var goOn func(l []record.Record, left int)
	goOn = func(l []record.Record, left int) {
		held(t, l)
		if left == 0 {
			return
		}
		for _, r := range some {
			r.LSN = uint64(len(l))
			goOn(append(slices.Clone(l), r), left-1)
		}
	}
	goOn(nil, 4)
}

// P11.1, P11.2: any lists.
func TestAny(t *testing.T) {
	for _, l := range someLists() {
		held(t, l)
	}
	random := rand.New(rand.NewSource(12))
	for range 2000 {
		held(t, anyList(random, random.Intn(20)))
	}
}

// P11.1, P11.2: many ids, and many records of each.
func TestMany(t *testing.T) {
	random := rand.New(rand.NewSource(13))
	const ids, vers = 2000, 20
	var l, want []record.Record
	for i := range ids {
		id := fmt.Sprintf("id-%06d", i)
		for ver := range vers {
			l = append(l, live(id, uint64(ver), uint64(100+ver)))
		}
		want = append(want, l[len(l)-1])
	}
	random.Shuffle(len(l), func(i, j int) { l[i], l[j] = l[j], l[i] })
	is(t, Newest(l), want, "the newest")
	if n := len(Sessions(l, 100+vers-2)); n != ids {
		t.Errorf("%d live, want %d", n, ids)
	}
	if n := len(Sessions(l, 100+vers-1)); n != 0 {
		t.Errorf("%d live, want none", n)
	}
	if n := len(Upto(l, 4)); n != 5*ids {
		t.Errorf("%d up to version 4, want %d", n, 5*ids)
	}
}

// orders goes through all orders of a list.
func orders(l []record.Record, see func(l []record.Record)) {
	var from func(i int)
	from = func(i int) {
		if i >= len(l) {
			see(slices.Clone(l))
			return
		}
		for j := i; j < len(l); j++ {
			l[i], l[j] = l[j], l[i]
			from(i + 1)
			l[i], l[j] = l[j], l[i]
		}
	}
	l = slices.Clone(l)
	from(0)
}

// alike asks that two lists tell the same of sessions.
func alike(t *testing.T, l, other []record.Record) {
	t.Helper()
	is(t, Newest(other), Newest(l), "Newest", other)
	for _, now := range times(l) {
		is(t, Sessions(other, now), Sessions(l, now), "Sessions", other, now)
	}
}

// P11.3: without ties the order makes no difference.
func TestAnyOrder(t *testing.T) {
	for _, l := range [][]record.Record{
		{live("a", 1, 5), tomb("a", 2), live("b", 1, 6), live("a", 3, 7), foot("a", 3)},
		{live("a", 1, 5), tomb("a", 2), tomb("b", 1), live("b", 0, 9), live("", 0, 8), foot("b", 1)},
		{live("\xff", most, 5), tomb("\xff", 1<<63), live("\xff", 0, 9), tomb("\x80", 0), live("\x80", 1, most)},
	} {
		orders(l, func(other []record.Record) { alike(t, l, other) })
	}
	random := rand.New(rand.NewSource(14))
	for _, l := range someLists() {
		l = withoutTies(l)
		other := slices.Clone(l)
		slices.Reverse(other)
		alike(t, l, other)
		for range 5 {
			random.Shuffle(len(other), func(i, j int) { other[i], other[j] = other[j], other[i] })
			alike(t, l, other)
		}
	}
}

// P11.1: with ties it does: turned round a list's first one is its last.
func TestTurnedRound(t *testing.T) {
	l := marked(live("a", 2, 5), live("a", 2, 6), tomb("b", 1), live("b", 1, 7))
	is(t, Newest(l), []record.Record{l[1], l[3]}, "the newest")
	living(t, l, 0, "a", "b")
	slices.Reverse(l)
	is(t, Newest(l), []record.Record{l[3], l[1]}, "the newest of the list turned round")
	living(t, l, 0, "a")
}

// P11.3: a record that is not the newest of its id makes no difference; nor do all of them together.
func TestLeftOut(t *testing.T) {
	for _, l := range someLists() {
		alike(t, l, Newest(l))
		var all []record.Record
		for i, r := range l {
			if isNewest(l, i) {
				all = append(all, r)
				continue
			}
			alike(t, l, slices.Delete(slices.Clone(l), i, i+1))
		}
		alike(t, l, all)
		if len(all) == 0 {
			continue
		}
		// All those of an id together do make one.
		ofOne := func(r record.Record) bool { return r.ID == all[0].ID }
		is(t, Newest(slices.DeleteFunc(slices.Clone(l), ofOne)), slices.DeleteFunc(Newest(l), ofOne), "the newest of the others")
	}
}

// P11.3: a record that is there twice makes no difference: next to itself, and without ties anywhere.
func TestTwice(t *testing.T) {
	for _, l := range someLists() {
		for i, r := range l {
			alike(t, l, slices.Insert(slices.Clone(l), i, r))
		}
		single := withoutTies(l)
		alike(t, single, append(slices.Clone(single), single...))
		for _, r := range single[:min(len(single), 10)] {
			for i := range len(single) + 1 {
				alike(t, single, slices.Insert(slices.Clone(single), i, r))
			}
		}
	}
	same := live("a", 1, 9)
	is(t, Newest([]record.Record{same, same}), []record.Record{same}, "the newest of the same one twice")
	living(t, []record.Record{same, same}, 8, "a")
	is(t, Upto([]record.Record{same, same}, 1), []record.Record{same, same}, "what there is, twice")
}

// P11.3: what does not live at a time does not live later; what lives later has lived all the while, as the same.
func TestNoneComesBack(t *testing.T) {
	for _, l := range someLists() {
		earlier := Sessions(l, 0)
		for _, now := range times(l) {
			later := Sessions(l, now)
			for _, s := range later {
				if !slices.Contains(earlier, s) {
					t.Fatalf("of %v %v lives at %d, but not at a time before", l, s, now)
				}
			}
			earlier = later
		}
		is(t, earlier, nil, "what lives at the end of time")
	}
}

// P11.2: what is up to a version is so up to a greater one; of two versions the lesser one counts.
func TestUptoTwice(t *testing.T) {
	for _, l := range someLists() {
		for _, a := range someNumbers {
			for _, b := range someNumbers {
				is(t, Upto(Upto(l, a), b), Upto(l, min(a, b)), "up to both")
			}
		}
	}
}

// withRoom is the list with room behind it, which is marked, too.
func withRoom(l []record.Record) []record.Record {
	all := append(slices.Clone(l), foot("room", 1), live("room", 2, most), tomb("room", 3))
	return all[:len(l)]
}

// whole is a list's copy, with the room behind it.
func whole[T any](l []T) []T { return slices.Clone(l[:cap(l)]) }

// spoil writes over a list and the room behind it.
func spoil[T any](l []T, with T) {
	for i := range l[:cap(l)] {
		l[:cap(l)][i] = with
	}
}

var spoilt = live("spoilt", most, most)

// R4: a list that is handed in stays as it was, the room behind it too.
func TestArgumentsStay(t *testing.T) {
	for _, l := range someLists() {
		given := withRoom(l)
		was := whole(given)
		Newest(given)
		is(t, given[:cap(given)], was, "the list behind Newest")
		for _, n := range someNumbers {
			Sessions(given, n)
			is(t, given[:cap(given)], was, "the list behind Sessions")
			Upto(given, n)
			is(t, given[:cap(given)], was, "the list behind Upto")
		}
	}
}

// R4: what is told is new memory: a write to the list that was handed in is not seen in it.
func TestAnswersStay(t *testing.T) {
	for _, l := range someLists() {
		for _, n := range someNumbers {
			given := withRoom(l)
			newest, sessions, upto := Newest(given), Sessions(given, n), Upto(given, n)
			room, sessionRoom, uptoRoom := whole(newest), whole(sessions), whole(upto)
			spoil(given, spoilt)
			is(t, newest[:cap(newest)], room, "Newest behind a write to the list")
			is(t, sessions[:cap(sessions)], sessionRoom, "Sessions behind a write to the list")
			is(t, upto[:cap(upto)], uptoRoom, "Upto behind a write to the list")
			is(t, newest, modelNewest(l), "Newest")
			is(t, sessions, modelSessions(l, n), "Sessions")
			is(t, upto, modelUpto(l, n), "Upto")
		}
	}
}

// R4: a write to an answer is seen neither in the list that was handed in, nor in another answer, nor in a later one.
func TestAnswersAreNew(t *testing.T) {
	for _, l := range someLists() {
		for _, n := range someNumbers {
			given := withRoom(l)
			was := whole(given)
			newest, sessions, upto := Newest(given), Sessions(given, n), Upto(given, n)
			room, sessionRoom, uptoRoom := whole(newest), whole(sessions), whole(upto)
			spoil(Newest(given), spoilt)
			spoil(Sessions(given, n), Session{"spoilt", "spoilt", most})
			spoil(Upto(given, n), spoilt)
			is(t, given[:cap(given)], was, "the list behind a write to an answer")
			is(t, newest[:cap(newest)], room, "Newest behind a write to another answer")
			is(t, sessions[:cap(sessions)], sessionRoom, "Sessions behind a write to another answer")
			is(t, upto[:cap(upto)], uptoRoom, "Upto behind a write to another answer")
			is(t, Newest(given), newest, "Newest again")
			is(t, Sessions(given, n), sessions, "Sessions again")
			is(t, Upto(given, n), upto, "Upto again")
		}
	}
}

// R5: the same question has the same answer, whatever was asked between.
func TestOneAnswer(t *testing.T) {
	lists := someLists()
	l := anyList(rand.New(rand.NewSource(15)), 60)
	for i, id := range someIDs {
		l = append(l, live(id, uint64(i%4), uint64(i)))
	}
	newest, sessions, upto := Newest(l), Sessions(l, 3), Upto(l, 3)
	for i := range 300 {
		other := lists[i%len(lists)]
		Newest(other)
		Sessions(other, most)
		Upto(other, 1)
		is(t, Newest(slices.Clone(l)), newest, "Newest again")
		is(t, Sessions(slices.Clone(l), 3), sessions, "Sessions again")
		is(t, Upto(slices.Clone(l), 3), upto, "Upto again")
	}
}

// The chapter's example.
func TestExample(t *testing.T) {
	l := []record.Record{live("a", 1, 9), tomb("a", 2), live("b", 1, 9), live("a", 3, 9)}
	is(t, Newest(l), []record.Record{l[3], l[2]}, "the newest")
	living(t, l, 8, "a", "b")
	living(t, Upto(l, 2), 8, "b")
	living(t, Upto(l, 1), 8, "a", "b")
}
