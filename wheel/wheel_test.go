package wheel

import (
	"fmt"
	"math"
	"math/rand"
	"slices"
	"strconv"
	"strings"
	"testing"
)

const most = math.MaxUint64

// place goes by the digits as they are written, all 16 of them.
func place(now, deadline uint64) (int, int) {
	written := func(time uint64) string {
		s := strconv.FormatUint(time, 16)
		return strings.Repeat("0", 16-len(s)) + s
	}
	a, b := written(now), written(deadline)
	value := func(c byte) int { return strings.IndexByte("0123456789abcdef", c) }
	if b <= a {
		return 0, value(a[15])
	}
	at := 0
	for a[at] == b[at] {
		at++
	}
	if at < 12 {
		return 4, 0
	}
	return 15 - at, value(b[at])
}

// model has its timers in one list, by rising deadlines and ids.
type model struct {
	now    uint64
	timers []Timer
}

// ahead goes by bytes, one by one; an end is ahead of all of them.
func ahead(a, b Timer) bool {
	if a.Deadline != b.Deadline {
		return a.Deadline < b.Deadline
	}
	for i := 0; i < len(a.ID) && i < len(b.ID); i++ {
		if a.ID[i] != b.ID[i] {
			return a.ID[i] < b.ID[i]
		}
	}
	return len(a.ID) < len(b.ID)
}

func (m *model) find(id string) int {
	for i, x := range m.timers {
		if x.ID == id {
			return i
		}
	}
	return -1
}

func (m *model) cancel(id string) bool {
	at := m.find(id)
	if at < 0 {
		return false
	}
	m.timers = slices.Delete(m.timers, at, at+1)
	return true
}

func (m *model) set(id string, deadline uint64) bool {
	was := m.cancel(id)
	x := Timer{id, deadline}
	at := 0
	for at < len(m.timers) && ahead(m.timers[at], x) {
		at++
	}
	m.timers = slices.Insert(m.timers, at, x)
	return was
}

func (m *model) advance(now uint64) []Timer {
	if now > m.now {
		m.now = now
	}
	n := 0
	for n < len(m.timers) && m.timers[n].Deadline <= m.now {
		n++
	}
	told := slices.Clone(m.timers[:n])
	m.timers = slices.Delete(m.timers, 0, n)
	return told
}

func (m *model) levels() [5]int {
	var counts [5]int
	for _, x := range m.timers {
		level, _ := place(m.now, x.Deadline)
		counts[level]++
	}
	return counts
}

// both are a wheel and a model of it, to which the same is done; done tells what was.
type both struct {
	t    *testing.T
	w    *Wheel
	m    model
	ids  map[string]bool
	done [][]any
}

func start(t *testing.T, now uint64) *both {
	b := &both{t: t, w: New(now), m: model{now: now}, ids: map[string]bool{"none": true, "": true}}
	b.did("New", now)
	b.held()
	return b
}

func (b *both) did(what ...any) {
	b.done = append(b.done, what)
}

func (b *both) same(what string, got, want any) {
	b.t.Helper()
	if got != want {
		b.t.Fatalf("%s is %v, want %v, behind\n%#v", what, got, want, b.done)
	}
}

// held asks for all that a wheel tells without a change.
func (b *both) held() {
	b.t.Helper()
	b.same("Now", b.w.Now(), b.m.now)
	b.same("Len", b.w.Len(), len(b.m.timers))
	b.same("Levels", b.w.Levels(), b.m.levels())
	for id := range b.ids {
		deadline, is := b.w.Find(id)
		at := b.m.find(id)
		b.same("Find's yes of "+id, is, at >= 0)
		if at >= 0 {
			b.same("Find of "+id, deadline, b.m.timers[at].Deadline)
		} else {
			b.same("Find of "+id, deadline, uint64(0))
		}
	}
}

func (b *both) set(id string, deadline uint64) bool {
	b.t.Helper()
	b.ids[id] = true
	b.did("Set", id, deadline)
	was := b.w.Set(id, deadline)
	b.same("Set", was, b.m.set(id, deadline))
	b.held()
	return was
}

func (b *both) cancel(id string) bool {
	b.t.Helper()
	b.ids[id] = true
	b.did("Cancel", id)
	was := b.w.Cancel(id)
	b.same("Cancel", was, b.m.cancel(id))
	b.held()
	return was
}

func (b *both) advance(now uint64) []Timer {
	b.t.Helper()
	b.did("Advance", now)
	told, want := b.w.Advance(now), b.m.advance(now)
	if !slices.Equal(told, want) {
		b.t.Fatalf("told %v, want %v, behind\n%#v", told, want, b.done)
	}
	b.held()
	return told
}

// tells asks for the ids that an Advance tells, in order.
func (b *both) tells(now uint64, ids ...string) {
	b.t.Helper()
	var got []string
	for _, x := range b.advance(now) {
		got = append(got, x.ID)
	}
	if !slices.Equal(got, ids) {
		b.t.Fatalf("told %q, want %q, behind\n%#v", got, ids, b.done)
	}
}

// someTimes are the ends, and those around each power of 16, its multiples, and the turns behind it.
func someTimes() []uint64 {
	times := []uint64{0, 1, 2, 7, 14, 1<<63 - 1, 1 << 63, 1<<63 + 1, most - 1<<16, most - 1<<16 + 1, most - 256, most - 16, most - 15, most - 1, most, 0x1234, 0x1235, 0x12345678, 0xf0f0, 0xffff0, 0x10ffff}
	for power := uint64(16); power > 0; power <<= 4 {
		for _, n := range []uint64{1, 2, 8, 15} {
			times = append(times, n*power-1, n*power, n*power+1)
		}
		times = append(times, power+power>>4, power+power>>4-1, power-power>>4, power+7)
	}
	slices.Sort(times)
	return slices.Compact(times)
}

// someIDs are empty, beginnings of each other, and with bytes above 127; rising.
var someIDs = []string{"", "\x00", "\x00\x00", "-", "0", "10", "9", "A", "B", "Z", "a", "a\x00", "aa", "aaa", "ab", "b", "ba", "z", "\x7f", "\x80", "\xc3", "é", "é\x00", "日", "\xff", "\xff\x00", "\xff\xff"}

func anyOf[T any](random *rand.Rand, l []T) T { return l[random.Intn(len(l))] }

// P12.1: the chapter's examples, and one of each level.
func TestPlaceExamples(t *testing.T) {
	for _, x := range []struct {
		now, deadline uint64
		level, slot   int
	}{
		{0, 5, 0, 5}, {0, 16, 1, 1}, {15, 16, 1, 1}, {0, 65536, 4, 0},
		{0, 0, 0, 0}, {5, 5, 0, 5}, {0x25, 0x24, 0, 5}, {0x25, 0, 0, 5}, {most, 0, 0, 15}, {most, most, 0, 15}, {most - 1, most, 0, 15}, {0x1f0, 0x1f, 0, 0},
		{0x20, 0x2f, 0, 15}, {0x2f, 0x30, 1, 3}, {0x2f, 0xff, 1, 15}, {0xff, 0x100, 2, 1}, {0x123, 0xfff, 2, 15}, {0xfff, 0x1000, 3, 1}, {0x1234, 0xf234, 3, 15},
		{0xffff, 0x10000, 4, 0}, {0x1ffff, 0x20000, 4, 0}, {0x10000, 0x1f000, 3, 15}, {0, 1 << 32, 4, 0}, {0, most, 4, 0}, {1 << 63, 1<<63 + 1, 0, 1}, {most - 0xffff, most, 3, 15}, {most - 0x10000, most, 4, 0},
	} {
		if level, slot := Place(x.now, x.deadline); level != x.level || slot != x.slot {
			t.Errorf("Place(%#x, %#x) is %d, %d, want %d, %d", x.now, x.deadline, level, slot, x.level, x.slot)
		}
	}
}

// P12.1: all pairs of small times, of edges, and of seeded ones, against digits that are written.
func TestPlace(t *testing.T) {
	ask := func(now, deadline uint64) {
		level, slot := Place(now, deadline)
		if wantLevel, wantSlot := place(now, deadline); level != wantLevel || slot != wantSlot {
			t.Fatalf("Place(%#x, %#x) is %d, %d, want %d, %d", now, deadline, level, slot, wantLevel, wantSlot)
		}
	}
	for now := range uint64(300) {
		for deadline := range uint64(600) {
			ask(now, deadline)
		}
	}
	times := someTimes()
	for _, now := range times {
		for _, deadline := range times {
			ask(now, deadline)
		}
	}
	random := rand.New(rand.NewSource(1))
	for range 100000 {
		now := random.Uint64() >> random.Intn(64)
		ask(now, now^random.Uint64()>>random.Intn(64))
	}
}

// P12.2: a new wheel has its time, and no timer.
func TestNew(t *testing.T) {
	for _, now := range someTimes() {
		b := start(t, now)
		b.same("Now", b.w.Now(), now)
		b.same("Len", b.w.Len(), 0)
		b.same("Levels", b.w.Levels(), [5]int{})
		for _, id := range someIDs {
			if b.cancel(id) {
				t.Fatalf("%q cancelled", id)
			}
		}
		b.tells(0)
		b.tells(now)
		b.tells(most)
		b.same("Now", b.w.Now(), uint64(most))
	}
}

// P12.2: one timer is set, found, and cancelled, once, at each time and deadline; the next Advance tells nothing of it.
func TestOne(t *testing.T) {
	times := someTimes()
	for _, now := range times {
		for _, deadline := range times {
			w := New(now)
			was := w.Set("a", deadline)
			found, is := w.Find("a")
			level, _ := place(now, deadline)
			if was || found != deadline || !is || w.Len() != 1 || w.Levels()[level] != 1 || w.Now() != now {
				t.Fatalf("Set at %#x to %#x: %v, %#x, %v, %d, %v", now, deadline, was, found, is, w.Len(), w.Levels())
			}
			once, twice := w.Cancel("a"), w.Cancel("a")
			found, is = w.Find("a")
			if !once || twice || found != 0 || is || w.Len() != 0 || w.Levels() != [5]int{} || w.Now() != now {
				t.Fatalf("Cancel at %#x of %#x: %v, %v, %#x, %v, %d, %v", now, deadline, once, twice, found, is, w.Len(), w.Levels())
			}
			if told := w.Advance(most); len(told) != 0 {
				t.Fatalf("cancelled at %#x, and told: %v", now, told)
			}
		}
	}
}

// P12.2: a timer that is set anew, from each level to each, is told at its new deadline alone.
func TestSetAnew(t *testing.T) {
	deadlines := []uint64{0, 0x12344, 0x12345, 0x12346, 0x1234f, 0x12350, 0x1239a, 0x12400, 0x12f00, 0x13000, 0x1ffff, 0x20000, 0x20001, 1 << 40, most - 1, most}
	for _, first := range deadlines {
		for _, second := range deadlines {
			b := start(t, 0x12345)
			b.set("b", first) // others stand where the first one stood, and where the second one does
			b.same("Set", b.set("a", first), false)
			b.set("c", second)
			b.same("Set", b.set("a", second), true)
			b.same("Len", b.w.Len(), 3)
			for _, now := range deadlines {
				b.advance(now)
			}
			b.same("Len", b.w.Len(), 0)
			b.same("Set", b.set("a", first), false)
		}
	}
}

// P12.2: ids are told apart by all their bytes.
func TestIDs(t *testing.T) {
	for _, deadline := range []uint64{0, 3, 5, 100, 1 << 20} {
		b := start(t, 3)
		for i, id := range someIDs {
			b.same("Set", b.set(id, deadline), false)
			b.same("Len", b.w.Len(), i+1)
		}
		for i, id := range someIDs {
			b.same("Set", b.set(id, deadline+uint64(i%2)), true)
			b.same("Len", b.w.Len(), len(someIDs))
		}
		for i, id := range someIDs {
			if i%3 == 0 {
				b.same("Cancel", b.cancel(id), true)
			}
		}
		b.advance(deadline)
		b.advance(deadline + 1)
	}
}

// P12.2: what is due when it is set stays till the next Advance, also one that goes nowhere.
func TestDueWhenSet(t *testing.T) {
	for _, now := range []uint64{1, 15, 16, 0x12345, 1 << 63, most} {
		for _, next := range []uint64{0, now - 1, now} {
			b := start(t, now)
			b.set("now", now)
			b.set("past", now-1)
			b.set("first", 0)
			b.same("Levels", b.w.Levels(), [5]int{3})
			deadline, is := b.w.Find("past")
			b.same("Find", deadline, now-1)
			b.same("Find", is, true)
			b.tells(next, "first", "past", "now")
			b.same("Now", b.w.Now(), now)
			b.tells(next)
			b.set("past", now-1)
			b.cancel("past")
			b.tells(most)
		}
	}
}

// P12.3: time never goes back; what is due is told all the same.
func TestNoWayBack(t *testing.T) {
	b := start(t, 100)
	b.set("a", 99)
	b.set("b", 100)
	b.set("c", 101)
	b.tells(50, "a", "b")
	b.same("Now", b.w.Now(), uint64(100))
	b.tells(0)
	b.tells(101, "c")
	b.set("d", 101)
	b.tells(100, "d")
	b.same("Now", b.w.Now(), uint64(101))
	b.tells(1 << 40)
	b.tells(0x10000)
	b.same("Now", b.w.Now(), uint64(1<<40))
	b.set("e", 0x10000)
	b.set("f", 1<<40+1)
	b.tells(0x10001, "e")
	b.tells(1<<40+1, "f")
}

// P12.3: a timer comes at its deadline, not ahead of it, from each level and at each edge.
func TestDeadlines(t *testing.T) {
	times := someTimes()
	for _, now := range times {
		for _, deadline := range times {
			if deadline <= now {
				continue
			}
			b := start(t, now)
			b.set("a", deadline)
			b.tells(deadline - 1)
			b.tells(deadline, "a")
			b.tells(deadline)
			b.set("a", deadline)
			b.tells(most, "a")
			b = start(t, now)
			b.set("a", deadline)
			b.tells(deadline, "a")
			b.tells(most)
			b = start(t, now)
			b.set("a", deadline)
			b.tells(most, "a")
		}
	}
}

// P12.3: by rising deadlines, whatever the order in which they were set.
func TestOrderOfDeadlines(t *testing.T) {
	random := rand.New(rand.NewSource(2))
	times := someTimes()
	for range 100 {
		random.Shuffle(len(times), func(i, j int) { times[i], times[j] = times[j], times[i] })
		w := New(0)
		for i, deadline := range times {
			w.Set(fmt.Sprint(i), deadline)
		}
		l := w.Advance(most)
		if len(l) != len(times) || w.Len() != 0 || w.Levels() != [5]int{} {
			t.Fatalf("%d told, %d left", len(l), w.Len())
		}
		for i := range l[1:] {
			if l[i].Deadline >= l[i+1].Deadline {
				t.Fatalf("%v ahead of %v", l[i], l[i+1])
			}
		}
	}
}

// P12.3: of one deadline by rising ids, as bytes; a lower deadline comes ahead of a lower id.
func TestOrderOfIDs(t *testing.T) {
	random := rand.New(rand.NewSource(3))
	for _, deadline := range []uint64{0, 1, 15, 16, 300, 5000, 70000, 1 << 50, most - 1} {
		for range 20 {
			w := New(0)
			for _, i := range random.Perm(len(someIDs)) {
				w.Set(someIDs[i], deadline)
			}
			w.Set("\xff\xff\xff", 0)
			w.Set("\x00\x01", most)
			if deadline == 0 {
				w.Cancel("\xff\xff\xff")
			}
			l := w.Advance(deadline)
			if deadline > 0 {
				if l[0] != (Timer{"\xff\xff\xff", 0}) {
					t.Fatalf("%v is first", l[0])
				}
				l = l[1:]
			}
			for i, x := range l {
				if len(l) != len(someIDs) || x != (Timer{someIDs[i], deadline}) {
					t.Fatalf("%v at %d of %d", x, i, len(l))
				}
			}
			if w.Len() != 1 {
				t.Fatal(w.Len())
			}
		}
	}
}

// P12.4: timers of all levels, as the time goes on tick by tick, and past the end of all levels.
func TestLevels(t *testing.T) {
	b := start(t, 0xfff0)
	for _, deadline := range []uint64{0, 0xfff0, 0xfff1, 0xffff, 0x10000, 0x10001, 0x10010, 0x100ff, 0x10100, 0x10fff, 0x11000, 0x1ffff, 0x20000, most} {
		b.set(fmt.Sprintf("%x", deadline), deadline)
	}
	b.same("Levels", b.w.Levels(), [5]int{4, 0, 0, 0, 10})
	for now := uint64(0xfff0); now < 0x10120; now++ {
		b.advance(now)
	}
	b.same("Levels", b.w.Levels(), [5]int{0, 0, 1, 2, 2})
	b.advance(0x10f00)
	b.same("Levels", b.w.Levels(), [5]int{0, 1, 0, 2, 2})
	b.advance(0x10ff0)
	b.same("Levels", b.w.Levels(), [5]int{1, 0, 0, 2, 2})
	b.advance(0x10fff)
	b.same("Levels", b.w.Levels(), [5]int{0, 0, 0, 2, 2})
	b.advance(0x11001)
	b.same("Levels", b.w.Levels(), [5]int{0, 0, 0, 1, 2})
	b.advance(0x1fffe)
	b.same("Levels", b.w.Levels(), [5]int{1, 0, 0, 0, 2})
	b.advance(most - 0x10000)
	b.same("Levels", b.w.Levels(), [5]int{0, 0, 0, 0, 1})
	b.advance(most - 0xffff)
	b.same("Levels", b.w.Levels(), [5]int{0, 0, 0, 1, 0})
	b.advance(most - 1)
	b.same("Levels", b.w.Levels(), [5]int{1, 0, 0, 0, 0})
	b.tells(most, fmt.Sprintf("%x", uint64(most)))
}

// P12.4: from each time to each, with a timer at all of them.
func TestLevelsOfJumps(t *testing.T) {
	times := someTimes()
	for i := 0; i < len(times); i += 3 {
		for j := i; j < len(times); j += 2 {
			b := start(t, times[i])
			for _, deadline := range times {
				id := fmt.Sprint(deadline)
				b.w.Set(id, deadline)
				b.m.set(id, deadline)
			}
			b.held()
			b.advance(times[j])
			b.advance(most)
		}
	}
}

// P12.5: in many steps, some of which go nowhere or back, the same is told as in one.
func TestSteps(t *testing.T) {
	random := rand.New(rand.NewSource(4))
	for round := range 300 {
		now := random.Uint64() >> random.Intn(64)
		one, many := New(now), New(now)
		var deadlines []uint64
		for i := range random.Intn(60) {
			deadline := now ^ random.Uint64()>>random.Intn(64)
			one.Set(fmt.Sprint(i), deadline)
			many.Set(fmt.Sprint(i), deadline)
			deadlines = append(deadlines, deadline)
		}
		steps := append(slices.Clone(deadlines), now, now+1)
		for range 30 {
			steps = append(steps, now+random.Uint64()>>random.Intn(64))
		}
		slices.Sort(steps)
		var l []Timer
		for _, step := range steps {
			l = append(l, many.Advance(step)...)
			if random.Intn(4) == 0 {
				l = append(l, many.Advance(anyOf(random, steps[:1]))...)
			}
		}
		want := one.Advance(steps[len(steps)-1])
		if !slices.Equal(l, want) || len(l) != len(deadlines) || many.Levels() != one.Levels() || many.Now() != one.Now() {
			t.Fatalf("round %d: many steps %v, one %v", round, l, want)
		}
	}
}

// P12.5: tick by tick over the turns of all levels, each timer is told at its deadline.
func TestTicks(t *testing.T) {
	random := rand.New(rand.NewSource(5))
	w := New(0xfe00)
	at := map[string]uint64{}
	for i := range 3000 {
		deadline := 0xfe00 + uint64(random.Intn(0x11400))
		at[fmt.Sprint(i)] = deadline
		w.Set(fmt.Sprint(i), deadline)
	}
	for now := uint64(0xfe00); now < 0xfe00+0x11400; now++ {
		for _, x := range w.Advance(now) {
			if x.Deadline != now || at[x.ID] != now {
				t.Fatalf("%v told at %#x", x, now)
			}
			delete(at, x.ID)
		}
		if w.Len() != len(at) {
			t.Fatalf("%d timers at %#x, want %d", w.Len(), now, len(at))
		}
	}
	if len(at) != 0 {
		t.Fatalf("never told: %v", at)
	}
}

// P12.2 to P12.5: all courses of five acts out of some that meet at the edges of the levels.
func TestAllCourses(t *testing.T) {
	acts := []func(b *both){
		func(b *both) { b.set("a", 0xfffe) },
		func(b *both) { b.set("a", 0xffff) },
		func(b *both) { b.set("a", 0x10000) },
		func(b *both) { b.set("b", 0x10000) },
		func(b *both) { b.set("b", 0x1000f) },
		func(b *both) { b.set("c", 0x20000) },
		func(b *both) { b.cancel("a") },
		func(b *both) { b.cancel("b") },
		func(b *both) { b.advance(0xffff) },
		func(b *both) { b.advance(0x10000) },
		func(b *both) { b.advance(0x1ffff) },
	}
	courses := 1
	for range 5 {
		courses *= len(acts)
	}
	for course := range courses {
		b := start(t, 0xfffe)
		for n, left := 0, course; n < 5; n++ {
			acts[left%len(acts)](b)
			left /= len(acts)
		}
	}
}

// P12.2 to P12.5: long seeded courses, of times that are near each other and of such that are not.
func TestLongCourses(t *testing.T) {
	random := rand.New(rand.NewSource(6))
	times := someTimes()
	for range 200 {
		b := start(t, anyOf(random, times))
		reach := 1 + random.Intn(40)
		ids := someIDs[:1+random.Intn(len(someIDs))]
		later := func() uint64 {
			if random.Intn(8) == 0 {
				return anyOf(random, times)
			}
			return b.m.now + random.Uint64()>>(64-random.Intn(reach)) - uint64(random.Intn(3))
		}
		for range 100 {
			switch random.Intn(8) {
			case 0:
				b.cancel(anyOf(random, ids))
			case 1:
				if now := later(); now < most-1<<60 || random.Intn(9) == 0 {
					b.advance(now)
				}
			case 2:
				b.advance(b.m.now + uint64(random.Intn(2)))
			default:
				b.set(anyOf(random, ids), later())
			}
		}
		b.advance(most)
		b.same("Len", b.w.Len(), 0)
	}
}

// R1, P12.2, P12.3: many timers of one slot, and many far ones, are set, cancelled, and told in no long time.
func TestMany(t *testing.T) {
	const n = 100000
	for _, deadline := range []uint64{5, 1 << 30, most} {
		w := New(1)
		for i := range n {
			w.Set(strconv.Itoa(i), deadline)
		}
		for i := range n {
			if i%10 != 0 && !w.Cancel(strconv.Itoa(i)) {
				t.Fatal(i)
			}
		}
		if w.Len() != n/10 {
			t.Fatal(w.Len())
		}
		for now := range uint64(5) {
			if l := w.Advance(now); len(l) != 0 {
				t.Fatal(l)
			}
		}
		l := w.Advance(most)
		if len(l) != n/10 || w.Len() != 0 {
			t.Fatal(len(l), w.Len())
		}
		for _, x := range l {
			if i, err := strconv.Atoi(x.ID); err != nil || i%10 != 0 || x.Deadline != deadline {
				t.Fatal(x)
			}
		}
	}
}

// R3: where nothing is due nothing is told, whatever there is.
func TestNothing(t *testing.T) {
	w := New(0)
	for _, deadline := range []uint64{1 << 5, 1 << 10, 1 << 15, 1 << 20} {
		w.Set(fmt.Sprint(deadline), deadline)
		if l := w.Advance(0); len(l) != 0 {
			t.Fatal(l)
		}
	}
}

// R4: what was told is its caller's alone, and so is the room behind it.
func TestOwnMemory(t *testing.T) {
	for _, now := range []uint64{3, 20, 70000} {
		w := New(0)
		for i := range 5 {
			w.Set(fmt.Sprint("first", i), now-1)
			w.Set(fmt.Sprint("second", i), now)
			w.Set(fmt.Sprint("third", i), now+1)
		}
		first := w.Advance(now - 1)
		kept := slices.Clone(first)
		second := w.Advance(now)
		if !slices.Equal(first, kept) {
			t.Fatalf("%v, and was %v", first, kept)
		}
		for _, l := range [][]Timer{first[:cap(first)], second[:cap(second)]} {
			for i := range l {
				l[i] = Timer{"other", 0}
			}
		}
		if w.Len() != 5 {
			t.Fatal(w.Len())
		}
		for i, x := range w.Advance(now + 1) {
			if x != (Timer{fmt.Sprint("third", i), now + 1}) {
				t.Fatal(i, x)
			}
		}
	}
}

// R4: no two lists that are told share their room.
func TestOwnRoom(t *testing.T) {
	w := New(0)
	var lists [][]Timer
	for now := range uint64(40) {
		for i := range 1 + now*now%7 { // 5 at some times, and then less: there may be room behind them
			w.Set(fmt.Sprint(i), now)
		}
		lists = append(lists, w.Advance(now))
	}
	for i, l := range lists {
		l = l[:cap(l)]
		for j := range l {
			l[j] = Timer{fmt.Sprint(i), uint64(j)}
		}
	}
	for i, l := range lists {
		for j, x := range l[:cap(l)] {
			if x != (Timer{fmt.Sprint(i), uint64(j)}) {
				t.Fatal(i, j, x)
			}
		}
	}
}

// R5: the same acts tell the same, whatever the order in which maps are gone through.
func TestSameAnswer(t *testing.T) {
	course := func() string {
		random := rand.New(rand.NewSource(7))
		w := New(0)
		var s strings.Builder
		for range 300 {
			w.Set(anyOf(random, someIDs), w.Now()+random.Uint64()>>(40+random.Intn(24)))
			if random.Intn(5) == 0 {
				fmt.Fprintln(&s, w.Advance(w.Now()+random.Uint64()>>(40+random.Intn(24))), w.Levels(), w.Len())
			}
		}
		fmt.Fprintln(&s, w.Advance(most))
		return s.String()
	}
	first := course()
	for range 30 {
		if next := course(); next != first {
			t.Fatalf("%s, and then %s", first, next)
		}
	}
}

// R5: two wheels go their own ways, also with the same ids.
func TestTwoWheels(t *testing.T) {
	a, b := start(t, 0), start(t, 0)
	for _, deadline := range []uint64{3, 30, 300, 3000, 300000} {
		a.set("x", deadline)
		b.held()
		b.set(fmt.Sprint(deadline), deadline)
		a.held()
	}
	b.tells(300, "3", "30", "300")
	a.held()
	a.cancel("x")
	b.held()
	b.tells(most, "3000", "300000")
	a.tells(most)
}

// What is kept is no more than what there is.
func TestKept(t *testing.T) {
	w := New(0)
	for _, deadline := range []uint64{0, 5, 50, 500, 5000, 50000, 500000, most} {
		for i := range 10 {
			w.Set(fmt.Sprint(deadline, i), deadline)
		}
		for i := range 10 {
			if i%2 == 0 {
				w.Cancel(fmt.Sprint(deadline, i))
			}
		}
	}
	for level := range w.near {
		for slot, list := range w.near[level] {
			for _, e := range list[len(list):cap(list)] {
				if e != nil {
					t.Fatal(level, slot, *e)
				}
			}
		}
	}
	w.Advance(most)
	if len(w.all)+len(w.far) != 0 {
		t.Fatal(len(w.all), len(w.far))
	}
	for level := range w.near {
		for slot, list := range w.near[level] {
			if list != nil {
				t.Fatal(level, slot, list)
			}
		}
	}
}
