package table

import (
	"math"
	"math/rand"
	"slices"
	"testing"

	"lodger/api"
)

const greatest = math.MaxUint64

func same(a, b Table) bool {
	return a.Segs == b.Segs && a.Slots == b.Slots && slices.Equal(a.Order, b.Order) && slices.Equal(a.Lens, b.Lens) && slices.Equal(a.Firsts, b.Firsts)
}

// deep is a copy that shares no list.
func deep(t Table) Table {
	t.Order, t.Lens, t.Firsts = slices.Clone(t.Order), slices.Clone(t.Lens), slices.Clone(t.Firsts)
	return t
}

func changed(t Table, change func(t *Table)) Table {
	t = deep(t)
	change(&t)
	return t
}

// upTo are the numbers from 0 on, n of them.
func upTo(n int) []int {
	l := make([]int, n)
	for i := range l {
		l[i] = i
	}
	return l
}

// good are tables that may be, ordinary ones and those at the edges.
func good() []Table {
	down := upTo(16)
	slices.Reverse(down)
	return []Table{
		{4, 2, []int{0}, []int{0}, []uint64{1}},
		{4, 2, []int{0}, []int{1}, []uint64{5}},
		{4, 2, []int{3}, []int{2}, []uint64{0}},
		{4, 1, []int{2}, []int{1}, []uint64{greatest}},
		{4, 1, []int{1}, []int{0}, []uint64{7}},
		{4, 3, []int{2, 0}, []int{3, 2}, []uint64{9, 12}},
		{4, 3, []int{3, 0, 1}, []int{1, 3, 0}, []uint64{2, 4, 8}},
		{4, 3, []int{3, 2, 1, 0}, []int{3, 3, 3, 3}, []uint64{1, 5, 9, 13}},
		{4, 3, []int{1, 3, 0, 2}, []int{0, 1, 2, 2}, []uint64{3, 3, 4, 6}},
		{5, 1, []int{4, 2, 0}, []int{0, 1, 1}, []uint64{0, greatest, 0}},
		{9, 10, []int{8, 1, 5, 2, 7}, []int{10, 3, 0, 9, 4}, []uint64{100, 111, 115, 116, 126}},
		{16, 30, []int{0}, []int{30}, []uint64{0}},
		{16, 30, []int{15}, []int{29}, []uint64{greatest}},
		{16, 30, upTo(16), slices.Repeat([]int{30}, 16), slices.Repeat([]uint64{greatest}, 16)},
		{16, 30, down, upTo(16), make([]uint64, 16)},
		{16, 1, down[:15], slices.Repeat([]int{1}, 15), make([]uint64, 15)},
		{16, 30, []int{7, 0, 15, 1}, []int{0, 0, 0, 0}, []uint64{1, 2, 3, 4}},
	}
}

// life goes by chance of a fixed beginning from a new table on, and hands each table that comes to be to see.
func life(seed int64, steps int, see func(x Table)) {
	random := rand.New(rand.NewSource(seed))
	x, _ := New(4+random.Intn(13), 1+random.Intn(30), random.Uint64())
	for range steps {
		see(x)
		now, e := x, api.OK
		switch random.Intn(8) {
		case 0, 1:
			now, e = Roll(x, random.Uint64()>>random.Intn(64))
		case 2:
			now, e = Drop(x, random.Intn(x.Segs))
		default:
			now, e = Count(x)
		}
		if e == api.OK {
			x = now
		}
	}
}

// each has the good ones, and those of some lives.
func each(see func(x Table)) {
	for _, x := range good() {
		see(x)
	}
	for seed := range int64(60) {
		life(seed, 400, see)
	}
}

func mayBe(t *testing.T, x Table, want bool) {
	t.Helper()
	if got := Right(x); got != want {
		t.Errorf("Right(%v) = %v", x, got)
	}
}

// is asks for an answer without error, which may be.
func is(t *testing.T, got Table, e api.Errno, want Table) {
	t.Helper()
	if e != api.OK || !same(got, want) {
		t.Errorf("%v, %d, want %v", got, e, want)
	}
	mayBe(t, got, true)
}

// refused asks for an error, beside which the table is the zero one.
func refused(t *testing.T, got Table, e, want api.Errno) {
	t.Helper()
	if e != want || !same(got, Table{}) {
		t.Errorf("%v, %d, want none, %d", got, e, want)
	}
}

// numbers of segments and of slots, in their bounds and out of them.
func numbers() []int {
	l := []int{math.MinInt, math.MinInt + 1, -1 << 32, -256, -16, -4, 255, 256, 260, 1 << 16, 1<<32 + 4, 1<<62 + 4, math.MaxInt - 1, math.MaxInt}
	for n := -3; n < 40; n++ {
		l = append(l, n)
	}
	return l
}

// P8.1: New, at each number of segments and of slots.
func TestNew(t *testing.T) {
	for _, segs := range numbers() {
		for _, slots := range numbers() {
			for _, first := range []uint64{0, 1, 5, 1 << 63, greatest} {
				x, e := New(segs, slots, first)
				if segs < 4 || segs > 16 || slots < 1 || slots > 30 {
					refused(t, x, e, api.ErrArg)
					continue
				}
				is(t, x, e, Table{segs, slots, []int{0}, []int{0}, []uint64{first}})
			}
		}
	}
}

// P8.1: Right, at each number of segments and of slots.
func TestRightSizes(t *testing.T) {
	for _, segs := range numbers() {
		for _, slots := range numbers() {
			mayBe(t, Table{segs, slots, []int{0}, []int{0}, []uint64{0}}, segs >= 4 && segs <= 16 && slots >= 1 && slots <= 30)
			mayBe(t, Table{segs, slots, []int{2, 1}, []int{1, 0}, []uint64{0, greatest}}, segs >= 4 && segs <= 16 && slots >= 1 && slots <= 30)
			mayBe(t, Table{Segs: segs, Slots: slots}, false)
		}
	}
}

// P8.1: tables that may be, and their first numbers, whatever they are.
func TestRightTables(t *testing.T) {
	each(func(x Table) {
		mayBe(t, x, true)
		for i := range x.Firsts {
			for _, first := range []uint64{0, 1, 1 << 63, greatest} {
				mayBe(t, changed(x, func(x *Table) { x.Firsts[i] = first }), true)
			}
		}
	})
}

// P8.1: how many numbers each of the lists has.
func TestRightCounts(t *testing.T) {
	counts := []int{0, 1, 2, 3, 4, 5, 6, 15, 16, 17, 18, 32, 300}
	for _, segs := range []int{4, 5, 15, 16} {
		for _, orders := range counts {
			for _, lens := range counts {
				for _, firsts := range counts {
					x := Table{segs, 3, upTo(orders), make([]int, lens), make([]uint64, firsts)}
					mayBe(t, x, orders >= 1 && orders <= segs && lens == orders && firsts == orders)
				}
			}
		}
	}
}

// P8.1: one of the lists has one number less, or one more.
func TestRightListsApart(t *testing.T) {
	for _, x := range good() {
		last := len(x.Order) - 1
		mayBe(t, changed(x, func(x *Table) { x.Order = x.Order[:last] }), false)
		mayBe(t, changed(x, func(x *Table) { x.Lens = x.Lens[:last] }), false)
		mayBe(t, changed(x, func(x *Table) { x.Firsts = x.Firsts[:last] }), false)
		mayBe(t, changed(x, func(x *Table) { x.Lens, x.Firsts = x.Lens[:last], x.Firsts[:last] }), false)
		mayBe(t, changed(x, func(x *Table) { x.Lens = append(x.Lens, 0) }), false)
		mayBe(t, changed(x, func(x *Table) { x.Firsts = append(x.Firsts, 0) }), false)
		mayBe(t, changed(x, func(x *Table) { x.Lens, x.Firsts = append(x.Lens, 0), append(x.Firsts, 0) }), false)
		for seg := range x.Segs {
			mayBe(t, changed(x, func(x *Table) { x.Order = append(x.Order, seg) }), false)
			more := Table{x.Segs, x.Slots, append(slices.Clone(x.Order), seg), append(slices.Clone(x.Lens), 0), append(slices.Clone(x.Firsts), 0)}
			mayBe(t, more, !slices.Contains(x.Order, seg))
		}
	}
}

// P8.1: a number of a segment that may not be, at each place of Order.
func TestRightSegments(t *testing.T) {
	for _, x := range good() {
		for i := range x.Order {
			for _, seg := range append(numbers(), x.Segs-1, x.Segs, x.Segs+1) {
				others := slices.Delete(slices.Clone(x.Order), i, i+1)
				mayBe(t, changed(x, func(x *Table) { x.Order[i] = seg }), seg >= 0 && seg < x.Segs && !slices.Contains(others, seg))
			}
		}
	}
}

// P8.1: a segment twice, at each two places, side by side and apart.
func TestRightTwice(t *testing.T) {
	for n := 2; n <= 16; n++ {
		x := Table{max(n, 4), 2, upTo(n), make([]int, n), make([]uint64, n)}
		for i := range n {
			for j := range i {
				mayBe(t, changed(x, func(x *Table) { x.Order[i] = j }), false)
				mayBe(t, changed(x, func(x *Table) { x.Order[j] = i }), false)
				mayBe(t, changed(x, func(x *Table) { x.Order[i], x.Order[j] = j, i }), true)
			}
		}
	}
}

// P8.1: each number of records, at each place of Lens.
func TestRightLens(t *testing.T) {
	for _, x := range good() {
		for i := range x.Lens {
			for _, records := range append(numbers(), x.Slots-1, x.Slots, x.Slots+1) {
				mayBe(t, changed(x, func(x *Table) { x.Lens[i] = records }), records >= 0 && records <= x.Slots)
			}
		}
	}
}

// P8.1 and R3: a nil list and an empty one are the same.
func TestRightNilAndEmpty(t *testing.T) {
	mayBe(t, Table{}, false)
	for _, order := range [][]int{nil, {}, make([]int, 0, 4), {1}} {
		for _, lens := range [][]int{nil, {}, make([]int, 0, 4), {1}} {
			for _, firsts := range [][]uint64{nil, {}, make([]uint64, 0, 4), {1}} {
				mayBe(t, Table{4, 2, order, lens, firsts}, len(order) == 1 && len(lens) == 1 && len(firsts) == 1)
			}
		}
	}
}

// P8.2: Free, and how many there are by Segs.
func TestFree(t *testing.T) {
	each(func(x Table) {
		free := Free(x)
		var want []int
		for seg := 0; seg < x.Segs; seg++ {
			used := false
			for _, other := range x.Order {
				used = used || other == seg
			}
			if !used {
				want = append(want, seg)
			}
		}
		if !slices.Equal(free, want) || len(free)+len(x.Order) != x.Segs {
			t.Fatalf("Free(%v) = %v, want %v", x, free, want)
		}
	})
	for _, c := range []struct {
		x    Table
		want []int
	}{
		{good()[0], []int{1, 2, 3}},
		{good()[2], []int{0, 1, 2}},
		{good()[5], []int{1, 3}},
		{good()[6], []int{2}},
		{good()[7], nil},
		{good()[8], nil},
		{good()[9], []int{1, 3}},
		{good()[10], []int{0, 3, 4, 6}},
		{good()[13], nil},
		{good()[15], []int{0}},
	} {
		if got := Free(c.x); !slices.Equal(got, c.want) {
			t.Errorf("Free(%v) = %v, want %v", c.x, got, c.want)
		}
	}
}

// P8.2: Room and Used, as written out, and as counted slot by slot.
func TestRoomAndUsed(t *testing.T) {
	rooms := []int{8, 7, 6, 3, 4, 7, 6, 0, 1, 2, 46, 450, 451, 0, 15, 1, 390}
	useds := []int{0, 1, 2, 1, 0, 5, 4, 12, 5, 2, 26, 30, 29, 480, 120, 15, 0}
	for i, x := range good() {
		if Room(x) != rooms[i] || Used(x) != useds[i] {
			t.Errorf("%v: Room %d, Used %d, want %d, %d", x, Room(x), Used(x), rooms[i], useds[i])
		}
	}
	each(func(x Table) {
		room, used := 0, 0
		for seg := range x.Segs {
			place := slices.Index(x.Order, seg)
			for slot := range x.Slots {
				switch {
				case place < 0:
					room++
				case slot < x.Lens[place]:
					used++
				case place == len(x.Order)-1:
					room++
				}
			}
		}
		if Room(x) != room || Used(x) != used {
			t.Fatalf("%v: Room %d, Used %d, want %d, %d", x, Room(x), Used(x), room, used)
		}
	})
}

// P8.2: Len of each segment, in use or not, and of none.
func TestLen(t *testing.T) {
	each(func(x Table) {
		for i, seg := range x.Order {
			if got := Len(x, seg); got != x.Lens[i] {
				t.Fatalf("Len(%v, %d) = %d", x, seg, got)
			}
		}
		others := append(Free(x), -1, -x.Segs, x.Segs, x.Segs+1, 16, 17, 255, 256, math.MinInt, math.MaxInt)
		for _, seg := range others {
			if got := Len(x, seg); got != 0 {
				t.Fatalf("Len(%v, %d) = %d, want 0", x, seg, got)
			}
		}
	})
}

// lowest is the lowest free segment, or none.
func lowest(x Table) (int, bool) {
	for seg := 0; seg < x.Segs; seg++ {
		if !slices.Contains(x.Order, seg) {
			return seg, true
		}
	}
	return 0, false
}

// P8.3: Roll, with some free, one free, and none.
func TestRoll(t *testing.T) {
	each(func(x Table) {
		seg, some := lowest(x)
		for _, first := range []uint64{0, 1, 77, 1 << 63, greatest} {
			got, e := Roll(x, first)
			if !some {
				refused(t, got, e, api.ErrFull)
				continue
			}
			is(t, got, e, Table{x.Segs, x.Slots, append(slices.Clone(x.Order), seg), append(slices.Clone(x.Lens), 0), append(slices.Clone(x.Firsts), first)})
		}
	})
	for _, c := range []struct {
		order []int
		want  int
	}{
		{[]int{0}, 1}, {[]int{1}, 0}, {[]int{3}, 0}, {[]int{0, 2}, 1}, {[]int{2, 0}, 1}, {[]int{3, 1, 0}, 2}, {[]int{0, 1, 3}, 2}, {[]int{3, 2, 1}, 0}, {[]int{2, 1, 0}, 3},
	} {
		n := len(c.order)
		got, e := Roll(Table{4, 2, c.order, make([]int, n), make([]uint64, n)}, 9)
		if e != api.OK || len(got.Order) != n+1 || got.Order[n] != c.want || Len(got, c.want) != 0 || got.Firsts[n] != 9 {
			t.Errorf("Roll of %v: %v, %d, want %d", c.order, got, e, c.want)
		}
	}
}

// P8.3: Roll opens each of the segments once, and then no more.
func TestRollTillFull(t *testing.T) {
	for segs := 4; segs <= 16; segs++ {
		x, e := New(segs, 2, 0)
		for n := 1; n < segs; n++ {
			x, e = Roll(x, uint64(n))
			is(t, x, e, Table{segs, 2, upTo(n + 1), make([]int, n+1), x.Firsts})
			if x.Firsts[0] != 0 || x.Firsts[n] != uint64(n) {
				t.Errorf("Firsts are %v", x.Firsts)
			}
		}
		got, e := Roll(x, 99)
		refused(t, got, e, api.ErrFull)
	}
}

// P8.3: Count, of an open segment that is full and of others, whatever the sealed ones have.
func TestCount(t *testing.T) {
	each(func(x Table) {
		got, e := Count(x)
		last := len(x.Lens) - 1
		if x.Lens[last] == x.Slots {
			refused(t, got, e, api.ErrFull)
			return
		}
		is(t, got, e, changed(x, func(x *Table) { x.Lens[last]++ }))
	})
	for _, slots := range []int{1, 2, 3, 29, 30} {
		for _, sealed := range []int{0, 1, slots - 1, slots} {
			x := Table{4, slots, []int{2, 0, 1}, []int{sealed, slots - sealed, 0}, []uint64{1, 2, 3}}
			for n := range slots {
				got, e := Count(x)
				is(t, got, e, Table{4, slots, []int{2, 0, 1}, []int{sealed, slots - sealed, n + 1}, []uint64{1, 2, 3}})
				x = got
			}
			got, e := Count(x)
			refused(t, got, e, api.ErrFull)
		}
	}
}

// P8.3: Drop of each sealed segment, of the open one, of free ones, and of none.
func TestDrop(t *testing.T) {
	each(func(x Table) {
		last := len(x.Order) - 1
		for i, seg := range x.Order[:last] {
			got, e := Drop(x, seg)
			is(t, got, e, Table{x.Segs, x.Slots, slices.Concat(x.Order[:i], x.Order[i+1:]), slices.Concat(x.Lens[:i], x.Lens[i+1:]), slices.Concat(x.Firsts[:i], x.Firsts[i+1:])})
			if !slices.Contains(Free(got), seg) || Len(got, seg) != 0 {
				t.Fatalf("Drop(%v, %d) = %v", x, seg, got)
			}
		}
		for _, seg := range append(Free(x), x.Order[last], -1, -x.Segs, x.Segs, x.Segs+1, 16, 255, 256, math.MinInt, math.MaxInt) {
			got, e := Drop(x, seg)
			refused(t, got, e, api.ErrArg)
		}
	})
}

// P8.3: a segment that was dropped is free, and opened again as the lowest one, behind all others.
func TestDropAndRoll(t *testing.T) {
	x := Table{4, 3, []int{3, 1, 0, 2}, []int{3, 2, 1, 3}, []uint64{1, 5, 8, 10}}
	x, e := Drop(x, 3)
	is(t, x, e, Table{4, 3, []int{1, 0, 2}, []int{2, 1, 3}, []uint64{5, 8, 10}})
	x, e = Drop(x, 0)
	is(t, x, e, Table{4, 3, []int{1, 2}, []int{2, 3}, []uint64{5, 10}})
	got, e := Drop(x, 0)
	refused(t, got, e, api.ErrArg)
	got, e = Drop(x, 2)
	refused(t, got, e, api.ErrArg)
	x, e = Roll(x, 20)
	is(t, x, e, Table{4, 3, []int{1, 2, 0}, []int{2, 3, 0}, []uint64{5, 10, 20}})
	x, e = Drop(x, 2)
	is(t, x, e, Table{4, 3, []int{1, 0}, []int{2, 0}, []uint64{5, 20}})
	x, e = Drop(x, 1)
	is(t, x, e, Table{4, 3, []int{0}, []int{0}, []uint64{20}})
	got, e = Drop(x, 0)
	refused(t, got, e, api.ErrArg)
}

// P8.4: Sector, in its bounds and out of them.
func TestSector(t *testing.T) {
	for _, slots := range numbers() {
		for _, seg := range numbers() {
			for _, slot := range append(numbers(), slots-1, slots, slots+1) {
				want := -1
				if slots >= 1 && slots <= 30 && seg >= 0 && seg <= 15 && slot >= 0 && slot <= slots {
					want = 2 + seg*(slots+1) + slot
				}
				if got := Sector(slots, api.Loc{Seg: seg, Slot: slot}); got != want {
					t.Fatalf("Sector(%d, %d %d) = %d, want %d", slots, seg, slot, got, want)
				}
			}
		}
	}
}

// P8.4: sectors as written out.
func TestSectorEdges(t *testing.T) {
	for _, c := range []struct{ slots, seg, slot, want int }{
		{1, 0, 0, 2}, {1, 0, 1, 3}, {1, 0, 2, -1}, {1, 1, 0, 4}, {1, 15, 0, 32}, {1, 15, 1, 33}, {1, 16, 0, -1}, {1, -1, 0, -1}, {1, 0, -1, -1},
		{2, 1, 0, 5}, {2, 3, 2, 13}, {10, 3, 4, 39}, {30, 0, 0, 2}, {30, 0, 30, 32}, {30, 0, 31, -1}, {30, 1, 0, 33}, {30, 15, 0, 467}, {30, 15, 30, 497}, {30, 16, 0, -1},
		{0, 0, 0, -1}, {31, 0, 0, -1}, {31, 15, 31, -1}, {-1, 0, 0, -1}, {-1, 0, -1, -1},
	} {
		if got := Sector(c.slots, api.Loc{Seg: c.seg, Slot: c.slot}); got != c.want {
			t.Errorf("Sector(%d, %d %d) = %d, want %d", c.slots, c.seg, c.slot, got, c.want)
		}
	}
}

// P8.4: no two places have one sector, and all sectors behind the heads are one's.
func TestSectorsApart(t *testing.T) {
	for slots := 1; slots <= 30; slots++ {
		want := 2
		for seg := range 16 {
			for slot := range slots + 1 {
				if got := Sector(slots, api.Loc{Seg: seg, Slot: slot}); got != want {
					t.Fatalf("Sector(%d, %d %d) = %d, want %d", slots, seg, slot, got, want)
				}
				want++
			}
		}
	}
}

// P8.5: what a record, a segment more and one less do to the room.
func TestRoomGoesOn(t *testing.T) {
	each(func(x Table) {
		last := len(x.Order) - 1
		if now, e := Count(x); e == api.OK && (Room(now) != Room(x)-1 || Used(now) != Used(x)+1) {
			t.Fatalf("%v counted: %v: Room %d, was %d", x, now, Room(now), Room(x))
		}
		if now, e := Roll(x, 5); e == api.OK && (Room(now) != Room(x)-(x.Slots-x.Lens[last]) || Used(now) != Used(x)) {
			t.Fatalf("%v rolled: %v: Room %d, was %d", x, now, Room(now), Room(x))
		}
		full := changed(x, func(x *Table) { x.Lens[last] = x.Slots })
		if now, e := Roll(full, 5); e == api.OK && Room(now) != Room(full) {
			t.Fatalf("%v rolled: %v: Room %d, was %d", full, now, Room(now), Room(full))
		}
		for i, seg := range x.Order[:last] {
			if now, _ := Drop(x, seg); Room(now) != Room(x)+x.Slots || Used(now) != Used(x)-x.Lens[i] {
				t.Fatalf("%v without %d: %v: Room %d, was %d", x, seg, now, Room(now), Room(x))
			}
		}
		if _, e := Count(x); Room(x) == 0 && e != api.ErrFull {
			t.Fatalf("%v without room is counted on: %d", x, e)
		}
	})
}

// P8.5: a table takes as many records as it has room, one by one, rolled where the open one is full.
func TestRoomIsTaken(t *testing.T) {
	each(func(start Table) {
		x := start
		for left := Room(start); left > 0; left-- {
			if x.Lens[len(x.Lens)-1] == x.Slots {
				x, _ = Roll(x, 1)
			}
			now, e := Count(x)
			if e != api.OK || Room(now) != left-1 {
				t.Fatalf("%v, from %v on, with room for %d: %v, %d", x, start, left, now, e)
			}
			x = now
		}
		if _, e := Count(x); e != api.ErrFull {
			t.Fatalf("%v counts on: %d", x, e)
		}
		if _, e := Roll(x, 1); e != api.ErrFull {
			t.Fatalf("%v rolls on: %d", x, e)
		}
		if Used(x) != Used(start)+Room(start) {
			t.Fatalf("%v has %d, from %v on", x, Used(x), start)
		}
	})
}

// spare has a list with room behind it, that holds marks.
func spare[T int | uint64](l []T) []T {
	room := slices.Repeat([]T{77}, len(l)+8)
	copy(room, l)
	return room[:len(l)]
}

// spoil writes over a list and the room behind it.
func spoil[T int | uint64](l []T) {
	for i := range l[:cap(l)] {
		l[:cap(l)][i] = 99
	}
}

func spoilAll(x Table) {
	spoil(x.Order)
	spoil(x.Lens)
	spoil(x.Firsts)
}

// withSpare is a copy whose lists have room behind them.
func withSpare(x Table) Table {
	x.Order, x.Lens, x.Firsts = spare(x.Order), spare(x.Lens), spare(x.Firsts)
	return x
}

// untouched tells whether a table is as withSpare made it, the room behind its lists too.
func untouched(x, was Table) bool {
	n := len(was.Order) + 8
	want := withSpare(was)
	return same(x, was) && slices.Equal(x.Order[:n], want.Order[:n]) && slices.Equal(x.Lens[:n], want.Lens[:n]) && slices.Equal(x.Firsts[:n], want.Firsts[:n])
}

// makers are the calls that make a table of another one; those that tell an error are among them.
func makers(x Table) []func(x Table) (Table, api.Errno) {
	l := []func(x Table) (Table, api.Errno){
		Count,
		func(x Table) (Table, api.Errno) { return Roll(x, 5) },
	}
	for seg := -1; seg <= x.Segs; seg++ {
		l = append(l, func(x Table) (Table, api.Errno) { return Drop(x, seg) })
	}
	return l
}

// R4: lists that are handed in are not changed, nor the room behind them, nor kept.
func TestArgumentsStay(t *testing.T) {
	for _, x := range good() {
		given := withSpare(x)
		Right(given)
		Room(given)
		Used(given)
		for seg := -1; seg <= x.Segs; seg++ {
			Len(given, seg)
		}
		free := Free(given)
		if !untouched(given, x) {
			t.Errorf("%v is %v now", x, given)
		}
		spoilAll(given)
		if !slices.Equal(free, Free(x)) {
			t.Errorf("%v are free, behind a write to the table, want %v", free, Free(x))
		}
		for _, make := range makers(x) {
			given := withSpare(x)
			got, e := make(given)
			if !untouched(given, x) {
				t.Errorf("%v is %v now", x, given)
			}
			spoilAll(given)
			if want, err := make(deep(x)); !same(got, want) || e != err {
				t.Errorf("%v, %d, behind a write to the table, want %v, %d", got, e, want, err)
			}
		}
	}
}

// R4 and R7: what is answered is new memory: written to, or gone on from, it changes no other table.
func TestAnswersAreNew(t *testing.T) {
	for _, x := range good() {
		for _, make := range makers(x) {
			given := withSpare(x)
			kept, _ := make(given)
			want := deep(kept)
			got, e := make(given)
			spoilAll(got)
			again, err := make(given)
			if !untouched(given, x) || !same(kept, want) || !same(again, want) || e != err {
				t.Errorf("%v, %v and %v, behind writes to an answer, want %v and twice %v", given, kept, again, x, want)
			}
		}
		free := Free(x)
		want := slices.Clone(free)
		spoil(Free(x))
		if !slices.Equal(free, want) || !slices.Equal(Free(x), want) {
			t.Errorf("%v and %v are free, behind a write to an answer, want %v", free, Free(x), want)
		}
	}
	kept, _ := New(4, 2, 5)
	other, _ := New(4, 2, 5)
	spoilAll(other)
	is(t, kept, api.OK, Table{4, 2, []int{0}, []int{0}, []uint64{5}})
	later, e := New(4, 2, 5)
	is(t, later, e, kept)
}

// R4: the lists of one answer share no memory, spare room neither. (Firsts are of another type.)
func TestListsOfOneAnswer(t *testing.T) {
	ask := func(make func() (Table, api.Errno)) {
		x, e := make()
		if e != api.OK {
			return
		}
		whole := x.Lens[:cap(x.Lens)]
		was := slices.Clone(whole)
		spoil(x.Order)
		if !slices.Equal(whole, was) {
			t.Errorf("Lens, and the room behind, are %v, behind a write to Order, want %v", whole, was)
		}
	}
	ask(func() (Table, api.Errno) { return New(4, 2, 5) })
	for _, x := range good() {
		for _, make := range makers(x) {
			ask(func() (Table, api.Errno) { return make(x) })
		}
	}
}

// R4 and R7: a table from which two others are made stays, and they go their own ways.
func TestOwnWays(t *testing.T) {
	for _, x := range good() {
		start := withSpare(x)
		first, e1 := Roll(start, 10)
		second, e2 := Roll(start, 20)
		if e1 != api.OK || e2 != api.OK {
			continue
		}
		counted, e := Count(first)
		last := len(x.Order)
		if e != api.OK || first.Lens[last] != 0 || second.Lens[last] != 0 || counted.Lens[last] != 1 || first.Firsts[last] != 10 || second.Firsts[last] != 20 || !untouched(start, x) {
			t.Errorf("%v, %v, %v and %v do not go their own ways", start, first, second, counted)
		}
		dropped, e := Drop(counted, x.Order[0])
		if e != api.OK || !slices.Equal(counted.Order, first.Order) || len(dropped.Order) != last || counted.Lens[last] != 1 {
			t.Errorf("%v, %v and %v do not go their own ways", first, counted, dropped)
		}
	}
}

// R5: the same is answered, whatever was asked between.
func TestOneAnswer(t *testing.T) {
	for seed := range int64(5) {
		var a, b []Table
		life(seed, 200, func(x Table) { a = append(a, deep(x)) })
		life(seed+100, 50, func(Table) {})
		life(seed, 200, func(x Table) { b = append(b, x) })
		if !slices.EqualFunc(a, b, same) {
			t.Errorf("life %d goes on otherwise", seed)
		}
	}
}

// The chapter's examples.
func TestExamples(t *testing.T) {
	x, e := New(4, 2, 1)
	is(t, x, e, Table{4, 2, []int{0}, []int{0}, []uint64{1}})
	if Room(x) != 8 {
		t.Errorf("Room(%v) = %d, want 8", x, Room(x))
	}
	x, e = Roll(x, 1)
	is(t, x, e, Table{4, 2, []int{0, 1}, []int{0, 0}, []uint64{1, 1}})
	if Room(x) != 6 {
		t.Errorf("Room(%v) = %d, want 6", x, Room(x))
	}
}
