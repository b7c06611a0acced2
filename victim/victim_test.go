package victim

import (
	"math"
	"math/big"
	"math/rand"
	"slices"
	"testing"
)

const (
	oldest = 1 << 40
	most   = math.MaxUint64
)

// within is a number, but the lower bound, if it is below that, and the upper one, if it is above that.
func within(n, lower, upper int) int {
	if n < lower {
		return lower
	}
	if n > upper {
		return upper
	}
	return n
}

// modelBetter holds both quotients of gain and cost against each other, by numbers of any length.
func modelBetter(a, b Cand) bool { return quotient(a).Cmp(quotient(b)) > 0 }

func quotient(c Cand) *big.Rat {
	records := within(c.Len, 0, 30)
	lives := within(c.Live, 0, records)
	age := new(big.Int).SetUint64(c.Age)
	if c.Age > oldest {
		age.SetUint64(oldest)
	}
	cost := big.NewInt(int64(records + lives))
	if cost.Sign() == 0 {
		cost.SetInt64(1)
	}
	gain := big.NewInt(int64(records - lives))
	return new(big.Rat).SetFrac(gain.Mul(gain, age), cost)
}

// modelPick goes by the promise's words: of all that fit the first one than which none of these is better.
func modelPick(l []Cand, fits func(place int) bool) int {
	for place, c := range l {
		beaten := false
		for other, d := range l {
			beaten = beaten || fits(other) && modelBetter(d, c)
		}
		if fits(place) && !beaten {
			return place
		}
	}
	return -1
}

func roomPick(l []Cand, room int) int {
	return modelPick(l, func(place int) bool { return l[place].Need <= room })
}

// modelOrder picks of those that are left, again and again.
func modelOrder(l []Cand) []int {
	var order []int
	for range l {
		order = append(order, modelPick(l, func(place int) bool { return !slices.Contains(order, place) }))
	}
	return order
}

var (
	lens = []int{math.MinInt, -31, -1, 0, 1, 2, 3, 15, 29, 30, 31, 32, 60, math.MaxInt}
	ages = []uint64{0, 1, 2, 3, 1<<32 - 1, 1 << 32, oldest - 1, oldest, oldest + 1, 1 << 41, 1 << 63, most}
)

// edges are candidates of all the edges, each with each.
func edges() []Cand {
	var l []Cand
	for _, records := range lens {
		for _, lives := range lens {
			for _, age := range ages {
				l = append(l, Cand{Seg: len(l) % 16, Len: records, Live: lives, Need: len(l) % 7, Age: age})
			}
		}
	}
	return l
}

// anyCand is mostly one of few, so that many are as good, and some of its numbers are beyond their bounds.
func anyCand(r *rand.Rand) Cand {
	c := Cand{Seg: r.Intn(16), Len: r.Intn(5), Live: r.Intn(4), Need: r.Intn(5), Age: uint64(r.Intn(4))}
	if r.Intn(4) == 0 {
		c.Len, c.Live = r.Intn(40)-4, r.Intn(40)-4
	}
	if r.Intn(4) == 0 {
		c.Age = ages[r.Intn(len(ages))]
	}
	if r.Intn(4) == 0 {
		c.Need = []int{math.MinInt, -1, 29, 30, 31, math.MaxInt}[r.Intn(6)]
	}
	return c
}

func anyList(r *rand.Rand, most int) []Cand {
	var l []Cand
	for range r.Intn(most + 1) {
		l = append(l, anyCand(r))
	}
	return l
}

// better says what is to be of two: 1, if the first one is better, -1, if the second one is, 0, if none.
func better(t *testing.T, a, b Cand, want int) {
	t.Helper()
	if Better(a, b) != (want > 0) || Better(b, a) != (want < 0) {
		t.Errorf("Better(%v, %v) = %v, the other way round %v, want %d", a, b, Better(a, b), Better(b, a), want)
	}
}

func pick(t *testing.T, l []Cand, room, want int) {
	t.Helper()
	if got := Pick(l, room); got != want {
		t.Errorf("Pick(%v, %d) = %d, want %d", l, room, got, want)
	}
}

func order(t *testing.T, l []Cand, want ...int) {
	t.Helper()
	if got := Order(l); !slices.Equal(got, want) {
		t.Errorf("Order(%v) = %v, want %v", l, got, want)
	}
}

// P14.1: the chapter's example.
func TestExample(t *testing.T) {
	better(t, Cand{Len: 10, Live: 2, Age: 5}, Cand{Len: 10, Live: 5, Age: 5}, 1)
	better(t, Cand{Len: 10, Live: 2, Age: 5}, Cand{Len: 4, Age: 5}, -1)
}

// P14.1
func TestBetter(t *testing.T) {
	for _, x := range []struct {
		a, b Cand
		want int
	}{
		// A gain of 12 for 8 is more than one of 9 for 7.
		{Cand{Len: 6, Live: 2, Age: 3}, Cand{Len: 5, Live: 2, Age: 3}, 1},
		// The greater gain, for a cost that is greater still, is worse: 50 for 30, and 8 for 2.
		{Cand{Len: 20, Live: 10, Age: 5}, Cand{Len: 2, Age: 4}, -1},
		// Of equal costs the greater gain, of equal gains the lesser cost.
		{Cand{Len: 6, Live: 2, Age: 1}, Cand{Len: 5, Live: 3, Age: 1}, 1},
		{Cand{Len: 4, Age: 3}, Cand{Len: 6, Live: 2, Age: 3}, 1},
		// Both equal.
		{Cand{Len: 3, Live: 1, Age: 1}, Cand{Len: 3, Live: 1, Age: 1}, 0},
		{Cand{Len: 4, Age: 1}, Cand{Len: 3, Live: 1, Age: 2}, 0},
		// 3 for 3 and 8 for 8, and one more or less of the gain: 4 for 3, 2 for 3.
		{Cand{Len: 2, Live: 1, Age: 3}, Cand{Len: 8, Age: 1}, 0},
		{Cand{Len: 2, Live: 1, Age: 4}, Cand{Len: 8, Age: 1}, 1},
		{Cand{Len: 2, Live: 1, Age: 2}, Cand{Len: 8, Age: 1}, -1},
		// More products that are equal of unlike ones: 8 for 4 and 16 for 8, 7 for 1 and 210 for 30, 18 for 6 and 21 for 7.
		{Cand{Len: 3, Live: 1, Age: 4}, Cand{Len: 6, Live: 2, Age: 4}, 0},
		{Cand{Len: 1, Age: 7}, Cand{Len: 30, Age: 7}, 0},
		{Cand{Len: 4, Live: 2, Age: 9}, Cand{Len: 7, Age: 3}, 0},
		// Quotients that are unlike in their fractions alone: 10 for 4 and 4 for 2, 2 for 19 and 1 for 19.
		{Cand{Len: 3, Live: 1, Age: 5}, Cand{Len: 2, Age: 2}, 1},
		{Cand{Len: 10, Live: 9, Age: 2}, Cand{Len: 10, Live: 9, Age: 1}, 1},
		// 29 for 59 and 28 for 57: products of 1653 and 1652.
		{Cand{Len: 30, Live: 29, Age: 29}, Cand{Len: 29, Live: 28, Age: 28}, 1},
		{Cand{Len: 30, Live: 29, Age: 28}, Cand{Len: 29, Live: 28, Age: 28}, -1},
	} {
		better(t, x.a, x.b, x.want)
	}
}

// P14.1: Len below 0 counts as 0, above 30 as 30.
func TestLen(t *testing.T) {
	none := Cand{Age: 9}
	for _, n := range []int{-1, -2, -30, -1 << 62, -3 << 61, math.MinInt} {
		better(t, Cand{Len: n, Age: 9}, none, 0)
		better(t, Cand{Len: n, Live: n, Age: 9}, none, 0)
		better(t, Cand{Len: n, Live: n - 1, Age: 9}, none, 0)
		better(t, Cand{Len: n, Live: 7, Age: 9}, none, 0)
		better(t, Cand{Len: n, Age: 9}, Cand{Len: 1, Age: 1}, -1)
		better(t, Cand{Len: n, Age: 9}, Cand{Len: 4, Age: 1}, -1)
	}
	for _, n := range []int{31, 32, 60, 1 << 40, math.MaxInt} {
		for _, lives := range []int{0, 1, 15, 29, 30, 31} {
			better(t, Cand{Len: n, Live: lives, Age: 9}, Cand{Len: 30, Live: lives, Age: 9}, 0)
		}
		better(t, Cand{Len: n, Live: 1, Age: 9}, Cand{Len: 29, Live: 1, Age: 9}, 1)
	}
	better(t, Cand{Len: 30, Live: 1, Age: 9}, Cand{Len: 29, Live: 1, Age: 9}, 1)
	better(t, Cand{Len: 1, Age: 9}, none, 1)
}

// P14.1: Live below 0 counts as 0, above Len as Len, as that counts.
func TestLive(t *testing.T) {
	for _, n := range []int{-1, -9, math.MinInt} {
		better(t, Cand{Len: 5, Live: n, Age: 9}, Cand{Len: 5, Age: 9}, 0)
		better(t, Cand{Len: 5, Live: n, Age: 9}, Cand{Len: 5, Live: 1, Age: 9}, 1)
	}
	for _, n := range []int{5, 6, 30, 31, math.MaxInt} {
		better(t, Cand{Len: 5, Live: n, Age: 9}, Cand{Len: 5, Live: 5, Age: 9}, 0)
		better(t, Cand{Len: 5, Live: n, Age: 9}, Cand{Len: 5, Live: 4, Age: 9}, -1)
		better(t, Cand{Len: 5, Live: n, Age: 9}, Cand{Len: 30, Live: 29, Age: 1}, -1)
		better(t, Cand{Len: 5, Live: n, Age: 9}, Cand{}, 0)
	}
	// Len counts as 30 here, of which 30 live: no gain.
	for _, n := range []int{30, 31, 40, 50, math.MaxInt} {
		better(t, Cand{Len: 50, Live: n, Age: 9}, Cand{}, 0)
		better(t, Cand{Len: 50, Live: 29, Age: 9}, Cand{Len: 50, Live: n, Age: 9}, 1)
	}
	// Len counts as 0 here: nothing lives, and the cost is 1.
	for _, n := range []int{-50, -3, -2, 0, 1, 30, math.MaxInt} {
		better(t, Cand{Len: -3, Live: n, Age: 9}, Cand{Age: 9}, 0)
	}
}

// P14.1: Age above 2^40 counts as 2^40.
func TestAge(t *testing.T) {
	for _, age := range []uint64{oldest + 1, 1 << 50, 1 << 63, most - 1, most} {
		for _, c := range []Cand{{Len: 1}, {Len: 30}, {Len: 30, Live: 29}, {Len: 30, Live: 30}, {}} {
			a, b := c, c
			a.Age, b.Age = age, oldest
			better(t, a, b, 0)
		}
		better(t, Cand{Len: 4, Live: 1, Age: age}, Cand{Len: 4, Live: 1, Age: oldest - 1}, 1)
	}
	better(t, Cand{Len: 4, Live: 1, Age: oldest}, Cand{Len: 4, Live: 1, Age: oldest - 1}, 1)
	better(t, Cand{Len: 4, Live: 1, Age: oldest - 1}, Cand{Len: 4, Live: 1, Age: oldest - 2}, 1)
	better(t, Cand{Len: 4, Live: 1, Age: 1}, Cand{Len: 4, Live: 1}, 1)
	better(t, Cand{Len: 30}, Cand{Len: 30, Live: 30, Age: most}, 0)
	better(t, Cand{Len: 30}, Cand{}, 0)
	// The greatest products, that are unlike by 1 part of 2^40 alone.
	better(t, Cand{Len: 30, Live: 15, Age: oldest}, Cand{Len: 30, Live: 15, Age: oldest - 1}, 1)
	better(t, Cand{Len: 30, Live: 29, Age: oldest}, Cand{Len: 30, Live: 29, Age: oldest - 1}, 1)
}

// P14.1: of a candidate of none the cost is 1, and the gain 0.
func TestNothing(t *testing.T) {
	for _, age := range ages {
		better(t, Cand{Age: age}, Cand{}, 0)
		better(t, Cand{Age: age}, Cand{Len: 30, Live: 30, Age: most}, 0)
		better(t, Cand{Age: age}, Cand{Len: 1}, 0)
		better(t, Cand{Age: age}, Cand{Len: 30, Live: 29, Age: 1}, -1)
	}
}

// P14.1: neither Seg nor Need makes a difference.
func TestBetterSegNeed(t *testing.T) {
	for _, n := range lens {
		for _, m := range lens {
			better(t, Cand{Seg: n, Need: m, Len: 5, Live: 2, Age: 3}, Cand{Seg: m, Need: n, Len: 5, Live: 2, Age: 3}, 0)
			better(t, Cand{Seg: n, Need: m, Len: 5, Live: 2, Age: 3}, Cand{Seg: m, Need: n, Len: 5, Live: 2, Age: 2}, 1)
		}
	}
}

// P14.1: all edges with all, held against the quotients; P14.4 for each two and each one of them.
func TestBetterEdges(t *testing.T) {
	all := edges()
	quotients := make([]*big.Rat, len(all))
	for i, c := range all {
		quotients[i] = quotient(c)
	}
	r := rand.New(rand.NewSource(14))
	for i, a := range all {
		if Better(a, a) {
			t.Fatal("better than itself:", a)
		}
		for range 300 {
			j := r.Intn(len(all))
			b := all[j]
			if want := quotients[i].Cmp(quotients[j]) > 0; Better(a, b) != want {
				t.Fatalf("Better(%v, %v) = %v", a, b, !want)
			}
			if Better(a, b) && Better(b, a) {
				t.Fatal("both better:", a, b)
			}
		}
	}
}

// small are all candidates of few records and small ages, each once.
func small(records, age int) []Cand {
	var l []Cand
	for n := range records + 1 {
		for lives := range n + 1 {
			for a := range age + 1 {
				l = append(l, Cand{Len: n, Live: lives, Age: uint64(a)})
			}
		}
	}
	return l
}

// P14.1: all small ones with all.
func TestBetterSmall(t *testing.T) {
	all := small(7, 4)
	for _, a := range all {
		for _, b := range all {
			if want := modelBetter(a, b); Better(a, b) != want {
				t.Fatalf("Better(%v, %v) = %v", a, b, !want)
			}
		}
	}
}

// P14.4: what is better than a better one is better; and what is as good as another is better than the same ones.
func TestBetterOfBetter(t *testing.T) {
	r := rand.New(rand.NewSource(3))
	all := append(small(4, 3), edges()...)
	for range 300000 {
		a, b, c := all[r.Intn(len(all))], all[r.Intn(len(all))], all[r.Intn(len(all))]
		if Better(a, b) && Better(b, c) && !Better(a, c) {
			t.Fatal(a, b, c)
		}
		if !Better(a, b) && !Better(b, c) && Better(a, c) {
			t.Fatal(a, b, c)
		}
	}
	few := small(4, 2)
	for _, a := range few {
		for _, b := range few {
			if Better(a, b) && Better(b, a) {
				t.Fatal(a, b)
			}
			for _, c := range few {
				if Better(a, b) && Better(b, c) && !Better(a, c) {
					t.Fatal(a, b, c)
				}
			}
		}
	}
}

// P14.4: one that is older is not worse, nor is one of which less lives.
func TestNotWorse(t *testing.T) {
	for _, records := range lens {
		for i, lives := range lens {
			for j, age := range ages {
				c := Cand{Len: records, Live: lives, Age: age}
				for _, older := range ages[j:] {
					if d := (Cand{Len: records, Live: lives, Age: older}); Better(c, d) {
						t.Fatal(c, "better than the older", d)
					}
				}
				for _, less := range lens[:i] {
					if d := (Cand{Len: records, Live: less, Age: age}); Better(c, d) {
						t.Fatal(c, "better than", d, "of which less lives")
					}
				}
			}
		}
	}
}

// P14.2: an empty list, and one of one candidate.
func TestPickFew(t *testing.T) {
	for _, room := range []int{math.MinInt, -1, 0, 1, math.MaxInt} {
		pick(t, nil, room, -1)
		pick(t, []Cand{}, room, -1)
		pick(t, []Cand{{Need: math.MinInt}}, room, 0)
	}
	for _, c := range []Cand{{}, {Len: 9, Live: 9, Age: 3}, {Len: 9, Age: 3}, {Len: -4, Live: -5, Age: most}} {
		for _, need := range []int{math.MinInt + 1, -7, 0, 1, 30, 31, math.MaxInt - 1} {
			c.Need = need
			pick(t, []Cand{c}, need, 0)
			pick(t, []Cand{c}, need+1, 0)
			pick(t, []Cand{c}, math.MaxInt, 0)
			pick(t, []Cand{c}, need-1, -1)
			pick(t, []Cand{c}, math.MinInt, -1)
		}
	}
}

// P14.2: one that does not fit is not picked, and stands in no one's way.
func TestPickRoom(t *testing.T) {
	l := []Cand{
		{Len: 4, Live: 3, Age: 1, Need: 0},
		{Len: 4, Live: 2, Age: 1, Need: 2},
		{Len: 4, Live: 1, Age: 1, Need: 5},
		{Len: 4, Live: 0, Age: 1, Need: 9},
		{Len: 4, Live: 1, Age: 1, Need: 4},
	}
	for room, want := range []int{0, 0, 1, 1, 4, 2, 2, 2, 2, 3, 3} {
		pick(t, l, room, want)
	}
	pick(t, l, -1, -1)
	pick(t, l, math.MinInt, -1)
	pick(t, l, math.MaxInt, 3)
	pick(t, l[1:], 1, -1)
	pick(t, l[1:], 0, -1)
}

// P14.2: of those that are as good the first one that fits.
func TestPickFirst(t *testing.T) {
	l := make([]Cand, 9)
	for i := range l {
		l[i] = Cand{Seg: 15 - i, Len: 3 * (i + 1), Live: i + 1, Age: 8, Need: 8 - i}
	}
	for room := range 9 {
		pick(t, l, room, 8-room)
	}
	same := slices.Repeat([]Cand{{Len: 4, Live: 1, Age: 2, Need: 3}}, 6)
	pick(t, same, 3, 0)
	pick(t, same, 2, -1)
	pick(t, append([]Cand{{Len: 4, Live: 2, Age: 2}}, same...), 3, 1)
	pick(t, append(same, Cand{Len: 4, Live: 1, Age: 3}), 3, 6)
	// Where there is no gain, all are as good, whatever they cost.
	pick(t, []Cand{{Len: 9, Live: 9, Age: 1}, {}, {Len: 1, Live: 1, Age: most}, {Len: 3}}, 0, 0)
}

// P14.3: an empty list, one of one candidate, and one in which all are as good.
func TestOrderFew(t *testing.T) {
	order(t, nil)
	order(t, []Cand{})
	order(t, []Cand{{Need: math.MaxInt}}, 0)
	for n := range 40 {
		var l []Cand
		var want []int
		for i := range n {
			l = append(l, Cand{Seg: -i, Len: 2 * (i%15 + 1), Live: i%15 + 1, Age: 6, Need: (i * 7) % 31})
			want = append(want, i)
		}
		order(t, l, want...)
	}
}

// P14.3: whatever a candidate needs, it has its place.
func TestOrderNeed(t *testing.T) {
	order(t, []Cand{
		{Len: 4, Live: 3, Age: 1, Need: math.MaxInt},
		{Len: 4, Live: 0, Age: 1, Need: 31},
		{Len: 4, Live: 4, Age: 1, Need: -1},
		{Len: 4, Live: 1, Age: 1, Need: math.MaxInt},
		{Len: 4, Live: 0, Age: 1, Need: 0},
		{Len: 4, Live: 3, Age: 1, Need: math.MinInt},
	}, 1, 4, 3, 0, 5, 2)
}

// P14.2, P14.3: all lists of up to four out of eight candidates, at all rooms.
func TestAllLists(t *testing.T) {
	some := []Cand{
		{},
		{Len: 4, Live: 4, Age: 3, Need: 1},
		{Len: 4, Live: 2, Age: 3, Need: 2},
		{Len: 2, Live: 1, Age: 3, Need: 1},
		{Len: 4, Live: 1, Age: 3, Need: 3},
		{Len: 4, Live: 1, Age: 2, Need: -1},
		{Len: 9, Live: -1, Age: most, Need: 2},
		{Len: -9, Live: 3, Age: 3},
	}
	lists := [][]Cand{nil}
	for at := 0; at < len(lists); at++ {
		l := lists[at]
		heldList(t, l, []int{-2, -1, 0, 1, 2, 3, 4})
		for _, c := range some {
			if len(l) < 4 {
				lists = append(lists, append(slices.Clone(l), c))
			}
		}
	}
	if len(lists) != 1+8+64+512+4096 {
		t.Fatal(len(lists))
	}
}

// heldList holds Pick and Order against the model.
func heldList(t *testing.T, l []Cand, rooms []int) {
	t.Helper()
	for _, room := range rooms {
		if got, want := Pick(l, room), roomPick(l, room); got != want {
			t.Fatalf("Pick(%v, %d) = %d, want %d", l, room, got, want)
		}
	}
	if got, want := Order(l), modelOrder(l); !slices.Equal(got, want) {
		t.Fatalf("Order(%v) = %v, want %v", l, got, want)
	}
}

// P14.2, P14.3: lists of all kinds, long ones too.
func TestAnyLists(t *testing.T) {
	r := rand.New(rand.NewSource(7))
	rooms := []int{math.MinInt, -2, -1, 0, 1, 2, 3, 4, 5, 29, 30, 31, math.MaxInt}
	for range 2000 {
		heldList(t, anyList(r, 8), rooms)
	}
	for range 12 {
		heldList(t, anyList(r, 40), rooms)
	}
}

// P14.3: of a long list each place is told once, by falling worth, those that are as good by rising places; the first one is Pick's.
func TestOrderLong(t *testing.T) {
	r := rand.New(rand.NewSource(9))
	var l []Cand
	for range 100000 {
		l = append(l, anyCand(r))
	}
	order := Order(l)
	for i, place := range order[1:] {
		last := order[i]
		if Better(l[place], l[last]) || !Better(l[last], l[place]) && place < last {
			t.Fatal(i, last, place, l[last], l[place])
		}
	}
	pick(t, l, math.MaxInt, order[0])
	slices.Sort(order)
	for i, place := range order {
		if i != place {
			t.Fatal(i, place)
		}
	}
	if len(order) != len(l) {
		t.Fatal(len(order))
	}
}

// R4: the list that was handed in is as it was, the room behind it too; no two answers share memory.
func TestMemory(t *testing.T) {
	r := rand.New(rand.NewSource(11))
	for range 300 {
		l := anyList(r, 20)
		for range 5 {
			l = append(l, Cand{Seg: 77, Len: 30, Age: most})
		}
		was := slices.Clone(l)
		handed := l[:len(l)-5]
		first := Order(handed)
		want := slices.Clone(first)
		second := Order(handed)
		Pick(handed, r.Intn(6)-1)
		if !slices.Equal(l, was) {
			t.Fatal(l, was)
		}
		for i := range first[:cap(first)] {
			first[:cap(first)][i] = -7
		}
		if !slices.Equal(second, want) || !slices.Equal(Order(handed), want) {
			t.Fatal(second, want)
		}
		clear(l)
		if !slices.Equal(second, want) {
			t.Fatal(second, want)
		}
	}
}

// R5: the same question has the same answer, whatever was asked between.
func TestSameAnswer(t *testing.T) {
	r := rand.New(rand.NewSource(13))
	for range 300 {
		l, room := anyList(r, 20), r.Intn(7)-1
		place, places := Pick(l, room), Order(l)
		var betters []bool
		for _, c := range l {
			betters = append(betters, Better(c, l[0]))
		}
		other := anyList(r, 20)
		Order(other)
		Pick(other, r.Intn(7))
		again := slices.Clone(l)
		if got := Pick(again, room); got != place {
			t.Fatal(l, room, place, got)
		}
		if got := Order(again); !slices.Equal(got, places) {
			t.Fatal(l, places, got)
		}
		for i, c := range again {
			if Better(c, again[0]) != betters[i] {
				t.Fatal(c, again[0])
			}
		}
	}
}

// R1: no call panics, at the edges of all numbers.
func TestEnds(t *testing.T) {
	numbers := []int{math.MinInt, -1, 0, 30, math.MaxInt}
	var l []Cand
	for _, seg := range numbers {
		for _, records := range numbers {
			for _, lives := range numbers {
				for _, need := range numbers {
					l = append(l, Cand{Seg: seg, Len: records, Live: lives, Need: need, Age: most})
				}
			}
		}
	}
	for _, c := range l {
		Better(c, l[len(l)-1])
		Better(l[0], c)
	}
	for _, room := range numbers {
		if got, want := Pick(l, room), roomPick(l, room); got != want {
			t.Fatal(room, got, want)
		}
	}
	if got := Order(l); len(got) != len(l) {
		t.Fatal(got)
	}
}
