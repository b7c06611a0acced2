package credit

import (
	"math"
	"math/rand"
	"slices"
	"testing"
)

// counts is a number as it counts, by the words of the section 'Words'.
func counts(n, most int) int {
	if n < 0 {
		return 0
	}
	if n > most {
		return most
	}
	return n
}

// modelEarn owes step by step; a step that finds 64 of them is due at once.
func modelEarn(d Debt, rate int) (Debt, int) {
	owed, due := counts(int(d), 64), 0
	for range counts(rate, 8) {
		if owed == 64 {
			due++
		} else {
			owed++
		}
	}
	return Debt(owed), due
}

// modelTake does step by step, as long as one is owed.
func modelTake(d Debt, pick int) (Debt, int) {
	owed, done := counts(int(d), 64), 0
	for range counts(pick, 8) {
		if owed > 0 {
			owed--
			done++
		}
	}
	return Debt(owed), done
}

// modelRun lays zeros behind the shorter list first.
func modelRun(d Debt, rates, picks []int) (Debt, int) {
	rates, picks = slices.Clone(rates), slices.Clone(picks)
	for len(rates) < len(picks) {
		rates = append(rates, 0)
	}
	for len(picks) < len(rates) {
		picks = append(picks, 0)
	}
	left, steps := Debt(counts(int(d), 64)), 0
	for i, rate := range rates {
		var due, done int
		left, due = modelEarn(left, rate)
		left, done = modelTake(left, picks[i])
		steps += due + done
	}
	return left, steps
}

var edges = []int{math.MinInt, math.MinInt + 1, math.MinInt + 8, math.MinInt + 64, -1 << 32, -65, -64, -63, -9, -8, -7, -2, -1,
	0, 1, 2, 3, 7, 8, 9, 10, 31, 32, 55, 56, 57, 58, 59, 60, 61, 62, 63, 64, 65, 66, 71, 72, 73, 100, 127, 128, 255, 256,
	1 << 31, 1 << 32, 1<<32 + 1, math.MaxInt - 64, math.MaxInt - 8, math.MaxInt - 1, math.MaxInt}

func checkEarn(t *testing.T, d Debt, rate int) {
	t.Helper()
	wantDebt, want := modelEarn(d, rate)
	if got, due := Earn(d, rate); got != wantDebt || due != want {
		t.Fatalf("Earn(%d, %d) = %d, %d, want %d, %d", d, rate, got, due, wantDebt, want)
	}
}

func checkTake(t *testing.T, d Debt, pick int) {
	t.Helper()
	wantDebt, want := modelTake(d, pick)
	if got, done := Take(d, pick); got != wantDebt || done != want {
		t.Fatalf("Take(%d, %d) = %d, %d, want %d, %d", d, pick, got, done, wantDebt, want)
	}
}

func checkRun(t *testing.T, d Debt, rates, picks []int) {
	t.Helper()
	wantDebt, want := modelRun(d, rates, picks)
	if got, steps := Run(d, rates, picks); got != wantDebt || steps != want {
		t.Fatalf("Run(%d, %v, %v) = %d, %d, want %d, %d", d, rates, picks, got, steps, wantDebt, want)
	}
}

// P16.1, P16.2: the chapter's examples.
func TestExamples(t *testing.T) {
	if d, due := Earn(62, 5); d != 64 || due != 3 {
		t.Error("Earn(62, 5):", d, due)
	}
	if d, done := Take(5, 3); d != 2 || done != 3 {
		t.Error("Take(5, 3):", d, done)
	}
	if d, done := Take(2, 9); d != 0 || done != 2 {
		t.Error("Take(2, 9):", d, done)
	}
}

// P16.1: sums below, of and above 64; debts and rates that count as others.
func TestEarn(t *testing.T) {
	for _, x := range []struct {
		d    Debt
		rate int
		want Debt
		due  int
	}{
		{0, 0, 0, 0}, {0, 1, 1, 0}, {1, 0, 1, 0}, {1, 1, 2, 0}, {0, 8, 8, 0}, {5, 3, 8, 0},
		{55, 8, 63, 0}, {56, 7, 63, 0}, {62, 1, 63, 0}, {63, 0, 63, 0},
		{56, 8, 64, 0}, {57, 7, 64, 0}, {63, 1, 64, 0}, {64, 0, 64, 0},
		{57, 8, 64, 1}, {58, 7, 64, 1}, {63, 2, 64, 1}, {64, 1, 64, 1},
		{63, 8, 64, 7}, {64, 7, 64, 7}, {64, 8, 64, 8},
		{-1, 0, 0, 0}, {-1, 1, 1, 0}, {-64, 8, 8, 0}, {math.MinInt, 0, 0, 0}, {math.MinInt, 8, 8, 0},
		{65, 0, 64, 0}, {65, 1, 64, 1}, {72, 8, 64, 8}, {math.MaxInt, 0, 64, 0}, {math.MaxInt, 8, 64, 8},
		{5, -1, 5, 0}, {64, -1, 64, 0}, {5, math.MinInt, 5, 0}, {64, math.MinInt, 64, 0},
		{5, 9, 13, 0}, {56, 9, 64, 0}, {64, 9, 64, 8}, {5, math.MaxInt, 13, 0}, {64, math.MaxInt, 64, 8},
		{math.MinInt, math.MinInt, 0, 0}, {math.MinInt, math.MaxInt, 8, 0}, {math.MaxInt, math.MinInt, 64, 0}, {math.MaxInt, math.MaxInt, 64, 8},
	} {
		if d, due := Earn(x.d, x.rate); d != x.want || due != x.due {
			t.Errorf("Earn(%d, %d) = %d, %d, want %d, %d", x.d, x.rate, d, due, x.want, x.due)
		}
	}
}

// P16.2: picks below, of and above the debt; debts and picks that count as others.
func TestTake(t *testing.T) {
	for _, x := range []struct {
		d    Debt
		pick int
		want Debt
		done int
	}{
		{0, 0, 0, 0}, {0, 1, 0, 0}, {0, 8, 0, 0}, {1, 0, 1, 0}, {1, 1, 0, 1}, {1, 2, 0, 1}, {1, 8, 0, 1}, {2, 1, 1, 1},
		{5, 4, 1, 4}, {5, 5, 0, 5}, {5, 6, 0, 5}, {7, 8, 0, 7}, {8, 8, 0, 8}, {9, 8, 1, 8}, {8, 7, 1, 7},
		{56, 8, 48, 8}, {63, 8, 55, 8}, {64, 0, 64, 0}, {64, 1, 63, 1}, {64, 8, 56, 8},
		{-1, 0, 0, 0}, {-1, 1, 0, 0}, {-8, 8, 0, 0}, {math.MinInt, 0, 0, 0}, {math.MinInt, 8, 0, 0},
		{65, 0, 64, 0}, {65, 1, 63, 1}, {72, 8, 56, 8}, {math.MaxInt, 0, 64, 0}, {math.MaxInt, 8, 56, 8},
		{5, -1, 5, 0}, {0, -1, 0, 0}, {5, math.MinInt, 5, 0},
		{2, 9, 0, 2}, {8, 9, 0, 8}, {9, 9, 1, 8}, {64, 9, 56, 8}, {64, 64, 56, 8}, {9, math.MaxInt, 1, 8}, {5, math.MaxInt, 0, 5},
		{math.MinInt, math.MinInt, 0, 0}, {math.MinInt, math.MaxInt, 0, 0}, {math.MaxInt, math.MinInt, 64, 0}, {math.MaxInt, math.MaxInt, 56, 8},
	} {
		if d, done := Take(x.d, x.pick); d != x.want || done != x.done {
			t.Errorf("Take(%d, %d) = %d, %d, want %d, %d", x.d, x.pick, d, done, x.want, x.done)
		}
	}
}

// P16.1, P16.2: all debts and all numbers round about the limits, and the edges of int.
func TestAllOnce(t *testing.T) {
	for d := -20; d <= 150; d++ {
		for n := -20; n <= 150; n++ {
			checkEarn(t, Debt(d), n)
			checkTake(t, Debt(d), n)
		}
	}
	for _, d := range edges {
		for _, n := range edges {
			checkEarn(t, Debt(d), n)
			checkTake(t, Debt(d), n)
		}
	}
}

// P16.1 to P16.4, R1: any ints at all.
func TestAnyOnce(t *testing.T) {
	r := rand.New(rand.NewSource(16))
	for range 20000 {
		d, n := Debt(r.Uint64()>>r.Intn(64)), int(r.Uint64()>>r.Intn(64))
		if r.Intn(2) == 0 {
			d = -d
		}
		if r.Intn(2) == 0 {
			n = -n
		}
		checkEarn(t, d, n)
		checkTake(t, d, n)
		checkRun(t, d, []int{n, n}, []int{n})
	}
}

// P16.3: worked by hand.
func TestRun(t *testing.T) {
	for _, x := range []struct {
		d            Debt
		rates, picks []int
		want         Debt
		steps        int
	}{
		{0, nil, nil, 0, 0}, {5, nil, nil, 5, 0}, {64, []int{}, []int{}, 64, 0}, {5, nil, []int{}, 5, 0}, {5, []int{}, nil, 5, 0},
		// A debt counts, also where there is nothing to go through.
		{-1, nil, nil, 0, 0}, {65, nil, nil, 64, 0}, {math.MinInt, nil, nil, 0, 0}, {math.MaxInt, nil, nil, 64, 0}, {99, []int{}, []int{}, 64, 0},
		// Picks alone, rates alone.
		{5, nil, []int{3}, 2, 3}, {5, []int{}, []int{3}, 2, 3}, {5, nil, []int{3, 3}, 0, 5}, {5, nil, []int{0, 1, 0, 1}, 3, 2},
		{5, []int{3}, nil, 8, 0}, {5, []int{3}, []int{}, 8, 0}, {60, []int{3, 3}, nil, 64, 2}, {64, []int{8, 8, 8}, nil, 64, 24},
		// As many of each: the rate comes ahead of the pick.
		{0, []int{2}, []int{2}, 0, 2}, {0, []int{2, 0}, []int{0, 2}, 0, 2}, {0, []int{0, 2}, []int{2, 0}, 2, 0}, {0, []int{1, 1}, []int{1, 1}, 0, 2},
		// Steps due at once, and done, in one turn: with the pick ahead 64 would be left.
		{64, []int{8}, []int{8}, 56, 16}, {63, []int{2}, []int{1}, 63, 2}, {60, []int{8, 8}, []int{4, 4}, 60, 16},
		// Due at once in one turn, done in another.
		{64, []int{3, 0}, []int{0, 5}, 59, 8}, {62, []int{0, 5, 1}, []int{1, 0, 0}, 64, 4},
		// More rates than picks, more picks than rates.
		{0, []int{3, 3, 3}, []int{1}, 8, 1}, {62, []int{1, 1, 1, 1}, []int{1}, 64, 2}, {10, []int{1}, []int{3, 3, 3, 3}, 0, 11}, {64, []int{1}, []int{0, 8}, 56, 9},
		// Rates and picks that count as others.
		{5, []int{-3}, []int{-3}, 5, 0}, {5, []int{99}, []int{2}, 11, 2}, {5, []int{3}, []int{99}, 0, 8}, {64, []int{99}, []int{99}, 56, 16},
		{5, []int{math.MinInt, math.MaxInt}, []int{math.MaxInt, math.MinInt}, 8, 5}, {-7, []int{1}, []int{0}, 1, 0}, {72, []int{8}, []int{0}, 64, 8},
	} {
		if d, steps := Run(x.d, x.rates, x.picks); d != x.want || steps != x.steps {
			t.Errorf("Run(%d, %v, %v) = %d, %d, want %d, %d", x.d, x.rates, x.picks, d, steps, x.want, x.steps)
		}
	}
}

// lists are all lists of up to most numbers of some.
func lists(some []int, most int) [][]int {
	all, from := [][]int{nil, {}}, 1
	for range most {
		to := len(all)
		for _, l := range all[from:to] {
			for _, n := range some {
				all = append(all, append(slices.Clone(l), n))
			}
		}
		from = to
	}
	return all
}

// P16.3: all lists of up to three of six numbers, at debts of all edges.
func TestAllRuns(t *testing.T) {
	all := lists([]int{-1, 0, 1, 3, 8, 9}, 3)
	for _, d := range []Debt{-1, 0, 1, 4, 56, 59, 62, 63, 64, 65} {
		for _, rates := range all {
			for _, picks := range all {
				checkRun(t, d, rates, picks)
			}
		}
	}
}

// P16.3: one number of each list, and none of one, at all edges.
func TestRunEdges(t *testing.T) {
	for _, d := range edges {
		checkRun(t, Debt(d), nil, nil)
		for _, rate := range edges {
			checkRun(t, Debt(d), []int{rate}, nil)
			checkRun(t, Debt(d), nil, []int{rate})
			for _, pick := range edges {
				checkRun(t, Debt(d), []int{rate}, []int{pick})
			}
		}
	}
}

// P16.3: Run is Earn and Take, one behind the other, and goes on where it was.
func TestRunInParts(t *testing.T) {
	r := rand.New(rand.NewSource(163))
	for range 500 {
		d := Debt(r.Intn(90) - 10)
		rates, picks := numbers(r, r.Intn(40)), numbers(r, r.Intn(40))
		checkRun(t, d, rates, picks)
		turns := max(len(rates), len(picks))
		rates, picks = padded(rates, turns), padded(picks, turns)
		whole, all := Run(d, rates, picks)
		cut := r.Intn(turns + 1)
		half, first := Run(d, rates[:cut], picks[:cut])
		if left, second := Run(half, rates[cut:], picks[cut:]); left != whole || first+second != all {
			t.Fatal(d, rates, picks, cut, left, first, second, whole, all)
		}
		one, steps := d, 0
		for i := range turns {
			var due, done int
			one, due = Earn(one, rates[i])
			one, done = Take(one, picks[i])
			steps += due + done
		}
		if turns > 0 && (one != whole || steps != all) {
			t.Fatal(d, rates, picks, one, steps, whole, all)
		}
	}
}

func numbers(r *rand.Rand, n int) []int {
	l := make([]int, n)
	for i := range l {
		l[i] = r.Intn(13) - 2
	}
	return l
}

func padded(l []int, n int) []int { return append(slices.Clone(l), make([]int, n-len(l))...) }

// P16.3, R1: lists of many numbers, one of them far longer than the other.
func TestLongRuns(t *testing.T) {
	r := rand.New(rand.NewSource(164))
	long, short := numbers(r, 100000), numbers(r, 7)
	for _, d := range []Debt{-5, 0, 7, 64, 70} {
		checkRun(t, d, long, long)
		checkRun(t, d, long, short)
		checkRun(t, d, short, long)
		checkRun(t, d, long, nil)
		checkRun(t, d, nil, long)
	}
	eights := slices.Repeat([]int{8}, 1<<20)
	if d, steps := Run(64, eights, eights); d != 56 || steps != 8<<20+8 {
		t.Error("eights:", d, steps)
	}
	if d, steps := Run(64, eights, nil); d != 64 || steps != 8<<20 {
		t.Error("eights, no picks:", d, steps)
	}
}

// P16.4: the debt behind, and the steps, are the debt ahead, and the rates; and no debt is beyond its limits.
func TestNothingLost(t *testing.T) {
	held := func(behind Debt, steps, ahead int) bool {
		return behind >= 0 && behind <= 64 && steps >= 0 && int(behind)+steps == ahead
	}
	for _, d := range edges {
		for _, n := range edges {
			debt := counts(d, 64)
			if behind, due := Earn(Debt(d), n); !held(behind, due, debt+counts(n, 8)) {
				t.Fatal("Earn", d, n, behind, due)
			}
			if behind, done := Take(Debt(d), n); !held(behind, done, debt) || done > counts(n, 8) {
				t.Fatal("Take", d, n, behind, done)
			}
		}
	}
	r := rand.New(rand.NewSource(165))
	for range 2000 {
		d := edges[r.Intn(len(edges))]
		rates, picks := numbers(r, r.Intn(100)), numbers(r, r.Intn(100))
		ahead := counts(d, 64)
		for _, rate := range rates {
			ahead += counts(rate, 8)
		}
		if behind, steps := Run(Debt(d), rates, picks); !held(behind, steps, ahead) {
			t.Fatal("Run", d, rates, picks, behind, steps, ahead)
		}
	}
}

// windows are so many windows of picks, each with one that is not 0.
func windows(r *rand.Rand, many, size, most int) []int {
	var picks []int
	for range many {
		window := make([]int, size)
		window[r.Intn(size)] = 1 + r.Intn(most)
		picks = append(picks, window...)
	}
	return picks
}

// P16.4: a debt is done behind as many windows as it is great; of picks of 1 in fewer windows it is not.
func TestWindows(t *testing.T) {
	r := rand.New(rand.NewSource(166))
	for d := range 65 {
		for size := 1; size <= 10; size++ {
			for _, most := range []int{1, 2, 8, 100, math.MaxInt - 1} {
				if left, done := Run(Debt(d), nil, windows(r, d, size, most)); left != 0 || done != d {
					t.Fatal("not done:", d, size, most, left, done)
				}
			}
			if d > 0 {
				if left, done := Run(Debt(d), nil, windows(r, d-1, size, 1)); left != 1 || done != d-1 {
					t.Fatal("not one left:", d, size, left, done)
				}
			}
		}
	}
	for _, d := range []Debt{65, 1000, math.MaxInt} {
		if left, done := Run(d, nil, windows(r, 64, 3, 1)); left != 0 || done != 64 {
			t.Fatal("not done:", d, left, done)
		}
	}
}

// P16.4: as many steps as were owed come within as many windows, also where more is earned within them.
func TestWindowsWithRates(t *testing.T) {
	r := rand.New(rand.NewSource(167))
	for range 2000 {
		d, size := r.Intn(65), 1+r.Intn(6)
		picks := windows(r, d, size, 9)
		if _, steps := Run(Debt(d), numbers(r, r.Intn(len(picks)+1)), picks); steps < d {
			t.Fatal(d, size, picks, steps)
		}
	}
}

// P16.4: picks that count as 0 do nothing, however many there are.
func TestNoPicks(t *testing.T) {
	for _, none := range []int{0, -1, -8, math.MinInt} {
		if left, done := Run(40, nil, slices.Repeat([]int{none}, 1000)); left != 40 || done != 0 {
			t.Error(none, left, done)
		}
	}
}

// R3: a nil list and an empty one are the same.
func TestNilAndEmpty(t *testing.T) {
	for _, d := range edges {
		for _, l := range [][]int{nil, {3}, {0, 8, 8}, slices.Repeat([]int{8}, 20)} {
			nilDebt, nilSteps := Run(Debt(d), nil, l)
			if debt, steps := Run(Debt(d), []int{}, l); debt != nilDebt || steps != nilSteps {
				t.Error("rates", d, l, debt, steps, nilDebt, nilSteps)
			}
			nilDebt, nilSteps = Run(Debt(d), l, nil)
			if debt, steps := Run(Debt(d), l, []int{}); debt != nilDebt || steps != nilSteps {
				t.Error("picks", d, l, debt, steps, nilDebt, nilSteps)
			}
		}
	}
}

// P16.3: numbers that stand in a list's spare room are none of its numbers.
func TestSpareRoom(t *testing.T) {
	room := []int{1, 2, 8, 8, 8, 8}
	want, all := modelRun(60, []int{1, 2}, []int{1, 2, 8, 8})
	if d, steps := Run(60, room[:2], room[:4]); d != want || steps != all {
		t.Error(d, steps, want, all)
	}
	want, all = modelRun(60, nil, []int{1, 2})
	if d, steps := Run(60, room[:0], room[:2]); d != want || steps != all {
		t.Error(d, steps, want, all)
	}
}

// R4: the lists are as they were, their spare room too, also where both are one list or share room.
func TestMemory(t *testing.T) {
	full := []int{math.MinInt, -1, 0, 1, 3, 8, 9, math.MaxInt, 5, 0, 8, -7}
	for _, d := range edges {
		for from := range full {
			for to := from; to <= len(full); to++ {
				room := slices.Clone(full)
				rates, picks := room[from:to:to], room[:to-from]
				for _, pair := range [][2][]int{{rates, rates}, {rates, picks}, {picks, rates}, {room, picks}, {rates, room}, {room, room}} {
					apart := [2][]int{slices.Clone(pair[0]), slices.Clone(pair[1])}
					want, all := modelRun(Debt(d), apart[0], apart[1])
					if debt, steps := Run(Debt(d), pair[0], pair[1]); debt != want || steps != all {
						t.Fatal("shared room:", d, pair, debt, steps, want, all)
					}
					if !slices.Equal(room, full) {
						t.Fatal("changed:", d, from, to, room)
					}
				}
			}
		}
	}
}

// R4: no list is kept: what is written into it later changes no answer.
func TestNotKept(t *testing.T) {
	rates, picks := []int{8, 8, 8}, []int{1, 1, 1}
	Run(60, rates, picks)
	clear(rates)
	clear(picks)
	if d, steps := Run(60, rates, picks); d != 60 || steps != 0 {
		t.Error(d, steps)
	}
	if d, steps := Run(60, []int{8, 8, 8}, []int{1, 1, 1}); d != 63 || steps != 21 {
		t.Error(d, steps)
	}
}

// R5: the same question has the same answer, whatever was asked between.
func TestSameAnswer(t *testing.T) {
	type answer struct {
		earned, taken, left Debt
		due, done, steps    int
	}
	ask := func(d, n int) answer {
		var a answer
		a.earned, a.due = Earn(Debt(d), n)
		a.taken, a.done = Take(Debt(d), n)
		a.left, a.steps = Run(Debt(d), []int{n, 3, n}, []int{n, n})
		return a
	}
	first := map[[2]int]answer{}
	for _, d := range edges {
		for _, n := range edges {
			first[[2]int{d, n}] = ask(d, n)
		}
	}
	for _, n := range edges {
		for _, d := range edges {
			if again := ask(d, n); again != first[[2]int{d, n}] {
				t.Fatal(d, n, again, first[[2]int{d, n}])
			}
		}
	}
}
