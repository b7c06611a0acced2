package sweep

import (
	"math"
	"math/rand"
	"slices"
	"testing"

	"lodger/api"
)

func same(a, b State) bool {
	return slices.Equal(a.Todo, b.Todo) && a.Victim == b.Victim && a.Scan == b.Scan && a.Len == b.Len
}

// modelRight goes by the words of 'A state may be', one by one.
func modelRight(s State) bool {
	times := map[int]int{}
	for _, seg := range s.Todo {
		times[seg]++
	}
	for seg, n := range times {
		if n > 1 || seg < 0 || seg > 15 {
			return false
		}
	}
	victim := s.Victim >= 0 && s.Victim <= 15 && s.Len >= 0 && s.Len <= 30 && s.Scan >= 0 && s.Scan <= s.Len
	noVictim := s.Victim == -1 && s.Scan == 0 && s.Len == 0
	return len(s.Todo) <= 16 && times[s.Victim] == 0 && (victim || noVictim)
}

func modelNext(s State, garbage bool) int {
	if s.Victim != -1 && s.Scan < s.Len {
		return Look
	}
	if s.Victim != -1 {
		return Give
	}
	if len(s.Todo) > 0 {
		return Choose
	}
	if garbage {
		return Start
	}
	return Rest
}

func modelBegin(s State, segs []int) (State, api.Errno) {
	begun := State{Todo: segs, Victim: -1}
	if s.Victim == -1 && len(s.Todo) == 0 && modelRight(begun) {
		return begun, api.OK
	}
	return State{}, api.ErrArg
}

func modelTake(s State, seg, n int) (State, api.Errno) {
	var others []int
	for _, other := range s.Todo {
		if other != seg {
			others = append(others, other)
		}
	}
	if s.Victim == -1 && len(others) < len(s.Todo) && n >= 0 && n <= 30 {
		return State{Todo: others, Victim: seg, Len: n}, api.OK
	}
	return State{}, api.ErrArg
}

func modelSeen(s State) (State, api.Errno) {
	if modelNext(s, true) == Look {
		return State{Todo: s.Todo, Victim: s.Victim, Scan: s.Scan + 1, Len: s.Len}, api.OK
	}
	return State{}, api.ErrArg
}

func modelGiven(s State) (State, api.Errno) {
	if modelNext(s, true) == Give {
		return State{Todo: s.Todo, Victim: -1}, api.OK
	}
	return State{}, api.ErrArg
}

func modelNeed(s State, slots int) int {
	if s.Victim == -1 {
		return slots
	}
	return s.Len - s.Scan
}

// modelLeft counts one by one.
func modelLeft(s State, slots int) int {
	left := 0
	for range s.Todo {
		left += slots
		left += 2
	}
	if s.Victim != -1 {
		left += s.Len - s.Scan
		left++
	}
	return left
}

var (
	edges = []int{math.MinInt, math.MinInt + 1, -31, -17, -16, -2, -1, 0, 1, 2, 14, 15, 16, 17, 29, 30, 31, 32, 1 << 32, math.MaxInt - 1, math.MaxInt}
	all   = []int{0, 1, 2, 3, 4, 5, 6, 7, 8, 9, 10, 11, 12, 13, 14, 15}
)

// todos are lists that may be, short ones, and those of 15 and 16.
func todos() [][]int {
	return [][]int{nil, {}, {0}, {7}, {15}, {0, 15}, {15, 0}, {2, 5}, {9, 3, 4}, {3, 4, 9}, {14, 1, 15, 0},
		all[1:], all[:15], all, reversed(all)}
}

// wrongTodos are lists that may not be, whatever the Victim is.
func wrongTodos() [][]int {
	return [][]int{{-1}, {-2}, {16}, {17}, {math.MinInt}, {math.MaxInt}, {1 << 32}, {3, -1}, {-1, 3}, {3, 16}, {16, 3}, {3, -1, 4},
		{0, 0}, {15, 15}, {3, 3}, {3, 4, 3}, {3, 3, 4}, {4, 3, 3}, {-1, -1}, {16, 16},
		append(slices.Clone(all), 0), append(slices.Clone(all), 15), append(slices.Clone(all), 16), append(slices.Clone(all), -1),
		append(slices.Clone(all[:15]), 0), append(slices.Clone(all[:15]), 14), append(slices.Clone(all[:15]), 16),
		append([]int{15}, all...), append([]int{16}, all...), append([]int{-1}, all[1:]...), make([]int, 17), make([]int, 1000)}
}

func reversed(l []int) []int {
	l = slices.Clone(l)
	slices.Reverse(l)
	return l
}

// states are states that may be, of each list with each victim and edges of Len and Scan.
func states() []State {
	var l []State
	for _, todo := range todos() {
		l = append(l, State{Todo: todo, Victim: -1})
		for victim := range 16 {
			for _, n := range []int{0, 1, 2, 15, 29, 30} {
				for _, scan := range []int{0, 1, 2, n - 1, n} {
					if s := (State{Todo: todo, Victim: victim, Scan: scan, Len: n}); modelRight(s) {
						l = append(l, s)
					}
				}
			}
		}
	}
	return l
}

func anyState(r *rand.Rand) State {
	s := State{Todo: r.Perm(16)[:r.Intn(17)], Victim: -1}
	if r.Intn(2) == 0 && len(s.Todo) > 0 {
		s.Victim = s.Todo[0]
		s.Todo = s.Todo[1:]
		s.Len = r.Intn(31)
		s.Scan = r.Intn(s.Len + 1)
	}
	return s
}

// answered holds what a call has answered against what is to be.
func answered(t *testing.T, call string, s, got State, err api.Errno, want State, wantErr api.Errno) {
	t.Helper()
	if !same(got, want) || err != wantErr {
		t.Fatalf("%s of %v = %v, %d, want %v, %d", call, s, got, err, want, wantErr)
	}
	if err == api.OK && !Right(got) {
		t.Fatalf("%s of %v = %v, that may not be", call, s, got)
	}
}

func heldBegin(t *testing.T, s State, segs []int) {
	t.Helper()
	got, err := Begin(s, segs)
	want, wantErr := modelBegin(s, segs)
	answered(t, "Begin", s, got, err, want, wantErr)
}

func heldTake(t *testing.T, s State, seg, n int) {
	t.Helper()
	got, err := Take(s, seg, n)
	want, wantErr := modelTake(s, seg, n)
	answered(t, "Take", s, got, err, want, wantErr)
}

func heldStep(t *testing.T, s State) {
	t.Helper()
	got, err := Seen(s)
	want, wantErr := modelSeen(s)
	answered(t, "Seen", s, got, err, want, wantErr)
	got, err = Given(s)
	want, wantErr = modelGiven(s)
	answered(t, "Given", s, got, err, want, wantErr)
}

func next(t *testing.T, s State, garbage bool, want int) {
	t.Helper()
	if got := Next(s, garbage); got != want {
		t.Fatalf("Next(%v, %v) = %d, want %d", s, garbage, got, want)
	}
}

func right(t *testing.T, s State, want bool) {
	t.Helper()
	if got := Right(s); got != want {
		t.Fatalf("Right(%v) = %v", s, got)
	}
}

// must is what a call answers that has no error.
func must(t *testing.T) func(s State, err api.Errno) State {
	return func(s State, err api.Errno) State {
		t.Helper()
		if err != api.OK || !Right(s) {
			t.Fatal(s, err)
		}
		return s
	}
}

// P15.1, P15.2, P15.3: the chapter's example.
func TestExample(t *testing.T) {
	s := must(t)(Begin(Idle(), []int{2, 5}))
	next(t, s, false, Choose)
	next(t, s, true, Choose)
	s = must(t)(Take(s, 5, 3))
	if !same(s, State{Todo: []int{2}, Victim: 5, Len: 3}) {
		t.Fatal(s)
	}
	for scan := range 3 {
		next(t, s, false, Look)
		next(t, s, true, Look)
		s = must(t)(Seen(s))
		if !same(s, State{Todo: []int{2}, Victim: 5, Scan: scan + 1, Len: 3}) {
			t.Fatal(s)
		}
	}
	next(t, s, false, Give)
	next(t, s, true, Give)
	s = must(t)(Given(s))
	if !same(s, State{Todo: []int{2}, Victim: -1}) {
		t.Fatal(s)
	}
	next(t, s, false, Choose)
}

// P15.1: the kinds' numbers.
func TestKinds(t *testing.T) {
	if Rest != 0 || Start != 1 || Choose != 2 || Look != 3 || Give != 4 || Kinds != 5 {
		t.Fatal(Rest, Start, Choose, Look, Give, Kinds)
	}
}

// P15.1: of no sweep there is neither Todo nor Victim.
func TestIdle(t *testing.T) {
	s := Idle()
	if len(s.Todo) != 0 || s.Victim != -1 || s.Scan != 0 || s.Len != 0 {
		t.Fatal(s)
	}
	right(t, s, true)
	next(t, s, false, Rest)
	next(t, s, true, Start)
}

// P15.1: Todo empty, of one, of 16 and of 17 numbers, with a number twice, and with numbers that are none.
func TestRightTodo(t *testing.T) {
	for _, todo := range todos() {
		right(t, State{Todo: todo, Victim: -1}, true)
	}
	for _, todo := range wrongTodos() {
		for victim := -2; victim <= 16; victim++ {
			right(t, State{Todo: todo, Victim: victim}, false)
		}
	}
	for _, seg := range edges {
		right(t, State{Todo: []int{seg}, Victim: -1}, seg >= 0 && seg <= 15)
		right(t, State{Todo: []int{8, seg}, Victim: -1}, seg >= 0 && seg <= 15)
		right(t, State{Todo: []int{8, seg, 9}, Victim: 3, Len: 2}, seg >= 0 && seg <= 15)
	}
	for n := range 17 {
		right(t, State{Todo: all[:n], Victim: -1}, true)
		for _, seg := range all[:n] {
			right(t, State{Todo: append(slices.Clone(all[:n]), seg), Victim: -1}, false)
			right(t, State{Todo: append([]int{seg}, all[:n]...), Victim: -1}, false)
		}
	}
}

// P15.1: the Victim is none of Todo.
func TestRightVictimInTodo(t *testing.T) {
	for victim := range 16 {
		right(t, State{Todo: all, Victim: victim}, false)
		for _, todo := range [][]int{{victim}, {victim, (victim + 1) % 16}, {(victim + 3) % 16, victim}, {(victim + 3) % 16, victim, (victim + 5) % 16}} {
			right(t, State{Todo: todo, Victim: victim}, false)
			right(t, State{Todo: todo, Victim: victim, Scan: 1, Len: 2}, false)
			right(t, State{Todo: todo, Victim: -1}, true)
		}
		others := slices.DeleteFunc(slices.Clone(all), func(seg int) bool { return seg == victim })
		right(t, State{Todo: others, Victim: victim}, true)
		right(t, State{Todo: reversed(others), Victim: victim, Scan: 30, Len: 30}, true)
	}
}

// P15.1: Victim below -1, -1, 0, 15 and above 15, and with each of them all of Len and Scan.
func TestRightNumbers(t *testing.T) {
	for _, todo := range [][]int{nil, {3}, {4, 5}} {
		for _, victim := range edges {
			for _, n := range edges {
				for _, scan := range edges {
					s := State{Todo: todo, Victim: victim, Scan: scan, Len: n}
					right(t, s, modelRight(s))
				}
			}
		}
	}
	for victim := -3; victim <= 18; victim++ {
		for n := -2; n <= 33; n++ {
			for scan := -2; scan <= 33; scan++ {
				s := State{Victim: victim, Scan: scan, Len: n}
				right(t, s, modelRight(s))
			}
		}
	}
}

// P15.1: the edges of Len and Scan, and each of them with no Victim.
func TestRightEdges(t *testing.T) {
	for _, x := range []struct {
		victim, scan, n int
		want            bool
	}{
		{-1, 0, 0, true}, {-1, 0, 1, false}, {-1, 1, 0, false}, {-1, 1, 1, false}, {-1, 0, -1, false}, {-1, -1, 0, false}, {-1, 30, 30, false},
		{-2, 0, 0, false}, {-2, 1, 2, false}, {16, 0, 0, false}, {16, 1, 2, false}, {math.MinInt, 0, 0, false}, {math.MaxInt, 0, 0, false},
		{0, 0, 0, true}, {15, 0, 0, true}, {0, 0, 30, true}, {15, 30, 30, true}, {7, 29, 30, true}, {7, 1, 1, true},
		{0, 0, 31, false}, {15, 31, 31, false}, {0, 30, 31, false}, {0, 0, -1, false}, {0, -1, -1, false}, {0, -2, -1, false},
		{0, -1, 0, false}, {0, 1, 0, false}, {0, -1, 30, false}, {0, 31, 30, false}, {7, 4, 3, false}, {7, 3, 3, true},
	} {
		right(t, State{Victim: x.victim, Scan: x.scan, Len: x.n}, x.want)
		right(t, State{Todo: []int{1, 14}, Victim: x.victim, Scan: x.scan, Len: x.n}, x.want)
	}
}

// P15.1: all lists of up to four out of eight numbers, with each victim.
func TestRightAllLists(t *testing.T) {
	lists := [][]int{nil}
	for at := 0; at < len(lists); at++ {
		l := lists[at]
		for _, victim := range []int{-2, -1, 0, 1, 14, 15, 16} {
			s := State{Todo: l, Victim: victim}
			right(t, s, modelRight(s))
		}
		for _, seg := range []int{-1, 0, 1, 2, 14, 15, 16, 17} {
			if len(l) < 4 {
				lists = append(lists, append(slices.Clone(l), seg))
			}
		}
	}
	if len(lists) != 1+8+64+512+4096 {
		t.Fatal(len(lists))
	}
}

// P15.1: with each Len and Scan, with and without Todo and garbage.
func TestNext(t *testing.T) {
	for _, todo := range [][]int{nil, {}, {3}, {15, 0, 3}, all[1:15]} {
		for _, garbage := range []bool{false, true} {
			for _, victim := range []int{0, 15, 8} {
				if slices.Contains(todo, victim) {
					continue
				}
				for n := range 31 {
					for scan := range n {
						next(t, State{Todo: todo, Victim: victim, Scan: scan, Len: n}, garbage, Look)
					}
					next(t, State{Todo: todo, Victim: victim, Scan: n, Len: n}, garbage, Give)
				}
			}
		}
		want := [2]int{Choose, Choose}
		if len(todo) == 0 {
			want = [2]int{Rest, Start}
		}
		next(t, State{Todo: todo, Victim: -1}, false, want[0])
		next(t, State{Todo: todo, Victim: -1}, true, want[1])
	}
	next(t, State{Todo: all, Victim: -1}, false, Choose)
	next(t, State{Todo: all, Victim: -1}, true, Choose)
}

// P15.2: Begin with a Todo left, with a Victim, and with none.
func TestBegin(t *testing.T) {
	for _, segs := range append(todos(), wrongTodos()...) {
		heldBegin(t, Idle(), segs)
		for _, s := range states() {
			heldBegin(t, s, segs)
		}
	}
	for _, s := range []State{{Todo: []int{3}, Victim: -1}, {Todo: all, Victim: -1}, {Victim: 0}, {Victim: 15, Len: 4}, {Victim: 1, Scan: 2, Len: 2}, {Todo: []int{3}, Victim: 4}} {
		for _, segs := range [][]int{nil, {}, {1}, {3}, {5, 6}, all} {
			if got, err := Begin(s, segs); err != api.ErrArg || !same(got, State{}) {
				t.Fatal(s, segs, got, err)
			}
		}
	}
	for _, segs := range todos() {
		if got, err := Begin(Idle(), segs); err != api.OK || !same(got, State{Todo: segs, Victim: -1}) {
			t.Fatal(segs, got, err)
		}
		if got, err := Begin(State{Todo: []int{}, Victim: -1}, segs); err != api.OK || !same(got, State{Todo: segs, Victim: -1}) {
			t.Fatal(segs, got, err)
		}
	}
	for _, segs := range wrongTodos() {
		if got, err := Begin(Idle(), segs); err != api.ErrArg || !same(got, State{}) {
			t.Fatal(segs, got, err)
		}
	}
}

// P15.2: Take of the first, a middle and the last one, of one that is not to come, with each n.
func TestTake(t *testing.T) {
	s := State{Todo: []int{9, 0, 4, 15, 2}, Victim: -1}
	for _, x := range []struct {
		seg    int
		others []int
	}{{9, []int{0, 4, 15, 2}}, {0, []int{9, 4, 15, 2}}, {4, []int{9, 0, 15, 2}}, {15, []int{9, 0, 4, 2}}, {2, []int{9, 0, 4, 15}}} {
		for n := range 31 {
			if got, err := Take(s, x.seg, n); err != api.OK || !same(got, State{Todo: x.others, Victim: x.seg, Len: n}) {
				t.Fatal(x, n, got, err)
			}
		}
		for _, n := range []int{-1, -2, 31, 32, math.MinInt, math.MaxInt} {
			if got, err := Take(s, x.seg, n); err != api.ErrArg || !same(got, State{}) {
				t.Fatal(x, n, got, err)
			}
		}
	}
	for _, seg := range []int{-2, -1, 1, 3, 14, 16, math.MinInt, math.MaxInt} {
		for _, n := range []int{0, 1, 30} {
			if got, err := Take(s, seg, n); err != api.ErrArg || !same(got, State{}) {
				t.Fatal(seg, n, got, err)
			}
		}
	}
	if got, err := Take(State{Todo: []int{6}, Victim: -1}, 6, 0); err != api.OK || !same(got, State{Victim: 6}) {
		t.Fatal(got, err)
	}
}

// P15.2: Take with a Victim, of the Victim too, and with nothing to come.
func TestTakeWrong(t *testing.T) {
	for _, s := range []State{{Todo: []int{3, 4}, Victim: 0}, {Todo: []int{3, 4}, Victim: 5, Scan: 1, Len: 2}, {Todo: []int{3, 4}, Victim: 15, Scan: 2, Len: 2}, {Victim: 3, Len: 1}, Idle()} {
		for _, seg := range []int{-1, 0, 3, 4, 5, 15} {
			for _, n := range []int{-1, 0, 1, 2, 30, 31} {
				if got, err := Take(s, seg, n); err != api.ErrArg || !same(got, State{}) {
					t.Fatal(s, seg, n, got, err)
				}
			}
		}
	}
}

// P15.2, P15.3: all states of edges, with all numbers at their edges.
func TestStepsOfEdges(t *testing.T) {
	for _, s := range states() {
		heldStep(t, s)
		for _, n := range []int{-1, 0, 1, 29, 30, 31} {
			for seg := -2; seg <= 17; seg++ {
				heldTake(t, s, seg, n)
			}
		}
		for _, n := range edges {
			for _, seg := range edges {
				heldTake(t, s, seg, n)
			}
		}
	}
}

// P15.3: Seen where Next is not Look, Given where Next is not Give, with garbage and without.
func TestSeenGiven(t *testing.T) {
	for _, todo := range [][]int{nil, {3}, {9, 3, 4}, all[1:]} {
		for n := range 31 {
			for scan := range n {
				s := State{Todo: todo, Victim: 0, Scan: scan, Len: n}
				if got, err := Seen(s); err != api.OK || !same(got, State{Todo: todo, Victim: 0, Scan: scan + 1, Len: n}) {
					t.Fatal(s, got, err)
				}
				if got, err := Given(s); err != api.ErrArg || !same(got, State{}) {
					t.Fatal(s, got, err)
				}
			}
			s := State{Todo: todo, Victim: 0, Scan: n, Len: n}
			if got, err := Given(s); err != api.OK || !same(got, State{Todo: todo, Victim: -1}) {
				t.Fatal(s, got, err)
			}
			if got, err := Seen(s); err != api.ErrArg || !same(got, State{}) {
				t.Fatal(s, got, err)
			}
		}
		s := State{Todo: todo, Victim: -1}
		if got, err := Seen(s); err != api.ErrArg || !same(got, State{}) {
			t.Fatal(s, got, err)
		}
		if got, err := Given(s); err != api.ErrArg || !same(got, State{}) {
			t.Fatal(s, got, err)
		}
	}
}

// P15.3: each state goes on by exactly the call that Next names, whether there is garbage or not.
func TestStepsByNext(t *testing.T) {
	for _, s := range states() {
		for _, garbage := range []bool{false, true} {
			_, seen := Seen(s)
			_, given := Given(s)
			if step := Next(s, garbage); (seen == api.OK) != (step == Look) || (given == api.OK) != (step == Give) {
				t.Fatal(s, garbage, step, seen, given)
			}
		}
	}
}

// P15.4: slots 0, 30 and between, with a Victim and without.
func TestNeedLeft(t *testing.T) {
	for _, x := range []struct {
		s                 State
		slots, need, left int
	}{
		{Idle(), 0, 0, 0}, {Idle(), 7, 7, 0}, {Idle(), 30, 30, 0},
		{State{Todo: []int{3}, Victim: -1}, 0, 0, 2}, {State{Todo: []int{3}, Victim: -1}, 30, 30, 32}, {State{Todo: []int{3, 4, 9}, Victim: -1}, 5, 5, 21},
		{State{Todo: all, Victim: -1}, 0, 0, 32}, {State{Todo: all, Victim: -1}, 30, 30, 512},
		{State{Victim: 0}, 0, 0, 1}, {State{Victim: 0}, 30, 0, 1}, {State{Victim: 15, Len: 30}, 30, 30, 31}, {State{Victim: 15, Len: 30}, 0, 30, 31},
		{State{Victim: 15, Scan: 12, Len: 30}, 30, 18, 19}, {State{Victim: 15, Scan: 29, Len: 30}, 4, 1, 2}, {State{Victim: 15, Scan: 30, Len: 30}, 4, 0, 1},
		{State{Todo: []int{3, 4}, Victim: 8, Scan: 2, Len: 7}, 10, 5, 30}, {State{Todo: []int{3, 4}, Victim: 8, Scan: 2, Len: 7}, 0, 5, 10},
		{State{Todo: all[1:], Victim: 0, Len: 30}, 30, 30, 511}, {State{Todo: all[1:], Victim: 0, Scan: 30, Len: 30}, 0, 0, 31},
	} {
		if need, left := Need(x.s, x.slots), Left(x.s, x.slots); need != x.need || left != x.left {
			t.Errorf("of %v, %d: Need %d, want %d, Left %d, want %d", x.s, x.slots, need, x.need, left, x.left)
		}
	}
	for _, s := range states() {
		for slots := range 31 {
			if need, left := Need(s, slots), Left(s, slots); need != modelNeed(s, slots) || left != modelLeft(s, slots) {
				t.Fatal(s, slots, need, left)
			}
		}
	}
}

// course goes through a sweep to its end, by segments and records as they come, and counts its steps.
func course(t *testing.T, r *rand.Rand, segs []int, slots int) int {
	t.Helper()
	s := must(t)(Begin(Idle(), segs))
	steps := 0
	var taken []int
	for step := Next(s, false); step != Rest; step = Next(s, r.Intn(2) == 0) {
		left := Left(s, slots)
		switch step {
		case Choose:
			seg := s.Todo[r.Intn(len(s.Todo))]
			taken = append(taken, seg)
			s = must(t)(Take(s, seg, r.Intn(slots+1)))
		case Look:
			s = must(t)(Seen(s))
		case Give:
			s = must(t)(Given(s))
		default:
			if !same(s, Idle()) || step != Start {
				t.Fatal(s, step)
			}
			continue
		}
		if Left(s, slots) >= left || left <= 0 {
			t.Fatal(s, "left", left, "and then", Left(s, slots))
		}
		steps++
	}
	slices.Sort(taken)
	if want := slices.Sorted(slices.Values(segs)); !slices.Equal(taken, want) || !same(s, Idle()) || Left(s, slots) != 0 {
		t.Fatal(segs, taken, s)
	}
	return steps
}

// P15.5: whole sweeps, at any segments and slots, end with each segment taken once, in no more steps than were left.
func TestWholeSweeps(t *testing.T) {
	r := rand.New(rand.NewSource(15))
	for slots := range 31 {
		for range 30 {
			segs := r.Perm(16)[:r.Intn(17)]
			if steps := course(t, r, segs, slots); steps > len(segs)*(slots+2) {
				t.Fatal(segs, slots, steps)
			}
		}
	}
}

// P15.5: where all segments are full, there are as many steps as were left.
func TestFullSweep(t *testing.T) {
	for _, slots := range []int{0, 1, 2, 29, 30} {
		s := must(t)(Begin(Idle(), all))
		for left := Left(s, slots); left > 0; left-- {
			if Left(s, slots) != left {
				t.Fatal(slots, left, s)
			}
			switch Next(s, true) {
			case Choose:
				s = must(t)(Take(s, s.Todo[len(s.Todo)/2], slots))
			case Look:
				s = must(t)(Seen(s))
			case Give:
				s = must(t)(Given(s))
			default:
				t.Fatal(s)
			}
		}
		if !same(s, Idle()) {
			t.Fatal(s)
		}
	}
}

// P15.5: of all states each step leaves less, and what leaves nothing is idle.
func TestLess(t *testing.T) {
	r := rand.New(rand.NewSource(5))
	for _, s := range append(states(), Idle()) {
		for slots := range 31 {
			left := Left(s, slots)
			if left < 0 || (left == 0) != same(s, Idle()) {
				t.Fatal(s, slots, left)
			}
			var after State
			switch Next(s, false) {
			case Choose:
				after = must(t)(Take(s, s.Todo[r.Intn(len(s.Todo))], r.Intn(slots+1)))
			case Look:
				after = must(t)(Seen(s))
			case Give:
				after = must(t)(Given(s))
			default:
				continue
			}
			if Left(after, slots) >= left {
				t.Fatal(s, after, slots)
			}
		}
	}
}

// P15.1 to P15.4, R5: states of all kinds, held against the model, each asked twice.
func TestAnyStates(t *testing.T) {
	r := rand.New(rand.NewSource(1))
	for range 20000 {
		s := anyState(r)
		segs := r.Perm(18)[:r.Intn(5)]
		seg, n, slots := r.Intn(18)-1, r.Intn(34)-2, r.Intn(31)
		for range 2 {
			right(t, s, true)
			next(t, s, true, modelNext(s, true))
			next(t, s, false, modelNext(s, false))
			heldBegin(t, s, segs)
			heldBegin(t, Idle(), segs)
			heldTake(t, s, seg, n)
			heldStep(t, s)
			if Need(s, slots) != modelNeed(s, slots) || Left(s, slots) != modelLeft(s, slots) {
				t.Fatal(s, slots, Need(s, slots), Left(s, slots))
			}
		}
	}
}

// roomy is the list, with room behind it, in which known numbers stand.
func roomy(l []int) []int {
	whole := append(slices.Clone(l), 77, 78, 79)
	return whole[:len(l)]
}

// spoil writes over a list, and over the room behind it.
func spoil(l []int) {
	l = l[:cap(l)]
	for i := range l {
		l[i] = -99
	}
}

// untouched holds a list against what it was, with the room behind it.
func untouched(t *testing.T, l, was []int) {
	t.Helper()
	if !slices.Equal(l, was) || !slices.Equal(l[len(l):len(l)+3], []int{77, 78, 79}) {
		t.Fatal(l[:len(l)+3], "was", was)
	}
}

// calls are all calls that answer a state, right ones and wrong ones, of a state.
func calls(s State) []func() (State, api.Errno) {
	l := []func() (State, api.Errno){
		func() (State, api.Errno) { return Seen(s) },
		func() (State, api.Errno) { return Given(s) },
		func() (State, api.Errno) { return Take(s, -1, 3) },
		func() (State, api.Errno) { return Begin(s, []int{1}) },
	}
	for _, seg := range slices.Clone(s.Todo) {
		l = append(l, func() (State, api.Errno) { return Take(s, seg, 3) })
	}
	return l
}

// R4: what was handed in is as it was, and stays so whatever is done with what is told; and the other way round.
func TestMemory(t *testing.T) {
	for _, given := range states() {
		was := slices.Clone(given.Todo)
		s := given
		s.Todo = roomy(given.Todo)
		for _, garbage := range []bool{false, true} {
			Next(s, garbage)
		}
		Right(s)
		Need(s, 9)
		Left(s, 9)
		untouched(t, s.Todo, was)
		for _, call := range calls(s) {
			first, _ := call()
			second, err := call()
			told := slices.Clone(second.Todo)
			untouched(t, s.Todo, was)
			spoil(first.Todo)
			untouched(t, s.Todo, was)
			if third, _ := call(); !slices.Equal(second.Todo, told) || !slices.Equal(third.Todo, told) {
				t.Fatal(s, second, third, told, err)
			}
		}
	}
}

// R4: what is told stays as it is, whatever is done with what was handed in.
func TestMemoryTold(t *testing.T) {
	for _, given := range states() {
		for i := range calls(given) {
			s := given
			s.Todo = roomy(given.Todo)
			got, err := calls(s)[i]()
			told := slices.Clone(got.Todo)
			spoil(s.Todo)
			if !slices.Equal(got.Todo, told) {
				t.Fatal(given, got, told, err)
			}
		}
	}
}

// R4: Begin's list is neither changed nor kept.
func TestMemoryBegin(t *testing.T) {
	for _, given := range append(todos(), wrongTodos()...) {
		segs := roomy(given)
		first, err := Begin(Idle(), segs)
		second, _ := Begin(Idle(), segs)
		untouched(t, segs, given)
		spoil(first.Todo)
		untouched(t, segs, given)
		spoil(segs)
		if err == api.OK && !slices.Equal(second.Todo, given) || err != api.OK && !same(second, State{}) {
			t.Fatal(given, second, err)
		}
	}
}

// R4: two idle states share nothing.
func TestMemoryIdle(t *testing.T) {
	first := Idle()
	first.Todo = append(first.Todo, 3)
	first.Victim, first.Scan, first.Len = 4, 5, 6
	if s := Idle(); !same(s, State{Victim: -1}) {
		t.Fatal(s)
	}
}

// R3: a nil list and an empty one are the same.
func TestNilAndEmpty(t *testing.T) {
	for _, victim := range []int{-1, 0, 15} {
		a, b := State{Victim: victim}, State{Todo: []int{}, Victim: victim}
		for _, garbage := range []bool{false, true} {
			if Next(a, garbage) != Next(b, garbage) {
				t.Fatal(victim, garbage)
			}
		}
		if Right(a) != Right(b) || Need(a, 9) != Need(b, 9) || Left(a, 9) != Left(b, 9) {
			t.Fatal(victim)
		}
		for i := range calls(a) {
			first, err := calls(a)[i]()
			second, again := calls(b)[i]()
			if !same(first, second) || err != again {
				t.Fatal(victim, i, first, second)
			}
		}
	}
	first, err := Begin(Idle(), nil)
	second, again := Begin(Idle(), []int{})
	if !same(first, Idle()) || !same(second, Idle()) || err != api.OK || again != api.OK {
		t.Fatal(first, second, err, again)
	}
}

// R5: one state may go on in many ways, none of which another one can tell.
func TestBranches(t *testing.T) {
	s := must(t)(Begin(Idle(), []int{8, 3, 12, 5}))
	var branches []State
	for _, seg := range []int{8, 3, 12, 5} {
		taken := must(t)(Take(s, seg, 2))
		branches = append(branches, taken, must(t)(Seen(taken)), must(t)(Seen(must(t)(Seen(taken)))))
	}
	for i, others := range [][]int{{3, 12, 5}, {8, 12, 5}, {8, 3, 5}, {8, 3, 12}} {
		for scan := range 3 {
			if want := (State{Todo: others, Victim: []int{8, 3, 12, 5}[i], Scan: scan, Len: 2}); !same(branches[3*i+scan], want) {
				t.Fatal(branches[3*i+scan], want)
			}
		}
	}
	if !same(s, State{Todo: []int{8, 3, 12, 5}, Victim: -1}) {
		t.Fatal(s)
	}
}
