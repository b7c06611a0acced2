package ttl

import (
	"cmp"
	"math"
	"math/big"
	"math/rand"
	"slices"
	"testing"

	"lodger/api"
	"lodger/word"
)

const top = 18446744073709551616.0 // 2^64

var minus0 = math.Copysign(0, -1)

// nans are numbers that are none, of both signs and with several bits.
func nans() []float64 {
	return []float64{
		math.NaN(),
		math.Float64frombits(0x7ff8000000000000),
		math.Float64frombits(0xfff8000000000000),
		math.Float64frombits(0x7ff0000000000001),
		math.Float64frombits(0xfff0000000000001),
		math.Float64frombits(0xffffffffffffffff),
	}
}

func below(x float64) float64 { return math.Nextafter(x, math.Inf(-1)) }
func above(x float64) float64 { return math.Nextafter(x, math.Inf(1)) }

// rising are numbers of all sizes, those beside each power of two and beside small whole ones, and mixed ones: all of them numbers, by rising value, 0 with a minus ahead of 0.
func rising() []float64 {
	l := []float64{0, 0.1, 0.29, 0.3, 0.5, 0.7, 1.5, 1.9, 2.5, 99999.5, 1e5, 1e300, math.MaxFloat64, math.SmallestNonzeroFloat64, math.Inf(1)}
	for e := -1074; e <= 1023; e++ {
		p := math.Ldexp(1, e)
		l = append(l, below(p), p, above(p))
	}
	for i := range 20 {
		x := float64(i + 1)
		l = append(l, below(x), x, above(x), x+0.5, 1/x)
	}
	r := rand.New(rand.NewSource(3))
	for range 2000 {
		l = append(l, r.Float64(), r.Float64()*1e5, r.Float64()*top, r.Float64()*top*2)
	}
	var all []float64
	for _, x := range l {
		all = append(all, x, -x)
	}
	slices.SortFunc(all, func(a, b float64) int {
		return cmp.Or(cmp.Compare(a, b), cmp.Compare(math.Copysign(1, a), math.Copysign(1, b)))
	})
	return all
}

// whole is a number without its fraction, by numbers of any length.
func whole(x *big.Float) *big.Int {
	n, _ := x.Int(nil)
	return n
}

// P3.1
func TestKindEdges(t *testing.T) {
	for _, x := range nans() {
		if got := Kind(x); got != 0 {
			t.Errorf("Kind(%016x) = %d, want 0", math.Float64bits(x), got)
		}
	}
	for _, x := range []struct {
		x    float64
		want int
	}{
		{math.Inf(-1), 1},
		{-math.MaxFloat64, 2},
		{-1, 2},
		{-math.SmallestNonzeroFloat64, 2},
		{minus0, 3},
		{0, 4},
		{math.SmallestNonzeroFloat64, 5},
		{1, 5},
		{top, 5},
		{math.MaxFloat64, 5},
		{math.Inf(1), 6},
	} {
		if got := Kind(x.x); got != x.want {
			t.Errorf("Kind(%v) = %d, want %d", x.x, got, x.want)
		}
	}
}

// kindByBits goes by IEEE 754's layout, not by comparisons.
func kindByBits(x float64) int {
	bits := math.Float64bits(x)
	minus, size := bits>>63 == 1, bits<<1>>1
	switch {
	case size > 0x7ff0000000000000:
		return 0
	case size == 0x7ff0000000000000 && minus:
		return 1
	case size == 0x7ff0000000000000:
		return 6
	case size == 0 && minus:
		return 3
	case size == 0:
		return 4
	case minus:
		return 2
	}
	return 5
}

// P3.1
func TestKindByBits(t *testing.T) {
	all := append(rising(), nans()...)
	r := rand.New(rand.NewSource(1))
	for range 5000 {
		all = append(all, math.Float64frombits(r.Uint64()))
	}
	for _, x := range all {
		if got, want := Kind(x), kindByBits(x); got != want {
			t.Errorf("Kind(%v) = %d, want %d", x, got, want)
		}
	}
}

// P3.2
func TestTicksEdges(t *testing.T) {
	for _, x := range []struct {
		x    float64
		want uint64
	}{
		{1, 1},
		{above(1), 1},
		{1.9, 1},
		{below(2), 1},
		{2, 2},
		{5.999, 5},
		{4503599627370496.5, 4503599627370496},
		{below(1 << 53), 1<<53 - 1},
		{1 << 53, 1 << 53},
		{below(1 << 63), 1<<63 - 1024},
		{1 << 63, 1 << 63},
		{above(1 << 63), 1<<63 + 2048},
		{below(top), 1<<64 - 2048},
		{top, 1<<64 - 1},
		{above(top), 1<<64 - 1},
		{top * 2, 1<<64 - 1},
		{1e300, 1<<64 - 1},
		{math.MaxFloat64, 1<<64 - 1},
		{math.Inf(1), 1<<64 - 1},
	} {
		if got, err := Ticks(x.x); got != x.want || err != api.OK {
			t.Errorf("Ticks(%v) = %d, %d, want %d, no error", x.x, got, err, x.want)
		}
	}
}

// P3.2, R3
func TestTicksThatAreNone(t *testing.T) {
	for _, x := range append(nans(), below(1), 0.999, 0.5, math.SmallestNonzeroFloat64, 0, minus0, -math.SmallestNonzeroFloat64, -0.5, -1, -1.5, -top, -math.MaxFloat64, math.Inf(-1)) {
		if got, err := Ticks(x); got != 0 || err != api.ErrArg {
			t.Errorf("Ticks(%v) = %d, %d, want 0, ErrArg", x, got, err)
		}
	}
}

// P3.2
func TestTicksAgainstGreatNumbers(t *testing.T) {
	limit := new(big.Int).SetUint64(word.Max)
	for _, x := range rising() {
		want, wantErr := uint64(0), api.ErrArg
		if n := whole(new(big.Float).SetFloat64(x)); x >= 1 {
			wantErr = api.OK
			if n == nil || n.Cmp(limit) > 0 {
				n = limit
			}
			want = n.Uint64()
		}
		if got, err := Ticks(x); got != want || err != wantErr {
			t.Errorf("Ticks(%v) = %d, %d, want %d, %d", x, got, err, want, wantErr)
		}
	}
}

// P3.2, P3.4
func TestLater(t *testing.T) {
	for _, x := range []struct{ now, ticks, want uint64 }{
		{0, 0, 0},
		{5, 6, 11},
		{0, word.Max, word.Max},
		{1, word.Max - 2, word.Max - 1},
		{1, word.Max - 1, word.Max},
		{1, word.Max, word.Max},
		{2, word.Max - 1, word.Max},
		{100, word.Max - 50, word.Max},
		{1 << 63, 1<<63 - 1, word.Max},
		{1 << 63, 1 << 63, word.Max},
		{word.Max, word.Max, word.Max},
	} {
		if got := Later(x.now, x.ticks); got != x.want {
			t.Errorf("Later(%d, %d) = %d, want %d", x.now, x.ticks, got, x.want)
		}
		if got := Later(x.ticks, x.now); got != x.want {
			t.Errorf("Later(%d, %d) = %d, want %d", x.ticks, x.now, got, x.want)
		}
	}
}

// P3.3
func TestShareEdges(t *testing.T) {
	for _, x := range []struct {
		x    float64
		n    int
		want int
	}{
		{0.5, 9, 4},
		{1, 7, 7},
		{0, 7, 0},
		{minus0, 7, 0},
		{minus0, 0, 0},
		{math.SmallestNonzeroFloat64, 100000, 0},
		{0.5, 0, 0},
		{1, 0, 0},
		{0.5, 1, 0},
		{1, 1, 1},
		{below(1), 1, 0},
		{below(1), 7, 6},
		{1, 99999, 99999},
		{1, 100000, 100000},
		{0.5, 100000, 50000},
		{below(1), 100000, 99999},
		// The product is rounded as a float64 ahead of the cut: 0.1 is above a tenth, 0.29 below 29 hundredths.
		{0.1, 10, 1},
		{0.3, 10, 3},
		{0.7, 10, 7},
		{0.29, 100, 28},
		{0.57, 100, 56},
	} {
		if got, err := Share(x.x, x.n); got != x.want || err != api.OK {
			t.Errorf("Share(%v, %d) = %d, %d, want %d, no error", x.x, x.n, got, err, x.want)
		}
	}
}

// P3.3, R3
func TestSharesThatAreNone(t *testing.T) {
	for _, x := range append(nans(), above(1), 1.5, 2, top, math.MaxFloat64, math.Inf(1), -math.SmallestNonzeroFloat64, -0.1, -1, -math.MaxFloat64, math.Inf(-1)) {
		for _, n := range []int{-1, 0, 1, 7, 100000, 100001} {
			if got, err := Share(x, n); got != 0 || err != api.ErrArg {
				t.Errorf("Share(%v, %d) = %d, %d, want 0, ErrArg", x, n, got, err)
			}
		}
	}
	for _, n := range []int{-1, -2, -100000, math.MinInt, 100001, 1 << 32, math.MaxInt} {
		for _, x := range []float64{minus0, 0, 0.5, 1} {
			if got, err := Share(x, n); got != 0 || err != api.ErrArg {
				t.Errorf("Share(%v, %d) = %d, %d, want 0, ErrArg", x, n, got, err)
			}
		}
	}
}

// P3.3: the product is that of 53 bits, rounded on its own.
func TestShareAgainstGreatNumbers(t *testing.T) {
	counts := []int{0, 1, 2, 3, 7, 10, 30, 99, 100, 420, 4096, 99999, 100000}
	for _, x := range rising() {
		if x < 0 || x > 1 {
			continue
		}
		for _, n := range counts {
			product := new(big.Float).SetPrec(53).Mul(new(big.Float).SetFloat64(x), new(big.Float).SetInt64(int64(n)))
			want := int(whole(product).Int64())
			if got, err := Share(x, n); got != want || err != api.OK {
				t.Errorf("Share(%v, %d) = %d, %d, want %d, no error", x, n, got, err, want)
			}
		}
	}
}

// P3.3: bit for bit, so that zeros of both signs are told apart.
func TestLeast(t *testing.T) {
	for _, x := range []struct{ a, b, want float64 }{
		{1, 2, 1},
		{2, 1, 1},
		{2, -3, -3},
		{-3, 2, -3},
		{1, 1, 1},
		{1, below(1), below(1)},
		{1, above(1), 1},
		{0, minus0, 0},
		{minus0, 0, minus0},
		{0, -math.SmallestNonzeroFloat64, -math.SmallestNonzeroFloat64},
		{math.Inf(1), math.Inf(-1), math.Inf(-1)},
		{math.Inf(-1), math.Inf(1), math.Inf(-1)},
		{math.Inf(1), 5, 5},
		{5, math.Inf(1), 5},
		{math.Inf(-1), -math.MaxFloat64, math.Inf(-1)},
		{math.Inf(1), math.Inf(1), math.Inf(1)},
	} {
		if got := Least(x.a, x.b); math.Float64bits(got) != math.Float64bits(x.want) {
			t.Errorf("Least(%v, %v) = %v, want %v", x.a, x.b, got, x.want)
		}
	}
}

// P3.3
func TestLeastOfNoNumber(t *testing.T) {
	for _, none := range nans() {
		for _, x := range []float64{math.Inf(-1), -1, minus0, 0, 1, math.MaxFloat64, math.Inf(1)} {
			if got := Least(none, x); math.Float64bits(got) != math.Float64bits(x) {
				t.Errorf("Least(no number, %v) = %v", x, got)
			}
			if got := Least(x, none); math.Float64bits(got) != math.Float64bits(x) {
				t.Errorf("Least(%v, no number) = %v", x, got)
			}
		}
		for _, other := range nans() {
			if got := Least(none, other); !math.IsNaN(got) {
				t.Errorf("Least of two that are no number = %v", got)
			}
		}
	}
}

// P3.4
func TestGreaterHasNoFewerTicks(t *testing.T) {
	least, within := uint64(0), false
	for _, x := range rising() {
		n, err := Ticks(x)
		if within && err != api.OK {
			t.Errorf("Ticks(%v): error %d, but a lesser one has ticks", x, err)
		}
		if n < least {
			t.Errorf("Ticks(%v) = %d, but a lesser one has %d", x, n, least)
		}
		least, within = n, err == api.OK
	}
	if least != word.Max {
		t.Errorf("the greatest has %d ticks, want %d", least, uint64(word.Max))
	}
}

// P3.4
func TestGreaterHasNoLesserShare(t *testing.T) {
	for _, n := range []int{0, 1, 2, 7, 420, 99999, 100000} {
		least := 0
		for _, x := range rising() {
			if x < 0 || x > 1 {
				continue
			}
			part, err := Share(x, n)
			if err != api.OK || part < least || part > n {
				t.Errorf("Share(%v, %d) = %d, %d, but a lesser one has %d", x, n, part, err, least)
			}
			least = part
		}
		if least != n {
			t.Errorf("the greatest share of %d is %d", n, least)
		}
	}
}

// P3.4: no time goes back, whatever is added to it.
func TestNothingIsLaterThanTheEnd(t *testing.T) {
	times := []uint64{0, 1, 2, 1<<32 - 1, 1 << 32, 1<<63 - 1, 1 << 63, 1<<63 + 1, word.Max - 1, word.Max}
	for _, now := range times {
		last := now
		for _, ticks := range times {
			got := Later(now, ticks)
			if got < last {
				t.Errorf("Later(%d, %d) = %d, but fewer ticks lead to %d", now, ticks, got, last)
			}
			last = got
		}
		if last != word.Max {
			t.Errorf("Later(%d, %d) = %d", now, uint64(word.Max), last)
		}
		forever, err := Ticks(math.Inf(1))
		if got := Later(now, forever); err != api.OK || got != word.Max {
			t.Errorf("%d and infinitely many ticks: %d, %d", now, got, err)
		}
	}
}
