package word

import (
	"math"
	"math/big"
	"testing"
)

// numbers are small ones, the greatest ones, and those beside each power of two.
func numbers() []uint64 {
	l := []uint64{0, 1, 2, 3, 5, 255, 256, 257, 258, 0x0102030405060708, 0xf0e0d0c0b0a09080, Max - 1, Max}
	for i := range 64 {
		p := uint64(1) << i
		l = append(l, p-1, p, p+1)
	}
	return l
}

// bytesOf goes by the chapter's words: remainders and quotients by 256.
func bytesOf(n uint64, size int) string {
	size = max(0, min(size, 8))
	var b []byte
	for range size {
		b = append(b, byte(n%256))
		n /= 256
	}
	return string(b)
}

// P1.1
func TestPutExamples(t *testing.T) {
	for _, x := range []struct {
		n    uint64
		size int
		want string
	}{
		{258, 2, "\x02\x01"},
		{258, 1, "\x02"},
		{258, 3, "\x02\x01\x00"},
		{0, 1, "\x00"},
		{0, 8, "\x00\x00\x00\x00\x00\x00\x00\x00"},
		{0x0102030405060708, 8, "\x08\x07\x06\x05\x04\x03\x02\x01"},
		{0x0102030405060708, 5, "\x08\x07\x06\x05\x04"},
		{1 << 63, 8, "\x00\x00\x00\x00\x00\x00\x00\x80"},
		{Max, 8, "\xff\xff\xff\xff\xff\xff\xff\xff"},
	} {
		if got := Put(x.n, x.size); got != x.want {
			t.Errorf("Put(%d, %d) = %q, want %q", x.n, x.size, got, x.want)
		}
	}
}

// P1.1
func TestPutSizesBeyond(t *testing.T) {
	n := uint64(0x0102030405060708)
	for _, size := range []int{0, -1, -8, -9, math.MinInt} {
		if got := Put(n, size); got != "" {
			t.Errorf("Put(%d, %d) = %q, want no bytes", n, size, got)
		}
	}
	for _, size := range []int{9, 16, 256, 1 << 32, math.MaxInt} {
		if got := Put(n, size); got != "\x08\x07\x06\x05\x04\x03\x02\x01" {
			t.Errorf("Put(%d, %d) = %q, want 8 bytes", n, size, got)
		}
	}
}

// P1.1
func TestPutIsRemaindersAndQuotients(t *testing.T) {
	for _, n := range numbers() {
		for size := -2; size <= 10; size++ {
			if got, want := Put(n, size), bytesOf(n, size); got != want {
				t.Errorf("Put(%d, %d) = %q, want %q", n, size, got, want)
			}
		}
	}
}

// P1.1
func TestGet(t *testing.T) {
	for _, x := range []struct {
		s    string
		want uint64
	}{
		{"", 0},
		{"\x00", 0},
		{"\xff", 255},
		{"\x02\x01", 258},
		{"\x02\x01\x00\x00", 258},
		{"\x00\x00\x01", 65536},
		{"\x08\x07\x06\x05\x04\x03\x02", 0x02030405060708},
		{"\x08\x07\x06\x05\x04\x03\x02\x01", 0x0102030405060708},
		{"\xff\xff\xff\xff\xff\xff\xff\xff", Max},
		{"\x08\x07\x06\x05\x04\x03\x02\x01\x09", 0x0102030405060708},
		{"\x00\x00\x00\x00\x00\x00\x00\x00\x01", 0},
		{"\x01\x00\x00\x00\x00\x00\x00\x00\xff\xff\xff\xff\xff\xff\xff\xff\xff", 1},
	} {
		if got := Get(x.s); got != x.want {
			t.Errorf("Get(%q) = %d, want %d", x.s, got, x.want)
		}
	}
}

// P1.2
func TestAddExamples(t *testing.T) {
	for _, x := range []struct {
		a, b, want uint64
		over       bool
	}{
		{0, 0, 0, false},
		{3, 4, 7, false},
		{Max, 0, Max, false},
		{Max - 1, 1, Max, false},
		{Max, 1, Max, true},
		{Max - 1, 2, Max, true},
		{1 << 63, 1<<63 - 1, Max, false},
		{1 << 63, 1 << 63, Max, true},
		{Max, Max, Max, true},
	} {
		if got, over := Add(x.a, x.b); got != x.want || over != x.over {
			t.Errorf("Add(%d, %d) = %d, %v, want %d, %v", x.a, x.b, got, over, x.want, x.over)
		}
		if got, over := Add(x.b, x.a); got != x.want || over != x.over {
			t.Errorf("Add(%d, %d) = %d, %v, want %d, %v", x.b, x.a, got, over, x.want, x.over)
		}
	}
}

// P1.2
func TestMulExamples(t *testing.T) {
	for _, x := range []struct {
		a, b, want uint64
		over       bool
	}{
		{0, 0, 0, false},
		{3, 4, 12, false},
		{Max, 0, 0, false},
		{Max, 1, Max, false},
		{Max, 2, Max, true},
		// 2^64 - 1 = (2^32 - 1) * (2^32 + 1): a product just at the edge is no overflow.
		{1<<32 - 1, 1<<32 + 1, Max, false},
		{1 << 32, 1<<32 - 1, 1<<64 - 1<<32, false},
		{1 << 32, 1 << 32, Max, true},
		{1 << 63, 2, Max, true},
		{1<<63 - 1, 2, Max - 1, false},
		{Max, Max, Max, true},
	} {
		if got, over := Mul(x.a, x.b); got != x.want || over != x.over {
			t.Errorf("Mul(%d, %d) = %d, %v, want %d, %v", x.a, x.b, got, over, x.want, x.over)
		}
		if got, over := Mul(x.b, x.a); got != x.want || over != x.over {
			t.Errorf("Mul(%d, %d) = %d, %v, want %d, %v", x.b, x.a, got, over, x.want, x.over)
		}
	}
}

// P1.2
func TestLessExamples(t *testing.T) {
	for _, x := range []struct{ a, b, want uint64 }{
		{0, 0, 0},
		{3, 5, 0},
		{5, 3, 2},
		{5, 5, 0},
		{5, 6, 0},
		{6, 5, 1},
		{0, Max, 0},
		{Max, 0, Max},
		{Max, Max, 0},
		{Max - 1, Max, 0},
		{Max, Max - 1, 1},
	} {
		if got := Less(x.a, x.b); got != x.want {
			t.Errorf("Less(%d, %d) = %d, want %d", x.a, x.b, got, x.want)
		}
	}
}

// P1.2
func TestSumsAgainstGreatNumbers(t *testing.T) {
	top := new(big.Int).SetUint64(Max)
	held := func(x *big.Int) (uint64, bool) {
		if x.Cmp(top) > 0 {
			return Max, true
		}
		return x.Uint64(), false
	}
	for _, a := range numbers() {
		for _, b := range numbers() {
			x, y := new(big.Int).SetUint64(a), new(big.Int).SetUint64(b)
			want, beyond := held(new(big.Int).Add(x, y))
			if got, over := Add(a, b); got != want || over != beyond {
				t.Errorf("Add(%d, %d) = %d, %v, want %d, %v", a, b, got, over, want, beyond)
			}
			want, beyond = held(new(big.Int).Mul(x, y))
			if got, over := Mul(a, b); got != want || over != beyond {
				t.Errorf("Mul(%d, %d) = %d, %v, want %d, %v", a, b, got, over, want, beyond)
			}
			want = 0
			if d := new(big.Int).Sub(x, y); d.Sign() > 0 {
				want = d.Uint64()
			}
			if got := Less(a, b); got != want {
				t.Errorf("Less(%d, %d) = %d, want %d", a, b, got, want)
			}
		}
	}
}

// P1.3
func TestNumbersComeBack(t *testing.T) {
	for _, n := range numbers() {
		for _, size := range []int{8, 9, math.MaxInt} {
			if got := Get(Put(n, size)); got != n {
				t.Errorf("Get(Put(%d, %d)) = %d", n, size, got)
			}
		}
		modulus := uint64(1)
		for size := range 8 {
			if got := Get(Put(n, size)); got != n%modulus {
				t.Errorf("Get(Put(%d, %d)) = %d, want %d", n, size, got, n%modulus)
			}
			modulus *= 256
		}
		if got := Get(Put(n, -1)); got != 0 {
			t.Errorf("Get(Put(%d, -1)) = %d, want 0", n, got)
		}
	}
}
