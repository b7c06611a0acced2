package crc

import (
	"hash/crc32"
	"math"
	"math/rand"
	"strings"
	"testing"
)

// sumOf goes by the chapter's words, bit by bit.
func sumOf(s string) uint32 {
	rest := uint32(0xffffffff)
	for _, b := range []byte(s) {
		rest ^= uint32(b)
		for range 8 {
			out := rest & 1
			rest /= 2
			if out == 1 {
				rest ^= 0xedb88320
			}
		}
	}
	return rest ^ 0xffffffff
}

// bytesWithSum are the 4 bytes whose sum a number is: the 32 halvings are gone back.
func bytesWithSum(sum uint32) string {
	rest := ^sum
	for range 32 {
		if rest>>31 == 1 {
			rest = (rest^0xedb88320)<<1 | 1
		} else {
			rest <<= 1
		}
	}
	rest = ^rest
	return string([]byte{byte(rest), byte(rest >> 8), byte(rest >> 16), byte(rest >> 24)})
}

// texts are short ones, each byte alone, those that are no runes, and mixed ones of all lengths around a sector.
func texts() []string {
	l := []string{
		"", "123456789", "abc", "lodger",
		"\x00", "\x00\x00\x00\x00", "\xff\xff\xff\xff",
		"h\u00e9llo \u4e16\u754c", "\xc3", "\xe4\xb8", "a\x80b\xffc", "\xed\xa0\x80",
		strings.Repeat("\x00", 128), strings.Repeat("\xff", 128), strings.Repeat("ab", 5000),
	}
	for b := range 256 {
		l = append(l, string([]byte{byte(b)}))
	}
	r := rand.New(rand.NewSource(2))
	for n := range 140 {
		l = append(l, mixed(r, n))
	}
	return l
}

func mixed(r *rand.Rand, n int) string {
	b := make([]byte, n)
	r.Read(b)
	return string(b)
}

// sums are the edges of 32 bits, each bit alone, and mixed ones.
func sums() []uint32 {
	l := []uint32{0, 1, 9, 0xedb88320, 0xcbf43926, 0x7fffffff, 0xfffffffe, 0xffffffff}
	for i := range 32 {
		l = append(l, 1<<i, ^uint32(1<<i))
	}
	r := rand.New(rand.NewSource(3))
	for range 50 {
		l = append(l, r.Uint32())
	}
	return l
}

// P2.1
func TestSumExamples(t *testing.T) {
	for _, x := range []struct {
		s    string
		want uint32
	}{
		{"", 0},
		{"123456789", 0xcbf43926},
		{"a", 0xe8b7be43},
		{"\x00", 0xd202ef8d},
		{"\xff", 0xff000000},
		{"\x00\x00\x00\x00", 0x2144df1c},
		{"\xff\xff\xff\xff", 0xffffffff},
		{"The quick brown fox jumps over the lazy dog", 0x414fa339},
	} {
		if got := Sum(x.s); got != x.want {
			t.Errorf("Sum(%q) = %08x, want %08x", x.s, got, x.want)
		}
	}
}

// P2.1
func TestSumIsTheChaptersAndTheLibrarys(t *testing.T) {
	for _, s := range texts() {
		got := Sum(s)
		if want := sumOf(s); got != want {
			t.Errorf("Sum(%q) = %08x, by the chapter's words %08x", s, got, want)
		}
		if want := crc32.ChecksumIEEE([]byte(s)); got != want {
			t.Errorf("Sum(%q) = %08x, by the library %08x", s, got, want)
		}
	}
}

// P2.1
func TestMoreAtEachCut(t *testing.T) {
	for _, s := range []string{"", "1", "123456789", "h\u00e9llo \u4e16\u754c", "\xff\x00\x80\xff\x00"} {
		want := sumOf(s)
		for i := range len(s) + 1 {
			if got := More(Sum(s[:i]), s[i:]); got != want {
				t.Errorf("%q cut at %d: %08x, want %08x", s, i, got, want)
			}
			for j := i; j <= len(s); j++ {
				if got := More(More(Sum(s[:i]), s[i:j]), s[j:]); got != want {
					t.Errorf("%q cut at %d and %d: %08x, want %08x", s, i, j, got, want)
				}
			}
		}
	}
}

// P2.1: each number is the sum of some bytes, so More has an answer for it.
func TestMoreOfAnyNumber(t *testing.T) {
	many := texts()
	for _, sum := range sums() {
		ahead := bytesWithSum(sum)
		if got := Sum(ahead); got != sum {
			t.Fatalf("Sum(%q) = %08x, want %08x", ahead, got, sum)
		}
		if got := More(sum, ""); got != sum {
			t.Errorf("More(%08x, no bytes) = %08x", sum, got)
		}
		for _, s := range many {
			if got, want := More(sum, s), sumOf(ahead+s); got != want {
				t.Errorf("More(%08x, %q) = %08x, want %08x", sum, s, got, want)
			}
		}
	}
}

// P2.1
func TestZerosAreMoreOfZeros(t *testing.T) {
	for _, sum := range sums() {
		for _, n := range []int{0, 1, 2, 3, 4, 5, 8, 127, 128, 255, 256, 257, 1000} {
			want := sumOf(bytesWithSum(sum) + strings.Repeat("\x00", n))
			if got := Zeros(sum, n); got != want {
				t.Errorf("Zeros(%08x, %d) = %08x, want %08x", sum, n, got, want)
			}
		}
	}
	if got, want := Zeros(Sum("x"), 5), sumOf("x\x00\x00\x00\x00\x00"); got != want {
		t.Errorf("x with 5 zeros behind: %08x, want %08x", got, want)
	}
}

// P2.1
func TestZerosBelowNone(t *testing.T) {
	for _, sum := range sums() {
		for _, n := range []int{0, -1, -2, -100000, -100001, -1 << 32, math.MinInt} {
			if got := Zeros(sum, n); got != sum {
				t.Errorf("Zeros(%08x, %d) = %08x, want what it was", sum, n, got)
			}
		}
	}
}

// P2.1
func TestZerosAtTheBoundAndAbove(t *testing.T) {
	zeros := strings.Repeat("\x00", 100001)
	// Not ffffffff: its rest is 0, which zeros leave as it is, so that it tells no count from another.
	for _, sum := range []uint32{0, 9, 0xcbf43926, 0xfffffffe} {
		ahead := bytesWithSum(sum)
		for _, n := range []int{99999, 100000} {
			if got, want := Zeros(sum, n), sumOf(ahead+zeros[:n]); got != want {
				t.Errorf("Zeros(%08x, %d) = %08x, want %08x", sum, n, got, want)
			}
		}
		want := sumOf(ahead + zeros[:100000])
		for _, n := range []int{100001, 100002, 200000, 1 << 32, 1<<32 + 5, math.MaxInt} {
			if got := Zeros(sum, n); got != want {
				t.Errorf("Zeros(%08x, %d) = %08x, want that of 100000: %08x", sum, n, got, want)
			}
		}
		if want == sumOf(ahead+zeros) {
			t.Errorf("one zero more than 100000 is not told apart behind %08x", sum)
		}
	}
}

// P2.2
func TestSumsLaidOverEachOther(t *testing.T) {
	r := rand.New(rand.NewSource(4))
	for n := range 300 {
		a, b := mixed(r, n), mixed(r, n)
		over := make([]byte, n)
		for i := range n {
			over[i] = a[i] ^ b[i]
		}
		zeros := strings.Repeat("\x00", n)
		if got, want := Sum(a)^Sum(b)^Sum(zeros), Sum(string(over)); got != want {
			t.Errorf("%d bytes: %08x, want %08x", n, got, want)
		}
		if got, want := Sum(a)^Sum(b)^Zeros(0, n), Sum(string(over)); got != want {
			t.Errorf("%d bytes, by Zeros: %08x, want %08x", n, got, want)
		}
	}
}

// P2.2
func TestAnotherByteIsTold(t *testing.T) {
	r := rand.New(rand.NewSource(5))
	for _, s := range []string{"\x00", "123456789", strings.Repeat("\x00", 128), strings.Repeat("\xff", 128), mixed(r, 128)} {
		was := Sum(s)
		for i := range len(s) {
			seen := map[uint32]bool{was: true}
			for d := 1; d < 256; d++ {
				b := []byte(s)
				b[i] ^= byte(d)
				sum := Sum(string(b))
				if seen[sum] {
					t.Errorf("%q with byte %d laid over with %02x: the sum %08x is an earlier one's", s, i, d, sum)
				}
				seen[sum] = true
			}
		}
	}
}

// R5: an answer hangs on the arguments alone, not on the calls ahead.
func TestCallsDoNotTouchEachOther(t *testing.T) {
	first := Sum("123456789")
	More(first, "abc")
	Zeros(first, 100000)
	Sum("\xff\xff")
	if again := Sum("123456789"); again != first || again != 0xcbf43926 {
		t.Errorf("Sum(123456789) = %08x, and behind other calls %08x", first, again)
	}
}
