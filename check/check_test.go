package check

import (
	"math"
	"math/big"
	"strings"
	"testing"

	"lodger/api"
)

const idBytes = "abcdefghijklmnopqrstuvwxyz0123456789-"

var minus0 = math.Copysign(0, -1)

// goodShares rise.
func goodShares() []float64 {
	return []float64{minus0, 0, math.SmallestNonzeroFloat64, 0.1, 0.25, 0.29, 1.0 / 3, 0.5, 0.58, 0.7, 0.99, math.Nextafter(1, 0), 1}
}

func badShares() []float64 {
	return []float64{
		-math.SmallestNonzeroFloat64, -0.1, -1, -math.MaxFloat64, math.Inf(-1),
		math.Nextafter(1, 2), 1.1, 2, math.MaxFloat64, math.Inf(1),
		math.NaN(), math.Copysign(math.NaN(), -1), math.Float64frombits(0x7ff0000000000001),
	}
}

// goodConfs are all sizes that may be, with shares and rates of all kinds.
func goodConfs() []api.Conf {
	var l []api.Conf
	for segs := 4; segs <= 16; segs++ {
		for slots := 1; slots <= 30; slots++ {
			for i, share := range goodShares() {
				l = append(l, api.Conf{Segs: segs, Slots: slots, Share: share, Rate: (segs + slots + i) % 9})
			}
		}
	}
	return l
}

// badConfs have one field that may not be, or more, the others at either of their bounds.
func badConfs() []api.Conf {
	l := []api.Conf{{}, {Segs: 3, Slots: 31, Share: 2, Rate: 9}, {Segs: 17, Slots: 0, Share: -1, Rate: -1}}
	for _, c := range []api.Conf{{Segs: 4, Slots: 1}, {Segs: 16, Slots: 30, Share: 1, Rate: 8}, {Segs: 5, Slots: 10, Share: 0.5, Rate: 2}} {
		for _, x := range []int{3, 0, -1, -4, 17, 1 << 32, math.MinInt, math.MaxInt} {
			bad := c
			bad.Segs = x
			l = append(l, bad)
		}
		for _, x := range []int{0, -1, 31, 1<<32 + 1, math.MinInt, math.MaxInt} {
			bad := c
			bad.Slots = x
			l = append(l, bad)
		}
		for _, x := range []int{-1, 9, 1 << 32, math.MinInt, math.MaxInt} {
			bad := c
			bad.Rate = x
			l = append(l, bad)
		}
		for _, x := range badShares() {
			bad := c
			bad.Share = x
			l = append(l, bad)
		}
	}
	return l
}

// P4.1
func TestIDLengths(t *testing.T) {
	for n := range 40 {
		s := strings.Repeat(idBytes, 2)[:n]
		if got, want := ID(s), n >= 1 && n <= 16; got != want {
			t.Errorf("ID of %d bytes = %v, want %v", n, got, want)
		}
	}
	if ID(strings.Repeat("a", 1<<16+1)) {
		t.Error("an id of very many bytes")
	}
	// 16 bytes are counted, not 16 runes.
	if ID(strings.Repeat("é", 8)) || ID(strings.Repeat("é", 16)) {
		t.Error("an id of longer runes")
	}
}

// P4.1: each of the 256 bytes, alone and at each place of longer ids.
func TestIDBytes(t *testing.T) {
	for b := range 256 {
		one := string([]byte{byte(b)})
		want := strings.Contains(idBytes, one)
		if got := ID(one); got != want {
			t.Errorf("ID(%q) = %v, want %v", one, got, want)
		}
		for _, n := range []int{2, 7, 16} {
			for at := range n {
				s := []byte(strings.Repeat("k", n))
				s[at] = byte(b)
				if got := ID(string(s)); got != want {
					t.Errorf("ID(%q) = %v, want %v", s, got, want)
				}
			}
		}
	}
}

// P4.1: what stands just outside, and what looks like it.
func TestIDWrong(t *testing.T) {
	for _, s := range []string{"`", "{", "/", ":", ",", ".", "A", "Z", "_", " ", "\x00", "\xff", "\x80", "é", "–", "a ", " a", "a\n", "user_1", "User", "１"} {
		if ID(s) {
			t.Errorf("ID(%q) = true", s)
		}
	}
	for _, s := range []string{"a", "z", "0", "9", "-", "--", "-a", "a-", "user-1", "0123456789abcdef", idBytes[21:]} {
		if !ID(s) {
			t.Errorf("ID(%q) = false", s)
		}
	}
}

// P4.1
func TestValue(t *testing.T) {
	for _, unit := range []string{"x", "\x00", "\xff", " "} {
		for _, n := range []int{0, 1, 16, 17, 63, 64, 65, 66, 128, 1<<8 + 1, 1 << 16} {
			if got, want := Value(strings.Repeat(unit, n)), n <= 64; got != want {
				t.Errorf("Value of %d bytes %q = %v, want %v", n, unit, got, want)
			}
		}
	}
	// 64 bytes are counted, not 64 runes.
	if !Value(strings.Repeat("é", 32)) || Value(strings.Repeat("é", 33)) {
		t.Error("a value of longer runes")
	}
}

// P4.2: each field at and within its bounds.
func TestConfGood(t *testing.T) {
	for _, c := range goodConfs() {
		if got := Conf(c); got != api.OK {
			t.Errorf("Conf(%v) = %d, want OK", c, got)
		}
	}
	for rate := range 9 {
		if got := Conf(api.Conf{Segs: 4, Slots: 1, Rate: rate}); got != api.OK {
			t.Errorf("Conf with rate %d = %d, want OK", rate, got)
		}
	}
}

// P4.2: each field just outside its bounds, and far away, with the others as they may be.
func TestConfBad(t *testing.T) {
	for _, c := range badConfs() {
		if got := Conf(c); got != api.ErrArg {
			t.Errorf("Conf(%v) = %d, want ErrArg", c, got)
		}
	}
}

// P4.3: the chapter's example, and the least and the greatest stores.
func TestSizesOfExamples(t *testing.T) {
	for _, x := range []struct {
		c                     api.Conf
		sectors, quota, bound int
	}{
		{api.Conf{Segs: 4, Slots: 10, Share: 0.5}, 46, 10, 111},
		{api.Conf{Segs: 4, Slots: 1, Share: 0}, 10, 0, 30},
		{api.Conf{Segs: 4, Slots: 1, Share: 1}, 10, 2, 30},
		{api.Conf{Segs: 4, Slots: 1, Share: 0.5, Rate: 8}, 10, 1, 30},
		{api.Conf{Segs: 4, Slots: 1, Share: math.Nextafter(0.5, 0)}, 10, 0, 30},
		{api.Conf{Segs: 5, Slots: 3, Share: minus0}, 22, 0, 63},
		{api.Conf{Segs: 16, Slots: 30, Share: 1, Rate: 8}, 498, 420, 1443},
		{api.Conf{Segs: 16, Slots: 1, Share: 1}, 34, 14, 138},
		{api.Conf{Segs: 4, Slots: 30, Share: 1}, 126, 60, 291},
	} {
		if a, b, c := Sectors(x.c), Quota(x.c), Bound(x.c); a != x.sectors || b != x.quota || c != x.bound {
			t.Errorf("%v: %d sectors, quota %d, bound %d, want %d, %d, %d", x.c, a, b, c, x.sectors, x.quota, x.bound)
		}
	}
}

// P4.3: sizes are counted one by one; a quota is held against a product of 53 bits, whatever a float64 does.
func TestSizesCounted(t *testing.T) {
	for _, c := range goodConfs() {
		sectors, slots, bound := 2, 0, 3
		for seg := range c.Segs {
			sectors += c.Slots + 1
			if seg >= 2 {
				slots += c.Slots
			}
			if seg >= 1 {
				bound += 3 * (c.Slots + 2)
			}
		}
		product := new(big.Float).SetPrec(53).SetFloat64(c.Share)
		product.Mul(product, new(big.Float).SetInt64(int64(slots)))
		quota, _ := product.Int64()
		if a, b, d := Sectors(c), Quota(c), Bound(c); a != sectors || b != int(quota) || d != bound {
			t.Errorf("%v: %d sectors, quota %d, bound %d, want %d, %d, %d", c, a, b, d, sectors, quota, bound)
		}
	}
}

// P4.3: a conf that may not be has no sizes.
func TestSizesOfBadConfs(t *testing.T) {
	for _, c := range badConfs() {
		if a, b, d := Sectors(c), Quota(c), Bound(c); a != 0 || b != 0 || d != 0 {
			t.Errorf("%v: %d sectors, quota %d, bound %d, want 0", c, a, b, d)
		}
	}
}

// P4.4: goodConfs go through rising shares, size by size.
func TestQuotaRisesAndLeavesRoom(t *testing.T) {
	var last api.Conf
	lastQuota := 0
	for _, c := range goodConfs() {
		quota := Quota(c)
		if c.Segs == last.Segs && c.Slots == last.Slots && quota < lastQuota {
			t.Errorf("share %v has quota %d, the greater share %v has %d", last.Share, lastQuota, c.Share, quota)
		}
		if quota < 0 || c.Segs*c.Slots-quota < 2*c.Slots {
			t.Errorf("%v: quota %d leaves less than two segments", c, quota)
		}
		last, lastQuota = c, quota
	}
}

// P4.4: shares that lie close together, and far apart, of one store.
func TestQuotaRisesInSmallSteps(t *testing.T) {
	for _, slots := range []int{1, 7, 30} {
		last := 0
		for i := range 10001 {
			quota := Quota(api.Conf{Segs: 16, Slots: slots, Share: float64(i) / 10000})
			if quota < last || quota > 14*slots {
				t.Fatalf("%d slots, share %d of 10000: quota %d behind %d", slots, i, quota, last)
			}
			last = quota
		}
		if last != 14*slots {
			t.Errorf("%d slots: the whole share has quota %d", slots, last)
		}
	}
}
