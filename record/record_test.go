package record

import (
	"encoding/binary"
	"hash/crc32"
	"math"
	"math/rand"
	"strings"
	"testing"

	"lodger/api"
)

const (
	idBytes  = "abcdefghijklmnopqrstuvwxyz0123456789-"
	maxID    = "0123456789-abcxz"
	maxValue = 64
)

// good are records that may be, of each kind, ordinary ones and those at the edges.
func good() []Record {
	long := strings.Repeat("\xff", maxValue)
	l := []Record{
		{LSN: 1, Epoch: 1, Kind: Live, Ver: 1, Deadline: 9, ID: "a", Value: "v"},
		{LSN: 258, Epoch: 3, Kind: Live, Ver: 7, Deadline: 1 << 40, ID: "user-1", Value: "some\x00value"},
		{LSN: 1, Kind: Live, ID: "-"},
		{LSN: 2, Epoch: 5, Kind: Live, ID: "b", Value: "\x00\x00"},
		{LSN: math.MaxUint64, Epoch: math.MaxUint32, Kind: Live, Ver: math.MaxUint64, Deadline: math.MaxUint64, ID: maxID, Value: long},
		{LSN: 0x0102030405060708, Epoch: 0x090a0b0c, Kind: Live, Ver: 0x1112131415161718, Deadline: 0x191a1b1c1d1e1f20, ID: maxID[:15], Value: long[:63]},
		{LSN: 1 << 63, Epoch: 1 << 31, Kind: Live, Ver: 1 << 63, Deadline: 1 << 63, ID: maxID},
		{LSN: 7, Epoch: 7, Kind: Live, Ver: 7, Deadline: 7, ID: "7", Value: long},
		{LSN: 1, Kind: Tomb, ID: "a"},
		{LSN: 9, Epoch: 2, Kind: Tomb, Ver: 4, ID: "user-1"},
		{LSN: math.MaxUint64, Epoch: math.MaxUint32, Kind: Tomb, Ver: math.MaxUint64, ID: maxID},
		{LSN: math.MaxUint64, Epoch: math.MaxUint32, Kind: Foot, Deadline: 15},
	}
	for deadline := range uint64(16) {
		l = append(l, Record{LSN: 1 + deadline, Epoch: uint32(deadline), Kind: Foot, Deadline: deadline})
	}
	return l
}

// few are for tests that ask much of each: one that fills its sector, and an ordinary one of each kind.
func few() []Record {
	return []Record{
		{LSN: math.MaxUint64, Epoch: math.MaxUint32, Kind: Live, Ver: math.MaxUint64, Deadline: math.MaxUint64, ID: maxID, Value: strings.Repeat("\xff", maxValue)},
		{LSN: 258, Epoch: 3, Kind: Live, Ver: 7, Deadline: 1 << 40, ID: "user-1", Value: "some\x00value"},
		{LSN: 9, Epoch: 2, Kind: Tomb, Ver: 4, ID: "user-1"},
		{LSN: 1, Kind: Foot, Deadline: 15},
	}
}

// bad are records with one field that may not be, or more; the others are as they may be.
func bad() []Record {
	l := []Record{{}, {LSN: 1}, {Kind: Live}, {LSN: 1, Kind: 9, ID: "A", Value: strings.Repeat("v", 65)}}
	for _, r := range good() {
		l = append(l, changed(r, func(r *Record) { r.LSN = 0 }))
		for _, kind := range []int{0, -1, -2, -3, 4, 5, 255, 256, 257, 258, 259, -255, -254, -253, 1<<32 + 1, math.MinInt, math.MinInt + 1, math.MaxInt} {
			l = append(l, changed(r, func(r *Record) { r.Kind = kind }))
		}
		if r.Kind == Foot {
			l = append(l, badFeet(r)...)
			continue
		}
		for _, id := range []string{"", maxID + "-", strings.Repeat("a", 17), strings.Repeat("a", 256), strings.Repeat("a", 257), "A", "a b", "a\x00", "é", "user_1"} {
			l = append(l, changed(r, func(r *Record) { r.ID = id }))
		}
		if r.Kind == Tomb {
			l = append(l, badTombs(r)...)
			continue
		}
		for _, n := range []int{65, 66, 97, 128, 255, 256, 257} {
			l = append(l, changed(r, func(r *Record) { r.Value = strings.Repeat("v", n) }))
		}
	}
	return l
}

func badFeet(r Record) []Record {
	var l []Record
	for _, deadline := range []uint64{16, 17, 31, 256, 1 << 32, 1 << 63, math.MaxUint64} {
		l = append(l, changed(r, func(r *Record) { r.Deadline = deadline }))
	}
	for _, ver := range []uint64{1, 1 << 8, 1 << 63, math.MaxUint64} {
		l = append(l, changed(r, func(r *Record) { r.Ver = ver }))
	}
	for _, s := range []string{"a", "\x00", maxID} {
		l = append(l, changed(r, func(r *Record) { r.ID = s }), changed(r, func(r *Record) { r.Value = s }))
	}
	return l
}

func badTombs(r Record) []Record {
	var l []Record
	for _, deadline := range []uint64{1, 15, 1 << 8, 1 << 63, math.MaxUint64} {
		l = append(l, changed(r, func(r *Record) { r.Deadline = deadline }))
	}
	for _, value := range []string{"v", "\x00", strings.Repeat("v", maxValue)} {
		l = append(l, changed(r, func(r *Record) { r.Value = value }))
	}
	return l
}

func changed(r Record, change func(r *Record)) Record {
	change(&r)
	return r
}

// sectorOf goes by the chapter's places, with another package's sum; it asks for nothing, so that it also makes sectors of records that may not be, where they fit.
func sectorOf(r Record) string {
	b := make([]byte, 128)
	binary.LittleEndian.PutUint64(b[0:], r.LSN)
	binary.LittleEndian.PutUint32(b[8:], r.Epoch)
	b[12], b[13], b[14] = byte(r.Kind), byte(len(r.ID)), byte(len(r.Value))
	binary.LittleEndian.PutUint64(b[15:], r.Ver)
	binary.LittleEndian.PutUint64(b[23:], r.Deadline)
	copy(b[31:112], r.ID+r.Value)
	binary.LittleEndian.PutUint64(b[116:], r.LSN)
	binary.LittleEndian.PutUint32(b[124:], r.Epoch)
	return summed(string(b))
}

// summed is the sector with its sum made right.
func summed(s string) string {
	b := []byte(s)
	binary.LittleEndian.PutUint32(b[112:], crc32.ChecksumIEEE(b[:112]))
	return string(b)
}

// recordOf asks a sector of 128 bytes field by field for all that the chapter says of it.
func recordOf(s string) (Record, bool) {
	b := []byte(s)
	if string(b[:12]) != string(b[116:]) || binary.LittleEndian.Uint32(b[112:]) != crc32.ChecksumIEEE(b[:112]) {
		return Record{}, false
	}
	id, value := int(b[13]), int(b[14])
	if id > 16 || value > 64 || strings.Trim(s[31+id+value:112], "\x00") != "" {
		return Record{}, false
	}
	r := Record{
		LSN:      binary.LittleEndian.Uint64(b),
		Epoch:    binary.LittleEndian.Uint32(b[8:]),
		Kind:     int(b[12]),
		Ver:      binary.LittleEndian.Uint64(b[15:]),
		Deadline: binary.LittleEndian.Uint64(b[23:]),
		ID:       s[31 : 31+id],
		Value:    s[31+id : 31+id+value],
	}
	named := id > 0 && strings.Trim(r.ID, idBytes) == ""
	may := r.LSN > 0
	switch b[12] {
	case 1:
		may = may && named
	case 2:
		may = may && named && value == 0 && r.Deadline == 0
	case 3:
		may = may && id == 0 && value == 0 && r.Ver == 0 && r.Deadline < 16
	default:
		may = false
	}
	if !may {
		return Record{}, false
	}
	return r, true
}

func encoded(t *testing.T, r Record) string {
	t.Helper()
	s, e := Encode(r)
	if e != api.OK || len(s) != 128 {
		t.Fatalf("Encode(%#v) = %d bytes, %d", r, len(s), e)
	}
	return s
}

func refuses(t *testing.T, s string) {
	t.Helper()
	if r, e := Decode(s); e != api.ErrForm || r != (Record{}) {
		t.Errorf("Decode(%q) = %#v, %d, want ErrForm", s, r, e)
	}
}

// decodesAs holds Decode, and Next of the record's own LSN and Epoch, against recordOf.
func decodesAs(t *testing.T, s string) {
	t.Helper()
	want, may := recordOf(s)
	if !may {
		refuses(t, s)
		return
	}
	if r, e := Decode(s); e != api.OK || r != want {
		t.Errorf("Decode(%q) = %#v, %d, want %#v", s, r, e, want)
	}
	if r, is := Next(s, want.LSN, want.Epoch); !is || r != want {
		t.Errorf("Next(%q, %d, %d) = %#v, %v, want %#v", s, want.LSN, want.Epoch, r, is, want)
	}
}

func isNext(t *testing.T, s string, lsn uint64, epoch uint32, want Record, wanted bool) {
	t.Helper()
	if r, is := Next(s, lsn, epoch); is != wanted || r != want {
		t.Errorf("Next(%q, %d, %d) = %#v, %v, want %#v, %v", s, lsn, epoch, r, is, want, wanted)
	}
}

func TestKinds(t *testing.T) {
	if Live != 1 || Tomb != 2 || Foot != 3 || Kinds != 4 {
		t.Error(Live, Tomb, Foot, Kinds)
	}
}

// P6.1: the chapter's example, byte by byte.
func TestExample(t *testing.T) {
	r := Record{LSN: 1, Epoch: 1, Kind: Live, Ver: 1, Deadline: 9, ID: "a", Value: "v"}
	s := encoded(t, r)
	named := map[int]byte{0: 1, 8: 1, 12: 1, 13: 1, 14: 1, 15: 1, 23: 9, 31: 'a', 32: 'v', 116: 1, 124: 1}
	for i := range s {
		if i >= 112 && i < 116 {
			continue
		}
		if s[i] != named[i] {
			t.Errorf("byte %d is %d, want %d", i, s[i], named[i])
		}
	}
	if sum := binary.LittleEndian.Uint32([]byte(s[112:116])); sum != crc32.ChecksumIEEE([]byte(s[:112])) {
		t.Errorf("sum %x", sum)
	}
	if x, e := Decode(s); e != api.OK || x != r {
		t.Errorf("%#v, %d", x, e)
	}
	isNext(t, s, 1, 1, r, true)
}

// P6.1
func TestEncodePlaces(t *testing.T) {
	s := encoded(t, Record{LSN: 0x0102030405060708, Epoch: 0x090a0b0c, Kind: Tomb, Ver: 0x1112131415161718, ID: "id"})
	want := "\x08\x07\x06\x05\x04\x03\x02\x01" + "\x0c\x0b\x0a\x09" + "\x02" + "\x02" + "\x00" + "\x18\x17\x16\x15\x14\x13\x12\x11" + strings.Repeat("\x00", 8) + "id" + strings.Repeat("\x00", 79)
	want = summed(want + "sum!" + "\x08\x07\x06\x05\x04\x03\x02\x01" + "\x0c\x0b\x0a\x09")
	if s != want {
		t.Errorf("%q, want %q", s, want)
	}
	full := encoded(t, Record{LSN: 1, Kind: Live, ID: maxID, Value: strings.Repeat("v", 64)})
	if full[31:112] != maxID+strings.Repeat("v", 64)+"\x00" {
		t.Errorf("%q", full[31:112])
	}
}

// P6.1
func TestGoodRecords(t *testing.T) {
	for _, r := range good() {
		if !Right(r) {
			t.Errorf("Right(%#v) = false", r)
		}
		if s := encoded(t, r); s != sectorOf(r) {
			t.Errorf("Encode(%#v) = %q, want %q", r, s, sectorOf(r))
		}
	}
}

// P6.1: also beside what may not be nothing else is told.
func TestBadRecords(t *testing.T) {
	for _, r := range bad() {
		if Right(r) {
			t.Errorf("Right(%#v) = true", r)
		}
		if s, e := Encode(r); e != api.ErrForm || s != "" {
			t.Errorf("Encode(%#v) = %q, %d, want ErrForm", r, s, e)
		}
	}
}

// P6.1: each length of an id and of a value, of each kind.
func TestLengths(t *testing.T) {
	for kind := -1; kind <= Kinds+1; kind++ {
		for id := range 20 {
			for value := range 70 {
				r := Record{LSN: 3, Epoch: 2, Kind: kind, ID: strings.Repeat("k", id), Value: strings.Repeat("\x80", value)}
				named := id >= 1 && id <= 16
				want := kind == Live && named && value <= 64 || kind == Tomb && named && value == 0 || kind == Foot && id == 0 && value == 0
				s, e := Encode(r)
				if Right(r) != want || (e == api.OK) != want || (s != "") != want {
					t.Errorf("kind %d, id of %d bytes, value of %d: %d, want %v", kind, id, value, e, want)
				}
			}
		}
	}
}

// P6.1: Foot's deadline is bounded, Live's is not, Tomb's is none.
func TestDeadlines(t *testing.T) {
	for _, deadline := range []uint64{0, 1, 14, 15, 16, 17, 255, 256, 1 << 32, math.MaxUint64} {
		for _, x := range []struct {
			r    Record
			want bool
		}{
			{Record{LSN: 1, Kind: Live, ID: "a", Deadline: deadline}, true},
			{Record{LSN: 1, Kind: Tomb, ID: "a", Deadline: deadline}, deadline == 0},
			{Record{LSN: 1, Kind: Foot, Deadline: deadline}, deadline < 16},
		} {
			if Right(x.r) != x.want {
				t.Errorf("Right(%#v) = %v", x.r, !x.want)
			}
		}
	}
}

// P6.1: texts of any length; the right one alone is a record's.
func TestDecodeLengths(t *testing.T) {
	for _, r := range good() {
		s := encoded(t, r)
		for n := range 128 {
			refuses(t, s[:n])
			refuses(t, s[128-n:])
		}
		for _, behind := range []string{"\x00", "x", s[:1], s, strings.Repeat("\x00", 128), strings.Repeat("\x00", 256-128+1)} {
			refuses(t, s+behind)
		}
		refuses(t, "\x00"+s)
		refuses(t, s[:127]+"\x00"+s[127:])
	}
	for _, n := range []int{0, 1, 127, 128, 129, 256, 1 << 16} {
		refuses(t, strings.Repeat("\x00", n))
		refuses(t, strings.Repeat("\xff", n))
	}
}

// P6.1: sectors that are as they should be, of records that may not be.
func TestDecodeSectorsOfBadRecords(t *testing.T) {
	for _, r := range bad() {
		if byte(r.Kind) >= 1 && byte(r.Kind) <= 3 && (r.Kind < 0 || r.Kind > 255) {
			continue // its byte is that of another kind
		}
		if len(r.ID) > 80 || len(r.ID)+len(r.Value) > 81 {
			continue // it does not fit; TestDecodeLengthBytes has such lengths
		}
		refuses(t, sectorOf(r))
	}
}

// P6.1: each byte changed to each other one, with the sum as it was (no record's, always), and made right again.
func TestDecodeChangedBytes(t *testing.T) {
	for _, r := range few() {
		s := encoded(t, r)
		for i := range s {
			for flip := 1; flip < 256; flip++ {
				b := []byte(s)
				b[i] ^= byte(flip)
				refuses(t, string(b))
				if i < 112 && flip%5 == 1 {
					decodesAs(t, summed(string(b)))
				}
			}
		}
	}
}

// P6.1: the sum made right again, each pair of length bytes.
func TestDecodeLengthBytes(t *testing.T) {
	for _, r := range []Record{
		{LSN: 4, Epoch: 1, Kind: Live, Ver: 2, Deadline: 3, ID: maxID, Value: strings.Repeat("a", 64)},
		{LSN: 4, Epoch: 1, Kind: Live, ID: "a"},
		{LSN: 4, Epoch: 1, Kind: Tomb, Ver: 2, ID: "ab"},
		{LSN: 4, Epoch: 1, Kind: Foot, Deadline: 2},
	} {
		b := []byte(encoded(t, r))
		lengths := []int{0, 1, 2, 3, 15, 16, 17, 32, 63, 64, 65, 66, 80, 81, 82, 96, 97, 98, 127, 128, 129, 254, 255}
		for _, id := range lengths {
			for _, value := range lengths {
				b[13], b[14] = byte(id), byte(value)
				decodesAs(t, summed(string(b)))
			}
		}
	}
}

// P6.1: a byte behind the value that is not 0, at each place, with the sum made right again.
func TestDecodeBytesBehind(t *testing.T) {
	for _, r := range good() {
		s := encoded(t, r)
		for i := 31 + len(r.ID) + len(r.Value); i < 112; i++ {
			for _, x := range []byte{1, 'a', 0x80, 0xff} {
				b := []byte(s)
				b[i] = x
				refuses(t, summed(string(b)))
			}
		}
	}
}

// P6.1: the ends that are not the same, with the sum made right again; and both changed alike, which is another record's sector.
func TestDecodeEnds(t *testing.T) {
	for _, r := range good() {
		s := encoded(t, r)
		for i := range 12 {
			for bit := range 8 {
				b := []byte(s)
				b[i] ^= 1 << bit
				refuses(t, summed(string(b)))
				b[116+i] ^= 1 << bit
				refuses(t, string(b))
				decodesAs(t, summed(string(b)))
				b[i] ^= 1 << bit
				refuses(t, summed(string(b)))
			}
		}
		zero := strings.Repeat("\x00", 8)
		refuses(t, summed(zero+s[8:116]+zero+s[124:]))
	}
}

// P6.1: sectors that are nearly a record's, made by chance of a fixed beginning.
func TestDecodeBesideRecords(t *testing.T) {
	random := rand.New(rand.NewSource(6))
	all := good()
	right := 0
	for range 40000 {
		b := []byte(sectorOf(all[random.Intn(len(all))]))
		for range 1 + random.Intn(3) {
			b[12+random.Intn(40)] = []byte{0, 1, 2, 3, 4, 'a', 'z', '-', 16, 64, byte(random.Intn(256))}[random.Intn(11)]
		}
		s := summed(string(b))
		decodesAs(t, s)
		if _, may := recordOf(s); may {
			right++
		}
	}
	if right < 1000 || right > 39000 {
		t.Errorf("%d of 40000 are a record's: too few or too many to tell", right)
	}
}

// P6.2
func TestNext(t *testing.T) {
	for _, r := range good() {
		s := encoded(t, r)
		isNext(t, s, r.LSN, r.Epoch, r, true)
		for bit := range 64 {
			isNext(t, s, r.LSN^1<<bit, r.Epoch, Record{}, false)
			isNext(t, s, r.LSN^1<<bit, r.Epoch^1<<(bit%32), Record{}, false)
		}
		for bit := range 32 {
			isNext(t, s, r.LSN, r.Epoch^1<<bit, Record{}, false)
		}
		isNext(t, s, r.LSN+1, r.Epoch, Record{}, false)
		isNext(t, s, r.LSN-1, r.Epoch, Record{}, false)
		isNext(t, s, r.LSN, r.Epoch+1, Record{}, false)
		isNext(t, s, r.LSN, r.Epoch-1, Record{}, false)
		isNext(t, s, r.LSN+1, r.Epoch+1, Record{}, false)
	}
}

// P6.2: what is no record's sector has no LSN and no Epoch, not even those that its bytes tell.
func TestNextOfNone(t *testing.T) {
	for _, s := range []string{"", "\x00", strings.Repeat("\x00", 127), strings.Repeat("\x00", 128), strings.Repeat("\x00", 129), strings.Repeat("\xff", 128)} {
		isNext(t, s, 0, 0, Record{}, false)
		isNext(t, s, math.MaxUint64, math.MaxUint32, Record{}, false)
	}
	for _, r := range good() {
		s := encoded(t, r)
		isNext(t, s[:127], r.LSN, r.Epoch, Record{}, false)
		isNext(t, s+"\x00", r.LSN, r.Epoch, Record{}, false)
		for i := range s {
			b := []byte(s)
			b[i] ^= 0x20
			isNext(t, string(b), r.LSN, r.Epoch, Record{}, false)
		}
		none := r
		none.Kind = Kinds
		isNext(t, sectorOf(none), r.LSN, r.Epoch, Record{}, false)
		none = r
		none.LSN = 0
		isNext(t, sectorOf(none), 0, r.Epoch, Record{}, false)
	}
}

// P6.3: a record is decoded as it was encoded.
func TestThereAndBack(t *testing.T) {
	random := rand.New(rand.NewSource(63))
	l := good()
	for range 20000 {
		r := Record{LSN: max(1, random.Uint64()>>random.Intn(64)), Epoch: random.Uint32() >> random.Intn(32), Kind: Live + random.Intn(3)}
		if r.Kind == Foot {
			r.Deadline = uint64(random.Intn(16))
		} else {
			for range 1 + random.Intn(16) {
				r.ID += string(idBytes[random.Intn(len(idBytes))])
			}
			r.Ver = random.Uint64() >> random.Intn(64)
		}
		if r.Kind == Live {
			value := make([]byte, random.Intn(65))
			random.Read(value)
			r.Value, r.Deadline = string(value), random.Uint64()>>random.Intn(64)
		}
		l = append(l, r)
	}
	for _, r := range l {
		if x, e := Decode(encoded(t, r)); e != api.OK || x != r {
			t.Fatalf("Decode of Encode(%#v) = %#v, %d", r, x, e)
		}
	}
}

// closeTo are records that differ from r as little as they may: by one bit of the LSN or of the Epoch.
func closeTo(r Record) []Record {
	var l []Record
	for bit := range 64 {
		if lsn := r.LSN ^ 1<<bit; lsn != 0 {
			l = append(l, changed(r, func(r *Record) { r.LSN = lsn }))
		}
	}
	for bit := range 32 {
		l = append(l, changed(r, func(r *Record) { r.Epoch ^= 1 << bit }))
	}
	return l
}

// tears asks for the first record in sectors whose first bytes are its own, and whose others are others, cut at each place.
func tears(t *testing.T, r Record, other string) {
	t.Helper()
	first := encoded(t, r)
	for at := range 129 {
		s := first[:at] + other[at:]
		if s == first {
			isNext(t, s, r.LSN, r.Epoch, r, true)
		} else {
			isNext(t, s, r.LSN, r.Epoch, Record{}, false)
		}
	}
}

// P6.3
func TestTorn(t *testing.T) {
	for _, r := range good() {
		tears(t, r, strings.Repeat("\x00", 128))
		for _, other := range good() {
			if other.LSN != r.LSN || other.Epoch != r.Epoch {
				tears(t, r, encoded(t, other))
			}
		}
	}
	for _, r := range few() {
		for _, other := range closeTo(r) {
			tears(t, r, encoded(t, other))
		}
	}
}

// P6.3: a torn sector whose sum happens to be right is none either: the ends tell it.
func TestTornWithRightSum(t *testing.T) {
	first := Record{LSN: 300, Epoch: 1, Kind: Live, Ver: 5, ID: "a", Value: "new"}
	for _, other := range []Record{
		{LSN: 301, Epoch: 1, Kind: Live, Ver: 5, ID: "a", Value: "new"},
		{LSN: 300, Epoch: 2, Kind: Live, Ver: 5, ID: "a", Value: "new"},
		{LSN: 44, Epoch: 1, Kind: Tomb, Ver: 5, ID: "a"},
		{LSN: 300, Epoch: 1 << 24, Kind: Foot},
		{LSN: 1 << 60, Epoch: 1, Kind: Live, Ver: 4, ID: "b", Value: "old"},
	} {
		a, b := encoded(t, first), encoded(t, other)
		for at := range 112 {
			s := summed(a[:at] + b[at:])
			if at >= 12 {
				refuses(t, s)
			}
			isNext(t, s, first.LSN, first.Epoch, Record{}, false)
		}
		isNext(t, a[:116]+b[116:], first.LSN, first.Epoch, Record{}, false)
		isNext(t, a[:116]+strings.Repeat("\x00", 12), first.LSN, first.Epoch, Record{}, false)
	}
}
