package tests

import (
	"encoding/binary"
	"fmt"
	"hash/crc32"
	"math"
	"reflect"
	"slices"
	"strings"
	"testing"

	"loop.example/g00336/impl"
)

func acOp(o impl.Op) impl.Act { return impl.Act{Kind: impl.AcOp, Op: o} }

func acSync(power int64) impl.Act { return impl.Act{Kind: impl.AcSync, Power: power} }

func acCrash(torn int64, keep ...int64) impl.Act {
	return impl.Act{Kind: impl.AcCrash, Keep: keep, Torn: torn}
}

// acts fails unless the act has that code, and, where the store stays as it is, unless it does.
func acts(t *testing.T, what string, s impl.Store, a impl.Act, code int64) impl.Store {
	t.Helper()
	n, got := impl.StoreDo(s, a)
	if want, told := actByHand(s, a); got != code || told != code || !sameStore(n, want) {
		t.Errorf("%s: %+v: %d, by hand %d, want %d: %s", what, a, got, told, code, shortStore(n))
	}
	stays := got == impl.StForm || got == impl.StOp || got == impl.StFull || got == impl.StLost && a.Kind != impl.AcCrash
	if stays && !sameStore(n, s) {
		t.Errorf("%s: %+v: refused with %d, but another store: %s", what, a, got, shortStore(n))
	}
	if got == impl.StWrong && !reflect.DeepEqual(n, impl.Store{}) {
		t.Errorf("%s: %+v: a store that is not right left %s", what, a, shortStore(n))
	}
	return n
}

func newStore(t *testing.T, size int64) impl.Store {
	t.Helper()
	s, ok := impl.StoreNew(size)
	if !ok {
		t.Fatalf("no store of %d", size)
	}
	return s
}

// storeOf is a store of 60 bytes with one volume in which that many syncs stand, each behind a write of other bytes.
func storeOf(t *testing.T, syncs int) impl.Store {
	t.Helper()
	s := acts(t, "make", newStore(t, 60), acOp(opMake("u")), impl.StOk)
	for i := range syncs {
		s = acts(t, "write", s, acOp(opWrite("u", "a", int64(i%7), string(rune('a'+i)))), impl.StOk)
		s = acts(t, "sync", s, acSync(-1), impl.StOk)
	}
	return s
}

// superOf is a commitment of a small pool whose Next tells which one it is.
func superOf(num int64, next int64) string {
	return superByHand(num, impl.Pool{Size: 9, Next: next})
}

// committedIs fails unless Committed tells that num, and a pool with that Next.
func committedIs(t *testing.T, what string, d impl.Disk, num int64, next int64) {
	t.Helper()
	if n, p, ok := impl.Committed(d); !ok || n != num || !samePool(p, impl.Pool{Size: 9, Next: next}) {
		t.Errorf("%s: %d %+v %v, want %d and a Next of %d", what, n, p, ok, num, next)
	}
}

func committedIsNone(t *testing.T, what string, d impl.Disk) {
	t.Helper()
	if n, p, ok := impl.Committed(d); ok || n != 0 || !reflect.DeepEqual(p, impl.Pool{}) {
		t.Errorf("%s: %d %+v %v", what, n, p, ok)
	}
}

// notSuper fails unless the bytes are refused, with all else zero.
func notSuper(t *testing.T, what string, s string) {
	t.Helper()
	if n, p, ok := impl.ReadSuper(s); ok || n != 0 || !reflect.DeepEqual(p, impl.Pool{}) {
		t.Errorf("%s: %.200q: %d %+v %v", what, s, n, p, ok)
	}
}

func TestSuperText(t *testing.T) {
	// The CRC-32 of these twelve bytes, as zip tells it, is 7a3eef79.
	least := "\x00\x00\x00\x0c" + "0\npool 60 1\n" + "\x79\xef\x3e\x7a"
	if s := impl.SuperText(0, impl.Pool{Size: 60, Next: 1}); s != least {
		t.Errorf("%q, want %q", s, least)
	}
	flat, _ := impl.Done(somePool(), opFlush)
	great, _ := impl.Done(greatPool(), opFlush)
	for _, p := range []impl.Pool{{Size: 1, Next: 1}, {Size: impl.MaxSize, Next: impl.MaxId}, flat, widePool(), withData(" a  b "), great} {
		for _, num := range []int64{0, 1, 2, 9, 10, 999999999, impl.MaxId} {
			s := impl.SuperText(num, p)
			body := fmt.Sprint(num, "\n", impl.PoolText(p))
			if s == "" || s != framed(body) || int(binary.BigEndian.Uint32([]byte(s))) != len(body) {
				t.Errorf("%d %.200q: %.200q", num, body, s)
			}
			if n, q, ok := impl.ReadSuper(s); !ok || n != num || !samePool(p, q) {
				t.Errorf("%d: %d %v, %.200q comes back as %.200q", num, n, ok, body, impl.PoolText(q))
			}
		}
		for _, num := range []int64{-1, -2, -1000000000, math.MinInt64, math.MinInt64 + 1, impl.MaxId + 1, impl.MaxId + 2, 1 << 32, math.MaxInt64} {
			if s := impl.SuperText(num, p); s != "" {
				t.Errorf("%d: %.200q", num, s)
			}
		}
	}
	for _, c := range wrongPools() {
		if s := impl.SuperText(1, c.p); s != "" {
			t.Errorf("%s: %.200q", c.name, s)
		}
	}
	for _, c := range rightPools() {
		if s := impl.SuperText(1, c.p); (s == "") != (len(c.p.Late) > 0) || s != superByHand(1, c.p) {
			t.Errorf("%s: %.200q", c.name, s)
		}
	}
	one := impl.Pool{Size: 9, Next: 1, Extents: []impl.Extent{ex(3, "x")}, Late: []impl.Counted{ct(3, 1, "f", 1), ct(3, 1, "f", -1)}}
	if s := impl.SuperText(1, one); s != "" || !impl.PoolOk(one) {
		t.Errorf("late counts that come to nothing: %.200q", s)
	}
}

// The CRC-32 is that of zip for bodies of all lengths and bytes.
func TestChecksums(t *testing.T) {
	for n := 1; n <= impl.MaxData; n++ {
		for b := byte(32); b <= 126; b++ {
			p := withData(strings.Repeat(string([]byte{b}), n))
			s := impl.SuperText(int64(n), p)
			sum := crc32.ChecksumIEEE([]byte(s[4 : len(s)-4]))
			if got := binary.LittleEndian.Uint32([]byte(s[len(s)-4:])); got != sum {
				t.Fatalf("%q: %x, want %x", s, got, sum)
			}
		}
	}
}

// One byte turned, left out or put in, at each place.
func TestBytesNearToACommitment(t *testing.T) {
	flat, _ := impl.Done(somePool(), opFlush)
	for _, s := range []string{superOf(0, 1), superOf(7, 3), superByHand(impl.MaxId, withData("a b")), superByHand(4, flat)} {
		put := make([]byte, 256)
		for b := range put {
			put[b] = byte(b)
		}
		if len(s) > 100 {
			put = []byte("\n 019-+ax\x00\x01\xff")
		}
		changedTexts(s, put, func(what string, near string) {
			if near != s {
				notSuper(t, what, near)
			}
		})
		for i := range len(s) {
			for bit := range 8 {
				notSuper(t, "a bit", s[:i]+string([]byte{s[i] ^ 1<<bit})+s[i+1:])
			}
		}
		for _, more := range []string{"\n", "\x00", " ", "0", s, s[:4], s[4:], s[:len(s)-4], s[len(s)-4:], strings.Repeat("\x00", 8)} {
			notSuper(t, "something behind", s+more)
			notSuper(t, "something ahead", more+s)
		}
	}
}

// Bytes that are right but for what stands at one edge.
func TestOtherEdges(t *testing.T) {
	body := "5\npool 60 1\n"
	s := framed(body)
	if n, _, ok := impl.ReadSuper(s); !ok || n != 5 {
		t.Fatalf("%d %v", n, ok)
	}
	inner, size := []byte(body), uint32(len(body))
	for _, n := range []uint32{0, 1, size - 1, size + 1, size + 4, size + 8, size << 24, size << 8, size + 1<<8, size + 1<<16, size + 1<<24, size | 1<<31, -size, math.MaxUint32} {
		notSuper(t, fmt.Sprint("a length of ", n), string(binary.BigEndian.AppendUint32(nil, n))+s[4:])
	}
	notSuper(t, "the lowest byte of the length first", string(binary.LittleEndian.AppendUint32(nil, size))+s[4:])
	sum := crc32.ChecksumIEEE(inner)
	notSuper(t, "the highest byte of the CRC-32 first", s[:len(s)-4]+string(binary.BigEndian.AppendUint32(nil, sum)))
	for what, other := range map[string]uint32{
		"nought": 0, "all bits": math.MaxUint32, "not turned at the end": ^sum, "one more": sum + 1, "one less": sum - 1,
		"from nought on":        ^crc32.Update(math.MaxUint32, crc32.IEEETable, inner),
		"of another polynomial": crc32.Checksum(inner, crc32.MakeTable(crc32.Castagnoli)),
		"of the pool alone":     crc32.ChecksumIEEE(inner[2:]),
		"with the length":       crc32.ChecksumIEEE([]byte(s[:len(s)-4])),
		"of all but one":        crc32.ChecksumIEEE(inner[:len(inner)-1]),
		"of one more":           crc32.ChecksumIEEE(append(slices.Clone(inner), 0)),
		"as the length":         size,
	} {
		notSuper(t, "a CRC-32 "+what, s[:len(s)-4]+string(binary.LittleEndian.AppendUint32(nil, other)))
	}
	for n := range len(body) {
		notSuper(t, "few bytes", strings.Repeat("\x00", n))
		notSuper(t, "few bytes", s[:n])
		notSuper(t, "a short body", framed(body[:n]))
	}
}

// Bodies that are none of a commitment, with edges that are right.
func TestWrongBodies(t *testing.T) {
	pool := "pool 60 1\n"
	for _, num := range []string{
		"", "00", "01", "007", "+0", "+7", "-0", "-1", "-7", " 7", "7 ", "7\r", "7\t", "\t7", "7.0", "7e0", "0x7", "7_0", "_7", "a", "-", "+", "\x00", "7\x00", "٣", "１", "7,", "7 pool",
		"1000000001", "1000000002", "9999999999", "10000000000", "01000000000", "4294967296", "9223372036854775807", "9223372036854775808", "-9223372036854775808", "18446744073709551616", "18446744073709551617",
		strings.Repeat("9", 400), strings.Repeat("0", 400), "7\n7", "7\n", "\n7",
	} {
		notSuper(t, "num "+num, framed(num+"\n"+pool))
	}
	for what, body := range map[string]string{
		"nothing": "", "a byte 10": "\n", "a num alone": "7", "a num that is ended": "7\n", "no num": pool, "no byte 10": "7" + pool, "a blank for it": "7 " + pool, "a carriage return": "7\r\n" + pool,
		"two of them": "7\n\n" + pool, "a pool that is not ended": "7\npool 60 1", "a line behind": "7\n" + pool + "\n", "two pools": "7\n" + pool + pool, "a num behind": "7\n" + pool + "7\n",
		"a wrong size": "7\npool 0 1\n", "a size too great": "7\npool 401 1\n", "a wrong Next": "7\npool 60 0\n", "a nought ahead": "7\npool 060 1\n", "a plus": "7\npool +60 1\n", "two blanks": "7\npool  60 1\n",
		"something late":        "7\n" + someText,
		"late, and nothing":     "7\npool 9 1\nextent 3 x\nlate 3 1 f 1\nlate 3 1 f -1\n",
		"late, and not in Refs": "7\npool 9 2\nextent 3 x\nvolume 1 u 0\nfile f\npart 3 0 1\nlate 3 1 f 1\n",
		"an extent of nobody":   "7\npool 9 1\nextent 3 x\n",
		"a count too great":     "7\npool 9 2\nextent 3 x\nvolume 1 u 0\nfile f\npart 3 0 1\nref 3 1 f 2\n",
		"a commitment":          superOf(7, 1), "a num and a commitment": "7\n" + superOf(7, 1),
	} {
		notSuper(t, what, framed(body))
		if _, _, ok := readSuperByHand(framed(body)); ok {
			t.Errorf("%s: right by hand", what)
		}
	}
	for body, num := range map[string]int64{"0\npool 60 1\n": 0, "1000000000\npool 1 1\n": 1000000000, "999999999\npool 400 1000000000\n": 999999999,
		"7\npool 9 2\nextent 3 x\nvolume 1 u 0\nfile f\npart 3 0 1\nref 3 1 f 1\n": 7} {
		if n, p, ok := impl.ReadSuper(framed(body)); !ok || n != num || framed(fmt.Sprint(n, "\n", impl.PoolText(p))) != framed(body) {
			t.Errorf("%q: %d %+v %v", body, n, p, ok)
		}
	}
}

func TestLongCommitments(t *testing.T) {
	great, _ := impl.Done(greatPool(), opFlush)
	longest := impl.SuperText(impl.MaxId, great)
	if n, _, ok := impl.ReadSuper(longest); !ok || n != impl.MaxId || len(longest) < 9000 || len(longest) > 2*impl.MaxText {
		t.Fatalf("%d bytes: %d %v", len(longest), n, ok)
	}
	body := longest[4 : len(longest)-4]
	for _, n := range []int{impl.MaxText - 1, impl.MaxText, impl.MaxText + 1, 2*impl.MaxText - 1, 2 * impl.MaxText, 2*impl.MaxText + 1, 3000000} {
		for _, byte := range []string{"\n", " ", "0", "\x00"} {
			notSuper(t, "much behind", longest+strings.Repeat(byte, n-len(longest)))
			notSuper(t, "much in the body", framed(body+strings.Repeat(byte, n-len(longest))))
			notSuper(t, "much ahead", framed(strings.Repeat(byte, n-len(longest))+body))
			notSuper(t, "one byte alone", strings.Repeat(byte, n))
		}
	}
}

func TestCommitted(t *testing.T) {
	s := func(num int64) string { return superOf(num, num%1000+100) }
	for _, c := range []struct {
		name string
		d    impl.Disk
		num  int64
	}{
		{"one", syncedDisk("s0", s(0)), 0},
		{"one in s1", syncedDisk("s1", s(1)), 1},
		{"one in s2", syncedDisk("s2", s(2)), 2},
		{"a great one", syncedDisk("s1", s(1000000000)), 1000000000},
		{"two", syncedDisk("s0", s(0), "s1", s(1)), 1},
		{"three", syncedDisk("s0", s(0), "s1", s(1), "s2", s(2)), 2},
		{"three, the first last", syncedDisk("s0", s(3), "s1", s(1), "s2", s(2)), 3},
		{"three, the second last", syncedDisk("s0", s(3), "s1", s(4), "s2", s(2)), 4},
		{"with more digits", syncedDisk("s0", s(9), "s1", s(10), "s2", s(8)), 10},
		{"far apart", syncedDisk("s0", s(999999999), "s1", s(1), "s2", s(2)), 999999999},
		{"all the greatest", syncedDisk("s0", s(999999999), "s1", s(1000000000), "s2", s(999999998)), 1000000000},
		{"another slot's num in s0", syncedDisk("s0", s(7), "s1", s(1)), 1},
		{"another slot's num in s1", syncedDisk("s0", s(3), "s1", s(5)), 3},
		{"another slot's num in s2", syncedDisk("s0", s(3), "s1", s(4), "s2", s(9)), 4},
		{"other files", syncedDisk("S0", s(9), "s", s(9), "s0", s(3), "s0.new", s(9), "s00", s(9), "s01", s(9), "s3", s(9), "s4", s(10), "s9", s(9), "t0", s(9)), 3},
		{"an empty slot", syncedDisk("s0", s(3), "s1", ""), 3},
		{"two in one slot", syncedDisk("s0", s(3), "s1", s(1)+s(4)), 3},
		{"one behind a nought byte", syncedDisk("s0", s(3), "s1", "\x00"+s(4)), 3},
		{"seen, not synced", with(nil, fs("s0", s(0)), dkAppend("s0", s(0))), 0},
		{"seen, another one synced", with(fs("s0", s(0)), fs("s0", s(0), "s1", s(1)), dkAppend("s1", s(1))), 1},
		{"synced, not seen", with(fs("s0", s(0), "s1", s(1)), fs("s0", s(0)), dkRemove("s1")), 0},
		{"renamed to its slot", with(fs("x", s(4)), fs("s1", s(4)), dkRename("x", "s1")), 4},
		{"in two pieces", with(nil, fs("s1", s(4)), dkAppend("s1", s(4)[:9]), dkAppend("s1", s(4)[9:])), 4},
	} {
		committedIs(t, c.name, c.d, c.num, c.num%1000+100)
		checkCommitted(t, c.d)
	}
	for _, c := range []diskCase{
		{"no files", impl.Disk{}},
		{"an empty slot", syncedDisk("s0", "")},
		{"other files", syncedDisk("a", s(0), "s", s(0), "s0.new", s(0), "s00", s(0), "s3", s(3))},
		{"each in another one's slot", syncedDisk("s0", s(1), "s1", s(2), "s2", s(0))},
		{"torn ones", syncedDisk("s0", s(0)[:20], "s1", s(1)[:1], "s2", s(2)[:len(s(2))-1])},
		{"a commitment with something late", syncedDisk("s0", framed("0\n"+someText))},
		{"one that is there no more", with(fs("s0", s(0)), nil, dkRemove("s0"))},
		{"renamed from its slot", with(fs("s1", s(4)), fs("s2", s(4)), dkRename("s1", "s2"))},
		{"two alike", syncedDisk("s0", s(0)+s(0))},
	} {
		committedIsNone(t, c.name, c.d)
		checkCommitted(t, c.d)
	}
	for _, c := range wrongDisks() {
		c.d.Live = append(slices.Clone(c.d.Live), fs("s0", s(0))...)
		c.d.Safe = append(slices.Clone(c.d.Safe), fs("s0", s(0))...)
		if !impl.DiskOk(c.d) {
			committedIsNone(t, c.name, c.d)
		}
	}
	committedIsNone(t, "two s0", syncedDisk("s0", s(0), "s0", s(0)))
	committedIsNone(t, "Live alone", impl.Disk{Live: fs("s0", s(0))})
	committedIsNone(t, "Safe alone", impl.Disk{Safe: fs("s0", s(0))})
}

// Of three slots each is spoilt, byte by byte: the last of those that are whole is told.
func TestCommittedOfSpoiltSlots(t *testing.T) {
	nums := []int64{6, 7, 5}
	whole := []string{superOf(6, 106), superOf(7, 107), superOf(5, 105)}
	told := []int64{7, 6, 7}
	for slot := range 3 {
		changedTexts(whole[slot], []byte("\x00\n07\xff"), func(what string, near string) {
			if near == whole[slot] {
				return
			}
			l := slices.Clone(whole)
			l[slot] = near
			committedIs(t, fmt.Sprint("slot ", slot, " ", what), syncedDisk("s0", l[0], "s1", l[1], "s2", l[2]), told[slot], told[slot]+100)
			// No other one is whole, either.
			l[(slot+1)%3] = whole[(slot+1)%3][:13]
			l[(slot+2)%3] = superOf(nums[(slot+2)%3]+1, 1)
			committedIsNone(t, fmt.Sprint("slot ", slot, " ", what), syncedDisk("s0", l[0], "s1", l[1], "s2", l[2]))
		})
	}
}

func TestStoreNew(t *testing.T) {
	for _, size := range odd {
		s, ok := impl.StoreNew(size)
		if size < 1 || size > impl.MaxSize {
			if ok || !reflect.DeepEqual(s, impl.Store{}) {
				t.Errorf("%d: %s %v", size, shortStore(s), ok)
			}
			continue
		}
		want := impl.Pool{Size: size, Next: 1}
		text := framed(fmt.Sprintf("0\npool %d 1\n", size))
		if !ok || !impl.StoreOk(s) || s.Num != 0 || !samePool(s.Pool, want) || !sameDisk(s.Disk, syncedDisk("s0", text)) {
			t.Errorf("%d: %s %v", size, shortStore(s), ok)
		}
		if n, p, ok := impl.Committed(s.Disk); !ok || n != 0 || !samePool(p, want) {
			t.Errorf("%d: %d %+v %v", size, n, p, ok)
		}
		acts(t, "a crash", s, acCrash(0), impl.StOk)
	}
}

type storeCase struct {
	name string
	s    impl.Store
}

// openDisk is a disk on which the slots 3, 4, 2 are seen, of which those of 4 and 2 are not synced.
func openDisk() impl.Disk {
	a, b, c := superOf(3, 103), superOf(4, 104), superOf(2, 102)
	return with(fs("s0", a), fs("s0", a, "s1", b, "s2", c), dkAppend("s1", b), dkAppend("s2", c))
}

func rightStores() []storeCase {
	p := impl.Pool{Size: 9, Next: 1}
	three := syncedDisk("s0", superOf(3, 103), "s1", superOf(4, 104), "s2", superOf(2, 102))
	return []storeCase{
		{"another pool than the committed one", impl.Store{Disk: three, Pool: p, Num: 4}},
		{"a pool with much, and late", impl.Store{Disk: three, Pool: somePool(), Num: 4}},
		{"num 0", impl.Store{Disk: syncedDisk("s0", superOf(0, 1)), Pool: p}},
		{"num MaxId", impl.Store{Disk: syncedDisk("s1", superOf(1000000000, 1)), Pool: p, Num: 1000000000}},
		{"a disk with ops", impl.Store{Disk: openDisk(), Pool: p, Num: 4}},
		{"a disk with other files", impl.Store{Disk: syncedDisk("a", "1", "s0", superOf(0, 1), "x", "2"), Pool: p}},
		{"a slot of which nothing is read", impl.Store{Disk: syncedDisk("s0", superOf(3, 1), "s1", "half", "s2", ""), Pool: p, Num: 3}},
		{"empty lists", impl.Store{Disk: three, Pool: impl.Pool{Size: 9, Next: 1, Extents: []impl.Extent{}, Vols: []impl.Volume{}, Refs: []impl.Counted{}, Late: []impl.Counted{}}, Num: 4}},
	}
}

func downStores() []storeCase {
	return []storeCase{
		{"the zero value", impl.Store{}},
		{"empty lists", impl.Store{Disk: impl.Disk{Live: []impl.File{}, Ops: []impl.DOp{}}, Pool: impl.Pool{Extents: []impl.Extent{}, Vols: []impl.Volume{}, Refs: []impl.Counted{}, Late: []impl.Counted{}}}},
		{"a disk with a commitment", impl.Store{Disk: syncedDisk("s1", superOf(4, 104))}},
		{"a disk with commitments and ops", impl.Store{Disk: openDisk()}},
		{"a disk with the num 0", impl.Store{Disk: syncedDisk("s0", superOf(0, 1))}},
		{"a disk without any", impl.Store{Disk: syncedDisk("a", "1", "s0", "half", "s1", superOf(3, 1))}},
		{"a disk with ops, without any", impl.Store{Disk: with(nil, fs("s0", "half"), dkAppend("s0", "half"))}},
	}
}

// wrongStores are right but for one thing, which their names tell.
func wrongStores() []storeCase {
	p := impl.Pool{Size: 9, Next: 1}
	three := syncedDisk("s0", superOf(3, 103), "s1", superOf(4, 104), "s2", superOf(2, 102))
	l := []storeCase{
		{"a pool on no disk", impl.Store{Pool: p}},
		{"a pool on a disk without any commitment", impl.Store{Disk: syncedDisk("s0", "half", "s1", superOf(3, 1)), Pool: p}},
		{"a num on it, too", impl.Store{Disk: syncedDisk("s1", superOf(3, 1)), Pool: p, Num: 3}},
		{"a commitment that is synced, but not seen", impl.Store{Disk: with(fs("s0", superOf(0, 1)), nil, dkRemove("s0")), Pool: p}},
		{"a disk of nothing done", impl.Store{Disk: with(nil, fs("s0", superOf(0, 1))), Pool: p}},
		{"names alike", impl.Store{Disk: syncedDisk("s0", superOf(0, 1), "s0", superOf(0, 1)), Pool: p}},
	}
	for _, num := range append(slices.Clone(odd), 4, 5, 1000000000, 1000000001) {
		if num != 4 {
			l = append(l, storeCase{fmt.Sprint("num ", num), impl.Store{Disk: three, Pool: p, Num: num}})
		}
		if num != 0 {
			l = append(l, storeCase{fmt.Sprint("down, num ", num), impl.Store{Disk: three, Num: num}}, storeCase{fmt.Sprint("nothing, num ", num), impl.Store{Num: num}})
		}
	}
	for _, c := range wrongDisks() {
		l = append(l, storeCase{"down, " + c.name, impl.Store{Disk: c.d}})
	}
	for _, c := range wrongPools() {
		if !samePool(c.p, impl.Pool{}) {
			l = append(l, storeCase{c.name, impl.Store{Disk: three, Pool: c.p, Num: 4}}, storeCase{"num 0, " + c.name, impl.Store{Disk: syncedDisk("s0", superOf(0, 1)), Pool: c.p}})
		}
	}
	// Each of these alone keeps a pool from being none.
	for i, q := range []impl.Pool{{Size: 1}, {Next: 1}, {Size: -1}, {Next: -1}, {Extents: []impl.Extent{{}}}, {Vols: []impl.Volume{{}}}, {Refs: []impl.Counted{{}}}, {Late: []impl.Counted{{}}}} {
		l = append(l, storeCase{fmt.Sprint("nearly down ", i), impl.Store{Disk: syncedDisk("s0", superOf(0, 1)), Pool: q}})
	}
	return l
}

// everyAct is one of each Kind, and such as are none.
func everyAct() []impl.Act {
	return []impl.Act{acOp(opMake("new")), acOp(opFlush), acOp(impl.Op{}), acSync(-1), acSync(0), acSync(1), acCrash(0), acCrash(9, 0), acCrash(-1), {}, {Kind: 4}, {Kind: -1}}
}

func TestStoreOk(t *testing.T) {
	for _, c := range append(rightStores(), downStores()...) {
		if !impl.StoreOk(c.s) || !storeByHand(c.s) {
			t.Errorf("%s: refused", c.name)
		}
		if s, codes := impl.StorePlay(c.s, nil); len(codes) != 0 || !sameStore(s, c.s) {
			t.Errorf("%s: %s %v", c.name, shortStore(s), codes)
		}
	}
	for _, c := range wrongStores() {
		if impl.StoreOk(c.s) || storeByHand(c.s) {
			t.Errorf("%s: accepted", c.name)
		}
		for _, a := range everyAct() {
			acts(t, c.name, c.s, a, impl.StWrong)
		}
		for _, l := range [][]impl.Act{nil, everyAct(), slices.Repeat(everyAct(), 20)} {
			if s, codes := impl.StorePlay(c.s, l); len(codes) != 0 || !reflect.DeepEqual(s, impl.Store{}) {
				t.Errorf("%s: %s %v", c.name, shortStore(s), codes)
			}
		}
	}
}

func TestKindsOfActs(t *testing.T) {
	for _, c := range append(rightStores(), downStores()...) {
		for _, kind := range append(slices.Clone(odd), 4, 5, 1<<32+1, 1<<32+2, 1<<32+3) {
			if kind >= 1 && kind <= 3 {
				continue
			}
			acts(t, c.name, c.s, impl.Act{Kind: kind}, impl.StForm)
			acts(t, c.name, c.s, impl.Act{Kind: kind, Op: opMake("new"), Power: -1, Keep: []int64{0}, Torn: 5}, impl.StForm)
		}
	}
}

// Each Kind of act on a store that is down.
func TestActsOnAStoreThatIsDown(t *testing.T) {
	for _, c := range downStores() {
		for _, o := range append(rightOps(), wrongOps()...) {
			acts(t, c.name, c.s, acOp(o), impl.StLost)
		}
		for _, power := range odd {
			acts(t, c.name, c.s, acSync(power), impl.StLost)
		}
		acts(t, c.name, c.s, acCrash(-1), impl.StForm)
		acts(t, c.name, c.s, acCrash(math.MinInt64), impl.StForm)
		acts(t, c.name, c.s, acCrash(0, int64(len(c.s.Disk.Ops))), impl.StForm)
		acts(t, c.name, c.s, acCrash(0, -1), impl.StForm)
		d, _ := crashByHand(c.s.Disk, nil, 0)
		if num, p, ok := committedByHand(d); ok {
			if s := acts(t, c.name, c.s, acCrash(0), impl.StOk); !sameStore(s, impl.Store{Disk: d, Pool: p, Num: num}) {
				t.Errorf("%s: %s", c.name, shortStore(s))
			}
		} else if s := acts(t, c.name, c.s, acCrash(0), impl.StLost); !sameStore(s, impl.Store{Disk: d}) {
			t.Errorf("%s: %s", c.name, shortStore(s))
		}
	}
	// What is kept says which one comes back.
	s := impl.Store{Disk: openDisk()}
	for _, c := range []struct {
		a   impl.Act
		num int64
	}{{acCrash(0), 3}, {acCrash(1000, 0), 4}, {acCrash(0, 0, 1), 4}, {acCrash(1000, 1), 3}, {acCrash(5, 0), 3}, {acCrash(int64(len(superOf(4, 104))), 0), 4}, {acCrash(int64(len(superOf(4, 104)))-1, 0), 3}} {
		if n := acts(t, "kept", s, c.a, impl.StOk); n.Num != c.num || n.Pool.Next != 100+c.num {
			t.Errorf("%+v: %s", c.a, shortStore(n))
		}
	}
	// A store that is up goes down when no commitment is left.
	gone := impl.Store{Disk: with(nil, fs("a", "1", "s0", superOf(0, 1)), dkAppend("s0", superOf(0, 1)), dkAppend("a", "1")), Pool: impl.Pool{Size: 9, Next: 1}}
	n := acts(t, "gone", gone, acCrash(1, 1), impl.StLost)
	if !sameStore(n, impl.Store{Disk: syncedDisk("a", "1")}) {
		t.Errorf("gone: %s", shortStore(n))
	}
	acts(t, "gone", n, acSync(-1), impl.StLost)
	acts(t, "gone", n, acCrash(0), impl.StLost)
}

func TestAcOp(t *testing.T) {
	for _, o := range rightOps() {
		s := impl.Store{Disk: openDisk(), Pool: somePool(), Num: 4}
		want, _ := doneByHand(somePool(), o)
		if n := acts(t, "some", s, acOp(o), impl.StOk); !sameStore(n, impl.Store{Disk: openDisk(), Pool: want, Num: 4}) {
			t.Errorf("%+v: %s", o, shortStore(n))
		}
	}
	s := impl.Store{Disk: openDisk(), Pool: somePool(), Num: 4}
	for _, o := range wrongOps() {
		acts(t, "a wrong op", s, acOp(o), impl.StOp)
	}
	for _, o := range []impl.Op{opMake("u"), opWrite("none", "a", 0, "x"), opWrite("fixed", "a", 0, "x"), opWrite("u", "a", 100, "x"), opCut("u", "none", 1), opDrop("none"), opFix("fixed"), opSnap("u", "a")} {
		acts(t, "a refused op", s, acOp(o), impl.StOp)
	}
	// What is not synced is lost.
	n := acts(t, "make", newStore(t, 60), acOp(opMake("u")), impl.StOk)
	if n = acts(t, "crash", n, acCrash(0), impl.StOk); !sameStore(n, newStore(t, 60)) {
		t.Errorf("not synced, but there: %s", shortStore(n))
	}
}

// What a Kind does not name is nobody's business.
func TestOtherFieldsOfActs(t *testing.T) {
	s := impl.Store{Disk: openDisk(), Pool: somePool(), Num: 4}
	odds := impl.Act{Op: impl.Op{Kind: 77, Vol: "?", At: -5}, Power: 0, Keep: []int64{9, -9}, Torn: -9}
	for _, a := range []impl.Act{acOp(opMake("new")), acSync(-1), acSync(1), acCrash(5, 0)} {
		b := odds
		b.Kind = a.Kind
		switch a.Kind {
		case impl.AcOp:
			b.Op = a.Op
		case impl.AcSync:
			b.Power = a.Power
		case impl.AcCrash:
			b.Keep, b.Torn = a.Keep, a.Torn
		}
		one, code := impl.StoreDo(s, a)
		two, again := impl.StoreDo(s, b)
		if code != again || !sameStore(one, two) {
			t.Errorf("%+v: %d, with other fields %d", a, code, again)
		}
	}
}

// Each of s0, s1 and s2 is written again and again: what was there goes.
func TestSyncsInARow(t *testing.T) {
	s := acts(t, "make", newStore(t, 60), acOp(opMake("u")), impl.StOk)
	files := map[string]string{"s0": impl.SuperText(0, newStore(t, 60).Pool)}
	for num := int64(1); num <= 10; num++ {
		s = acts(t, "write", s, acOp(opWrite("u", "a", num%7, string(rune('a'+num)))), impl.StOk)
		if len(s.Pool.Late) == 0 {
			t.Fatalf("nothing is late: %+v", s.Pool)
		}
		flat, _ := doneByHand(s.Pool, opFlush)
		s = acts(t, "sync", s, acSync(-1), impl.StOk)
		files[fmt.Sprint("s", num%3)] = superByHand(num, flat)
		want := impl.Disk{Live: inOrder(files), Safe: inOrder(files)}
		if !sameStore(s, impl.Store{Disk: want, Pool: flat, Num: num}) {
			t.Fatalf("sync %d: %s", num, shortStore(s))
		}
		if n := acts(t, "crash", s, acCrash(0), impl.StOk); !sameStore(n, s) {
			t.Fatalf("sync %d, crashed: %s", num, shortStore(n))
		}
	}
	// A sync of what is committed already is one more.
	if n := acts(t, "again", s, acSync(3), impl.StOk); n.Num != 11 || !samePool(n.Pool, s.Pool) {
		t.Errorf("%s", shortStore(n))
	}
}

// stepsAt is how many steps the next sync takes.
func stepsAt(s impl.Store) int64 {
	if _, there := byNames(s.Disk.Live)[fmt.Sprint("s", (s.Num+1)%3)]; there {
		return 3
	}
	return 2
}

// Promise 9: the power is lost at every step of a sync, and whatever of what was not synced is kept.
func TestPowerLostAtEveryStep(t *testing.T) {
	seen := map[string]int{}
	for syncs := range 6 {
		s := acts(t, "write", storeOf(t, syncs), acOp(opWrite("u", "b", 0, "late")), impl.StOk)
		s = acts(t, "unlink", s, acOp(opCut("u", "b", 1)), impl.StOk)
		flat, _ := doneByHand(s.Pool, opFlush)
		_, last, _ := impl.Committed(s.Disk)
		steps := stepsAt(s)
		for _, power := range []int64{math.MinInt64, -2, -1, 0, 1, 2, 3, 4, 5, 100, math.MaxInt64} {
			what := fmt.Sprint(syncs, " syncs, power ", power)
			if power < 0 || power >= steps {
				n := acts(t, what, s, acSync(power), impl.StOk)
				if n.Num != s.Num+1 || !samePool(n.Pool, flat) || len(n.Disk.Ops) != 0 {
					t.Fatalf("%s: %s", what, shortStore(n))
				}
				continue
			}
			down := acts(t, what, s, acSync(power), impl.StPower)
			if !samePool(down.Pool, impl.Pool{}) || down.Num != 0 || int64(len(down.Disk.Ops)) != power || !slices.Equal(down.Disk.Safe, s.Disk.Live) {
				t.Fatalf("%s: %s", what, shortStore(down))
			}
			crashAnyWay(t, what, down, func(n impl.Store, whole bool) {
				if whole && (n.Num != s.Num+1 || !samePool(n.Pool, flat)) || !whole && (n.Num != s.Num || !samePool(n.Pool, last)) {
					t.Fatalf("%s: whole %v: %s", what, whole, shortStore(n))
				}
				seen[fmt.Sprint(steps, power, whole)]++
			})
		}
	}
	for _, want := range []string{"2 0 false", "2 1 false", "2 1 true", "3 0 false", "3 1 false", "3 2 false", "3 2 true"} {
		if seen[want] == 0 {
			t.Errorf("%s never came: %v", want, seen)
		}
	}
}

// crashAnyWay tells each store that a crash of one that is down leaves, with every choice of what is kept and every torn, and whether the new commitment was kept whole, on its own.
func crashAnyWay(t *testing.T, what string, s impl.Store, each func(n impl.Store, whole bool)) {
	t.Helper()
	ops := s.Disk.Ops
	for set := range 1 << len(ops) {
		keep := slices.DeleteFunc(allPlaces(len(ops)), func(k int64) bool { return set>>k&1 == 0 })
		size := int64(0)
		if len(keep) > 0 {
			size = int64(len(ops[keep[len(keep)-1]].Data))
		}
		for torn := range size + 2 {
			n := acts(t, what, s, acCrash(torn, keep...), impl.StOk)
			// An append whose remove is lost stands behind the elder one.
			each(n, size > 0 && torn >= size && len(keep) == len(ops))
		}
		n := acts(t, what, s, acCrash(math.MaxInt64, keep...), impl.StOk)
		each(n, size > 0 && len(keep) == len(ops))
	}
}

// Behind a crash, whatever it left, the store goes on, and may lose its power again.
func TestPowerLostAgainAndAgain(t *testing.T) {
	for syncs := range 4 {
		s := storeOf(t, syncs)
		for power := range stepsAt(s) {
			down := acts(t, "sync", acts(t, "fix", s, acOp(opFix("u")), impl.StOk), acSync(power), impl.StPower)
			crashAnyWay(t, "crash", down, func(n impl.Store, whole bool) {
				next := acts(t, "make", n, acOp(opMake("next")), impl.StOk)
				for p := range stepsAt(next) {
					again := acts(t, "again", next, acSync(p), impl.StPower)
					for _, a := range []impl.Act{acCrash(0), acCrash(12, allPlaces(len(again.Disk.Ops))...), acCrash(1e6, allPlaces(len(again.Disk.Ops))...), acCrash(1e6, allPlaces(len(again.Disk.Ops))[min(1, len(again.Disk.Ops)):]...)} {
						left := acts(t, "crash again", again, a, impl.StOk)
						if left.Num != n.Num && left.Num != n.Num+1 || left.Num == n.Num && !samePool(left.Pool, n.Pool) {
							t.Fatalf("%d %d %+v: %s, want what was committed, %s", syncs, p, a, shortStore(left), shortStore(n))
						}
					}
				}
				done := acts(t, "sync", next, acSync(-1), impl.StOk)
				if left := acts(t, "crash", done, acCrash(0), impl.StOk); left.Num != n.Num+1 || !sameStore(left, done) {
					t.Fatalf("%s, want %s", shortStore(left), shortStore(done))
				}
			})
		}
	}
}

// The slot that is to be written has an elder commitment, a torn one, one of another slot, or nothing.
func TestSyncOverASlot(t *testing.T) {
	p := impl.Pool{Size: 9, Next: 7}
	for what, data := range map[string]string{"an elder one": superOf(1, 1), "a torn one": superOf(4, 1)[:11], "one of another slot": superOf(5, 1), "nothing": "", "other bytes": "\x00\x00", "two": superOf(1, 1) + superOf(4, 1)} {
		s := impl.Store{Disk: syncedDisk("s0", superOf(3, 103), "s1", data, "s2", superOf(2, 102)), Pool: p, Num: 3}
		want := syncedDisk("s0", superOf(3, 103), "s1", superOf(4, 7), "s2", superOf(2, 102))
		if n := acts(t, what, s, acSync(3), impl.StOk); !sameStore(n, impl.Store{Disk: want, Pool: p, Num: 4}) {
			t.Errorf("%s: %s", what, shortStore(n))
		}
		down := acts(t, what, s, acSync(2), impl.StPower)
		if !slices.Equal(down.Disk.Ops, []impl.DOp{dkRemove("s1"), dkAppend("s1", superOf(4, 7))}) {
			t.Errorf("%s: %s", what, shortStore(down))
		}
		for _, c := range []struct {
			a   impl.Act
			num int64
		}{{acCrash(0), 3}, {acCrash(0, 0), 3}, {acCrash(1000, 0, 1), 4}, {acCrash(10, 0, 1), 3}, {acCrash(10, 1), 3}, {acCrash(0, 1), 3}, {acCrash(1000, 1), map[bool]int64{true: 4, false: 3}[data == ""]}} {
			if n := acts(t, what, down, c.a, impl.StOk); n.Num != c.num {
				t.Errorf("%s: %+v: %s", what, c.a, shortStore(n))
			}
		}
	}
}

// filled is a store with the num 3 on a disk with these slots, that many files of that many bytes beside them, and that many ops.
func filled(t *testing.T, slots []impl.File, files int, bytes int, ops int) impl.Store {
	t.Helper()
	d := fullDisk(t, max(files, 1), max(bytes, 1))
	d.Live = append(d.Live[:files], slots...)
	d.Safe = slices.Clone(d.Live)
	d = doAllOn(t, d, emptyOps(ops)...)
	s := impl.Store{Disk: d, Pool: impl.Pool{Size: 9, Next: 77}, Num: 3}
	if !impl.StoreOk(s) {
		t.Fatalf("%d files, %d bytes, %d ops: not right", files, bytes, ops)
	}
	return s
}

// emptyOps are ops that change nothing that is seen.
func emptyOps(n int) []impl.DOp { return slices.Repeat([]impl.DOp{dkAppend("s0", "")}, n) }

// A step that is refused leaves all as it was; the power may be gone ahead of it.
func TestSyncsThatAreRefused(t *testing.T) {
	fresh := fs("s0", superOf(3, 1))
	elder := fs("s0", superOf(3, 1), "s1", superOf(1, 1))
	size := len(superOf(4, 77)) // one more than the elder one has
	room := impl.DkBytes - len(superOf(3, 1))
	for _, c := range []struct {
		name  string
		s     impl.Store
		codes []int64 // with a power of 0, 1, 2, 3, -1
	}{
		{"room for all bytes", filled(t, fresh, 1, room-size, 0), []int64{5, 5, 0, 0, 0}},
		{"one byte too many", filled(t, fresh, 1, room-size+1, 0), []int64{5, 4, 4, 4, 4}},
		{"room for all bytes when the elder one is gone", filled(t, elder, 1, room-size, 0), []int64{5, 5, 5, 0, 0}},
		{"one byte too many then, too", filled(t, elder, 1, room-size+1, 0), []int64{5, 5, 4, 4, 4}},
		{"room for one file", filled(t, fresh, 58, 58, 0), []int64{5, 5, 0, 0, 0}},
		{"no room for one", filled(t, fresh, 59, 59, 0), []int64{5, 4, 4, 4, 4}},
		{"no room for one, but the elder one goes", filled(t, elder, 58, 58, 0), []int64{5, 5, 5, 0, 0}},
		{"199 ops", filled(t, fresh, 1, 1, 199), []int64{5, 5, 0, 0, 0}},
		{"200 ops", filled(t, fresh, 1, 1, 200), []int64{5, 4, 4, 4, 4}},
		{"198 ops and an elder one", filled(t, elder, 1, 1, 198), []int64{5, 5, 5, 0, 0}},
		{"199 ops and an elder one", filled(t, elder, 1, 1, 199), []int64{5, 5, 4, 4, 4}},
		{"200 ops and an elder one", filled(t, elder, 1, 1, 200), []int64{5, 4, 4, 4, 4}},
	} {
		for i, power := range []int64{0, 1, 2, 3, -1} {
			n := acts(t, fmt.Sprint(c.name, ", power ", power), c.s, acSync(power), c.codes[i])
			if c.codes[i] == impl.StOk && (n.Num != 4 || len(n.Disk.Ops) != 0) {
				t.Errorf("%s, power %d: %s", c.name, power, shortStore(n))
			}
		}
	}
}

func TestGreatestNum(t *testing.T) {
	p := impl.Pool{Size: 9, Next: 7}
	last := impl.Store{Disk: syncedDisk("s0", superOf(999999999, 1)), Pool: p, Num: 999999999}
	s := acts(t, "to MaxId", last, acSync(-1), impl.StOk)
	if s.Num != impl.MaxId || s.Disk.Live[1] != (impl.File{Name: "s1", Data: superOf(impl.MaxId, 7)}) {
		t.Errorf("%s", shortStore(s))
	}
	for _, power := range odd {
		acts(t, "at MaxId", s, acSync(power), impl.StForm)
	}
	if n := acts(t, "at MaxId", s, acOp(opMake("u")), impl.StOk); n.Num != impl.MaxId {
		t.Errorf("%s", shortStore(n))
	}
	if n := acts(t, "at MaxId", s, acCrash(0), impl.StOk); !sameStore(n, s) {
		t.Errorf("%s", shortStore(n))
	}
}

// Inputs at which two or more of the refusals hold.
func TestWhichRefusalOfActsComesFirst(t *testing.T) {
	full := filled(t, fs("s0", superOf(3, 1)), 59, 59, 0)
	most := impl.Store{Disk: doAllOn(t, syncedDisk("s1", superOf(1000000000, 1)), slices.Repeat([]impl.DOp{dkAppend("s1", "")}, 200)...), Pool: impl.Pool{Size: 9, Next: 7}, Num: impl.MaxId}
	wrong := impl.Store{Disk: full.Disk, Pool: full.Pool, Num: 4}
	down := impl.Store{Disk: full.Disk}
	none := impl.Store{Disk: syncedDisk("a", "1")}
	for _, c := range []struct {
		name string
		s    impl.Store
		a    impl.Act
		code int64
	}{
		{"not right, no Kind", wrong, impl.Act{}, impl.StWrong},
		{"not right, a wrong op", wrong, acOp(impl.Op{}), impl.StWrong},
		{"not right, no power", wrong, acSync(0), impl.StWrong},
		{"not right, a wrong crash", wrong, acCrash(-1), impl.StWrong},
		{"a num, no pool, a sync", impl.Store{Disk: full.Disk, Num: 3}, acSync(-1), impl.StWrong},
		{"down, no Kind", down, impl.Act{Kind: 4}, impl.StForm},
		{"down, a wrong op", down, acOp(impl.Op{}), impl.StLost},
		{"down, a refused op", down, acOp(opDrop("none")), impl.StLost},
		{"down, no power", down, acSync(0), impl.StLost},
		{"down, no room", down, acSync(-1), impl.StLost},
		{"down at MaxId", impl.Store{Disk: most.Disk}, acSync(0), impl.StLost},
		{"MaxId, no power", most, acSync(0), impl.StForm},
		{"MaxId, no room", most, acSync(-1), impl.StForm},
		{"no power, no room", full, acSync(0), impl.StPower},
		{"power for one, no room", full, acSync(1), impl.StFull},
		{"no commitment, a wrong keep", none, acCrash(0, 0), impl.StForm},
		{"no commitment, a wrong torn", none, acCrash(-1), impl.StForm},
		{"no commitment", none, acCrash(0), impl.StLost},
	} {
		acts(t, c.name, c.s, c.a, c.code)
	}
}

func TestWrongCrashes(t *testing.T) {
	for _, s := range []impl.Store{{Disk: openDisk(), Pool: somePool(), Num: 4}, {Disk: openDisk()}} {
		for _, keep := range [][]int64{{2}, {-1}, {0, 0}, {1, 0}, {0, 1, 2}, {math.MaxInt64}, {math.MinInt64}, {0, math.MaxInt64}, {1, math.MinInt64}, {0, 1, 1}, {1 << 32}} {
			acts(t, "keep", s, acCrash(0, keep...), impl.StForm)
		}
		for _, torn := range odd {
			code := int64(impl.StOk)
			if torn < 0 {
				code = impl.StForm
			}
			acts(t, "torn", s, acCrash(torn), code)
			acts(t, "torn", s, acCrash(torn, 0), code)
			acts(t, "torn", s, acCrash(torn, 0, 1), code)
		}
	}
	// What is left may be too much.
	x := strings.Repeat("x", 150000)
	d := doAllOn(t, syncedDisk("a", x, "s0", superOf(0, 1)), dkRemove("a"), dkAppend("b", x))
	for _, s := range []impl.Store{{Disk: d, Pool: impl.Pool{Size: 9, Next: 1}}, {Disk: d}} {
		acts(t, "too much", s, acCrash(1000000, 1), impl.StForm)
		acts(t, "not too much", s, acCrash(1000, 1), impl.StOk)
		acts(t, "not too much", s, acCrash(1000000, 0, 1), impl.StOk)
	}
}

func TestStorePlay(t *testing.T) {
	s := newStore(t, 60)
	var l []impl.Act
	var want []int64
	for i := range 100 {
		l = append(l, []impl.Act{acOp(opMake("u")), acSync(-1), acOp(opMake("u")), {Kind: 9}, acSync(1), acOp(opDrop("u")), acCrash(0), acOp(opDrop("u")), acCrash(-1), acSync(-1)}[i%10])
		want = append(want, []int64{0, 0, impl.StOp, impl.StForm, impl.StPower, impl.StLost, 0, 0, impl.StForm, 0}[i%10])
	}
	n, codes := impl.StorePlay(s, l)
	if !slices.Equal(codes, want) || n.Num != 20 || !samePool(n.Pool, impl.Pool{Size: 60, Next: 11}) {
		t.Errorf("100 acts: %s %v", shortStore(n), codes)
	}
	for _, k := range []int{101, 200, 1000} {
		if n, codes := impl.StorePlay(s, slices.Repeat([]impl.Act{{Kind: 9}}, k)); len(codes) != 0 || !reflect.DeepEqual(n, impl.Store{}) {
			t.Errorf("%d acts: %s %v", k, shortStore(n), codes)
		}
	}
	if n, codes := impl.StorePlay(s, slices.Repeat([]impl.Act{{Kind: 9}}, 100)); len(codes) != 100 || !sameStore(n, s) {
		t.Errorf("100 acts that are none: %s %v", shortStore(n), codes)
	}
	for _, none := range [][]impl.Act{nil, {}} {
		if n, codes := impl.StorePlay(s, none); len(codes) != 0 || !sameStore(n, s) {
			t.Errorf("no acts: %s %v", shortStore(n), codes)
		}
	}
}

func storeSpans(name string, s impl.Store) []span {
	return slices.Concat(diskSpans(name+".Disk", s.Disk), poolSpans(name+".Pool", s.Pool))
}

// watchedStore is a store with spare room behind each list.
type watchedStore struct {
	s         impl.Store
	live      watched[impl.File]
	safe      watched[impl.File]
	ops       watched[impl.DOp]
	poolAsWas impl.Pool
}

func watchStore(s impl.Store) watchedStore {
	w := watchedStore{live: watch(s.Disk.Live, fileRoom), safe: watch(s.Disk.Safe, fileRoom), ops: watch(s.Disk.Ops, dopRoom)}
	w.s = impl.Store{Disk: impl.Disk{Live: w.live.list, Safe: w.safe.list, Ops: w.ops.list}, Pool: roomy(s.Pool), Num: s.Num}
	w.poolAsWas = opened(w.s.Pool)
	return w
}

func (w watchedStore) check(t *testing.T, what string) {
	t.Helper()
	w.live.check(t, what+" Live")
	w.safe.check(t, what+" Safe")
	w.ops.check(t, what+" Ops")
	if !reflect.DeepEqual(opened(w.s.Pool), w.poolAsWas) {
		t.Errorf("%s: the pool or the room behind its lists was written into", what)
	}
}

// smear writes over all that an answer has, and over the room behind it.
func smear(s impl.Store) {
	fill(s.Disk.Live[:cap(s.Disk.Live)], fileMark)
	fill(s.Disk.Safe[:cap(s.Disk.Safe)], fileMark)
	fill(s.Disk.Ops[:cap(s.Disk.Ops)], dopMark)
	smearPool(s.Pool)
}

func smearPool(p impl.Pool) {
	for _, v := range p.Vols {
		for _, x := range v.Items {
			fill(x.Parts[:cap(x.Parts)], partMark)
		}
		fill(v.Items[:cap(v.Items)], item("mark"))
	}
	fill(p.Vols[:cap(p.Vols)], vol(77, "mark"))
	fill(p.Extents[:cap(p.Extents)], extentMark)
	fill(p.Refs[:cap(p.Refs)], countMark)
	fill(p.Late[:cap(p.Late)], countMark)
}

func TestStoresKeepTheirArguments(t *testing.T) {
	stores := append(append(rightStores(), downStores()...), wrongStores()[:6]...)
	stores = append(stores, storeCase{"of ops", storeOf(t, 5)}, storeCase{"full", filled(t, fs("s0", superOf(3, 1), "s1", superOf(1, 1)), 1, 1, 199)})
	for _, c := range stores {
		for _, a := range append(everyAct(), acSync(2), acSync(3), acOp(opWrite("u", "a", 3, "XY")), acOp(opSnap("u", "new")), acCrash(7, 0, 1)) {
			what := fmt.Sprintf("%s: %+v", c.name, a)
			w, keep := watchStore(c.s), watch(a.Keep, 7)
			a.Keep = keep.list
			n, _ := impl.StoreDo(w.s, a)
			play, codes := impl.StorePlay(w.s, []impl.Act{a})
			more, _ := impl.StorePlay(w.s, []impl.Act{a, acCrash(0), a})
			none, _ := impl.StorePlay(w.s, nil)
			num, p, _ := impl.Committed(w.s.Disk)
			impl.StoreOk(w.s)
			again := impl.SuperText(num, p)
			_, read, _ := impl.ReadSuper(again)
			checkApart(t, what, storeSpans("the argument", w.s), storeSpans("StoreDo", n), storeSpans("StorePlay", play), storeSpans("more", more), storeSpans("none", none),
				poolSpans("Committed", p), poolSpans("ReadSuper", read), spansOf("codes", codes), spansOf("keep", keep.list))
			for _, s := range []impl.Store{n, play, more, none} {
				smear(s)
			}
			smearPool(p)
			smearPool(read)
			w.check(t, what)
			keep.check(t, what+" Keep")
		}
	}
	one, two := newStore(t, 60), newStore(t, 60)
	checkApart(t, "two new ones", storeSpans("one", one), storeSpans("two", two))
	smear(one)
	if !sameStore(two, newStore(t, 60)) {
		t.Errorf("a new store was written into: %s", shortStore(two))
	}
}

func TestPlayKeepsItsActs(t *testing.T) {
	keep := watch([]int64{0, 1}, 7)
	l := []impl.Act{acSync(2), {Kind: impl.AcCrash, Keep: keep.list, Torn: 9}, acOp(opMake("new")), {Kind: 9}, acSync(-1)}
	whole := append(slices.Clone(l), impl.Act{Kind: 88}, impl.Act{Kind: 88})
	was := slices.Clone(whole)
	impl.StorePlay(storeOf(t, 4), whole[:len(l)])
	if !reflect.DeepEqual(whole, was) {
		t.Errorf("the acts or the room behind them were written into: %+v", whole)
	}
	keep.check(t, "Keep")
}

func TestSameActsSameAnswers(t *testing.T) {
	for _, c := range append(append(rightStores(), downStores()...), storeCase{"of ops", storeOf(t, 5)}) {
		for _, a := range everyAct() {
			first, code := impl.StoreDo(c.s, a)
			play, codes := impl.StorePlay(c.s, []impl.Act{a, acSync(-1), a})
			for range 3 {
				n, again := impl.StoreDo(c.s, a)
				if again != code || !reflect.DeepEqual(n, first) {
					t.Fatalf("%s: %+v: %d, then %d", c.name, a, code, again)
				}
				smear(n)
				m, codesAgain := impl.StorePlay(c.s, []impl.Act{a, acSync(-1), a})
				if !slices.Equal(codes, codesAgain) || !reflect.DeepEqual(m, play) {
					t.Fatalf("%s: %+v: %v, then %v", c.name, a, codes, codesAgain)
				}
				smear(m)
			}
		}
	}
}
