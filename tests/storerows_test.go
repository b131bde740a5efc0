package tests

import (
	"encoding/binary"
	"fmt"
	"hash/crc32"
	"math"
	"math/rand"
	"reflect"
	"regexp"
	"slices"
	"strconv"
	"strings"
	"testing"

	"loop.example/g00336/impl"
)

// framed is a body with how many bytes it has ahead of it and its CRC-32 behind it, whatever the body tells.
func framed(body string) string {
	b := binary.BigEndian.AppendUint32(nil, uint32(len(body)))
	b = append(b, body...)
	return string(binary.LittleEndian.AppendUint32(b, crc32.ChecksumIEEE([]byte(body))))
}

func superByHand(num int64, p impl.Pool) string {
	text := textByHand(p)
	if num < 0 || num > 1e9 || text == "" || len(p.Late) != 0 {
		return ""
	}
	return framed(fmt.Sprintf("%d\n%s", num, text))
}

// superForm is the form of what stands between the edges of a commitment, but for its pool.
var superForm = regexp.MustCompile(`(?s)\A(0|[1-9][0-9]{0,9})\n(.*)\z`)

func readSuperByHand(s string) (int64, impl.Pool, bool) {
	if len(s) < 8 || len(s) > 120000 || framed(s[4:len(s)-4]) != s {
		return 0, impl.Pool{}, false
	}
	form := superForm.FindStringSubmatch(s[4 : len(s)-4])
	if form == nil {
		return 0, impl.Pool{}, false
	}
	num, _ := strconv.ParseInt(form[1], 10, 64)
	p, ok := readByHand(form[2])
	if !ok || num > 1e9 || len(p.Late) != 0 {
		return 0, impl.Pool{}, false
	}
	return num, p, true
}

func committedByHand(d impl.Disk) (int64, impl.Pool, bool) {
	num, pool, found := int64(0), impl.Pool{}, false
	if !diskByHand(d) {
		return num, pool, found
	}
	files := byNames(d.Live)
	for name, digit := range map[string]int64{"s0": 0, "s1": 1, "s2": 2} {
		n, p, ok := readSuperByHand(files[name])
		if ok && n%3 == digit && (!found || n > num) {
			num, pool, found = n, p, true
		}
	}
	return num, pool, found
}

// downByHand is a store of which nothing is left but its disk.
func downByHand(s impl.Store) bool { return s.Num == 0 && samePool(s.Pool, impl.Pool{}) }

func storeByHand(s impl.Store) bool {
	num, _, found := committedByHand(s.Disk)
	return diskByHand(s.Disk) && (downByHand(s) || found && s.Num == num && poolByHand(s.Pool))
}

func actByHand(s impl.Store, a impl.Act) (impl.Store, int64) {
	if !storeByHand(s) {
		return impl.Store{}, 1
	}
	switch a.Kind {
	case 1, 2:
		if downByHand(s) {
			return s, 6
		}
	case 3:
		d, ok := crashByHand(s.Disk, a.Keep, a.Torn)
		if !ok {
			return s, 2
		}
		num, p, found := committedByHand(d)
		if !found {
			return impl.Store{Disk: d}, 6
		}
		return impl.Store{Disk: d, Pool: p, Num: num}, 0
	default:
		return s, 2
	}
	if a.Kind == 1 {
		p, code := doneByHand(s.Pool, a.Op)
		if code != 0 {
			return s, 3
		}
		return impl.Store{Disk: s.Disk, Pool: p, Num: s.Num}, 0
	}
	return syncByHand(s, a.Power)
}

func syncByHand(s impl.Store, power int64) (impl.Store, int64) {
	if s.Num == 1e9 {
		return s, 2
	}
	p, _ := doneByHand(s.Pool, opFlush)
	num, d := s.Num+1, s.Disk
	slot := []string{"s0", "s1", "s2"}[num%3]
	ops := []impl.DOp{dkAppend(slot, superByHand(num, p))}
	if _, there := byNames(d.Live)[slot]; there {
		ops = []impl.DOp{dkRemove(slot), ops[0]}
	}
	for _, op := range ops {
		if power == 0 {
			return impl.Store{Disk: d}, 5
		}
		if power > 0 {
			power--
		}
		e, code := doByHand(d, op)
		if code != 0 {
			return s, 4
		}
		d = e
	}
	if power == 0 {
		return impl.Store{Disk: d}, 5
	}
	return impl.Store{Disk: impl.Disk{Live: d.Live, Safe: d.Live}, Pool: p, Num: num}, 0
}

// sameStore takes an empty list and nil as the same.
func sameStore(a impl.Store, b impl.Store) bool {
	return a.Num == b.Num && sameDisk(a.Disk, b.Disk) && samePool(a.Pool, b.Pool)
}

// shortStore tells a store with long texts cut, for a message.
func shortStore(s impl.Store) string {
	return fmt.Sprintf("%d %.1500s %s", s.Num, fmt.Sprintf("%+v", s.Pool), short(s.Disk))
}

// checkAct holds one act against that by hand.
func checkAct(t *testing.T, s impl.Store, a impl.Act) (impl.Store, int64) {
	t.Helper()
	n, code := impl.StoreDo(s, a)
	want, told := actByHand(s, a)
	if code != told || !sameStore(n, want) {
		t.Fatalf("%s\n%+v: %d, want %d\n%s, want\n%s", shortStore(s), a, code, told, shortStore(n), shortStore(want))
	}
	if code == impl.StWrong && !reflect.DeepEqual(n, impl.Store{}) {
		t.Fatalf("a store that is not right left %s", shortStore(n))
	}
	if code != impl.StWrong && !impl.StoreOk(n) {
		t.Fatalf("%s\n%+v: leaves no right store: %s", shortStore(s), a, shortStore(n))
	}
	if code == impl.StPower && !samePool(n.Pool, impl.Pool{}) {
		t.Fatalf("%s\n%+v: without power, but not down: %s", shortStore(s), a, shortStore(n))
	}
	return n, code
}

// checkCommitted asks Committed, and of each slot ReadSuper, and writes again what they tell.
func checkCommitted(t *testing.T, d impl.Disk) {
	t.Helper()
	num, p, ok := impl.Committed(d)
	wantNum, want, told := committedByHand(d)
	if num != wantNum || ok != told || !samePool(p, want) || !ok && !reflect.DeepEqual(p, impl.Pool{}) {
		t.Fatalf("%s\n%d %+v %v, want %d %+v %v", short(d), num, p, ok, wantNum, want, told)
	}
	for _, f := range d.Live {
		superAsByHand(t, f.Name, f.Data)
	}
}

// superAsByHand says whether the bytes are those of a commitment, by the one and the other reader.
func superAsByHand(t *testing.T, what string, s string) bool {
	t.Helper()
	num, p, ok := impl.ReadSuper(s)
	wantNum, want, told := readSuperByHand(s)
	if num != wantNum || ok != told || !samePool(p, want) || !ok && !reflect.DeepEqual(p, impl.Pool{}) {
		t.Fatalf("%s: %.300q: %d %+v %v, want %d %+v %v", what, s, num, p, ok, wantNum, want, told)
	}
	if ok && impl.SuperText(num, p) != s {
		t.Fatalf("%s: %.300q, written again %.300q", what, s, impl.SuperText(num, p))
	}
	return ok
}

// makeAct tells an act, mostly one that is not refused.
func makeAct(r *rand.Rand, s impl.Store) impl.Act {
	a := impl.Act{Kind: []int64{1, 1, 1, 1, 1, 1, 2, 2, 2, 3}[r.Intn(10)]}
	if s.Pool.Size == 0 && r.Intn(3) > 0 {
		a.Kind = 3
	}
	switch a.Kind {
	case impl.AcOp:
		a.Op = makeOp(r, s.Pool)
	case impl.AcSync:
		a.Power = []int64{-1, -1, -1, math.MinInt64, 0, 1, 2, 3, 4, math.MaxInt64}[r.Intn(10)]
	case impl.AcCrash:
		a.Keep, a.Torn = makeKeep(r, len(s.Disk.Ops)), []int64{0, r.Int63n(40), r.Int63n(400), 1e6, math.MaxInt64, -1}[r.Intn(6)]
	}
	if r.Intn(40) == 0 {
		a.Kind = append(slices.Clone(odd), 0, 4, 9)[r.Intn(len(odd)+3)]
	}
	// What its Kind does not name is nobody's business.
	if r.Intn(4) == 0 && a.Kind != impl.AcOp {
		a.Op = impl.Op{Kind: -1, Vol: "?"}
	}
	if r.Intn(4) == 0 && a.Kind != impl.AcSync {
		a.Power = odd[r.Intn(len(odd))]
	}
	if r.Intn(4) == 0 && a.Kind != impl.AcCrash {
		a.Keep, a.Torn = []int64{5, -1}, -7
	}
	return a
}

// ledger is what promise 9 lets a pool be behind a loss of power, as texts.
type ledger struct{ last, next string }

func flushedText(t *testing.T, p impl.Pool) string {
	t.Helper()
	q, code := impl.Done(p, opFlush)
	if code != impl.PlDone {
		t.Fatalf("%+v: %d", p, code)
	}
	return impl.PoolText(q)
}

// follow takes an act that was made into account, and says of a crash whether what came back may come back: what was committed last, or what was to be.
func (l *ledger) follow(t *testing.T, s impl.Store, a impl.Act, n impl.Store, code int64) {
	t.Helper()
	switch {
	case a.Kind == impl.AcSync && code == impl.StOk:
		l.last, l.next = flushedText(t, s.Pool), ""
	case a.Kind == impl.AcSync && code == impl.StPower:
		l.next = flushedText(t, s.Pool)
	case a.Kind == impl.AcCrash && code == impl.StLost:
		t.Fatalf("%s\n%+v: no pool is left", shortStore(s), a)
	case a.Kind == impl.AcCrash && code == impl.StOk:
		text := impl.PoolText(n.Pool)
		if text == "" || text != l.last && text != l.next {
			t.Fatalf("%s\n%+v: %q, neither %q nor %q", shortStore(s), a, text, l.last, l.next)
		}
		l.last, l.next = text, ""
	}
}

// Promise 9 over long rows of acts on a new store, asked behind each.
func TestLongRowsOfActs(t *testing.T) {
	r := rand.New(rand.NewSource(41))
	said := map[[2]int64]int{}
	for row := range 40 {
		s, _ := impl.StoreNew([]int64{400, 150, 40, 400}[row%4])
		l := ledger{last: impl.PoolText(s.Pool)}
		for range 70 {
			a := makeAct(r, s)
			n, code := checkAct(t, s, a)
			l.follow(t, s, a, n, code)
			checkCommitted(t, n.Disk)
			said[[2]int64{a.Kind, code}]++
			s = n
		}
		if len(s.Disk.Live) > 3 {
			t.Fatalf("other files than slots: %s", short(s.Disk))
		}
	}
	for _, want := range [][2]int64{{1, 0}, {1, 3}, {1, 6}, {2, 0}, {2, 5}, {2, 6}, {3, 0}, {3, 2}} {
		if said[want] < 20 {
			t.Errorf("Kind %d was answered %d only %d times: %v", want[0], want[1], said[want], said)
		}
	}
}

// spoilStore changes one thing, which may leave the store right.
func spoilStore(r *rand.Rand, s *impl.Store) {
	switch r.Intn(7) {
	case 0:
		spoilDisk(r, &s.Disk)
	case 1:
		spoil(r, &s.Pool)
	case 2:
		s.Num += r.Int63n(7) - 3
	case 3:
		s.Pool, s.Num = impl.Pool{}, r.Int63n(2)
	case 4:
		s.Num = odd[r.Intn(len(odd))]
	case 5:
		s.Disk = impl.Sync(s.Disk)
	case 6:
		s.Disk, _ = impl.Do(s.Disk, makeDOp(r, s.Disk, 9))
	}
}

// spoilSlot changes one slot of a synced disk.
func spoilSlot(r *rand.Rand, s *impl.Store) {
	l := slices.Clone(s.Disk.Live)
	oneOf(r, l, func(f *impl.File) {
		at := r.Intn(len(f.Data) + 1)
		switch r.Intn(5) {
		case 0:
			f.Data = f.Data[:at]
		case 1:
			f.Data = f.Data[:at] + string([]byte{byte(r.Intn(256))}) + f.Data[min(at+1, len(f.Data)):]
		case 2:
			f.Data += f.Data
		case 3:
			f.Data = impl.SuperText(s.Num+r.Int63n(7)-3, recounted(makePool(r)))
		case 4:
			f.Data = superByHand(r.Int63n(9), impl.Pool{Size: 1 + r.Int63n(9), Next: 1})
		}
	})
	if r.Intn(8) == 0 {
		l = slices.Delete(l, 0, min(1, len(l)))
	}
	if r.Intn(2) == 0 {
		s.Disk = impl.Disk{Live: l, Safe: slices.Clone(l)}
		return
	}
	var ops []impl.DOp
	for _, f := range s.Disk.Live {
		ops = append(ops, dkRemove(f.Name))
	}
	for _, f := range l {
		ops = append(ops, dkAppend(f.Name, f.Data))
	}
	s.Disk = impl.Disk{Live: l, Safe: s.Disk.Live, Ops: ops}
}

// Stores that are spoilt, and acts on them, against those by hand.
func TestStoresAgainstThoseByHand(t *testing.T) {
	r := rand.New(rand.NewSource(42))
	said, codes := map[bool]int{}, map[[2]int64]int{}
	for i := range 900 {
		s, _ := impl.StoreNew(1 + r.Int63n(400))
		for range r.Intn(12) {
			s, _ = impl.StoreDo(s, makeAct(r, s))
		}
		if i%3 > 0 {
			spoilSlot(r, &s)
			if num, _, ok := impl.Committed(s.Disk); ok && s.Pool.Size > 0 && r.Intn(3) > 0 {
				s.Num = num
			}
		}
		for range r.Intn(3) {
			spoilStore(r, &s)
		}
		right := storeByHand(s)
		said[right]++
		if got := impl.StoreOk(s); got != right {
			t.Fatalf("%s: %v, want %v", shortStore(s), got, right)
		}
		checkCommitted(t, s.Disk)
		for range 4 {
			a := makeAct(r, s)
			_, code := checkAct(t, s, a)
			codes[[2]int64{a.Kind, code}]++
		}
	}
	if said[true] < 250 || said[false] < 250 {
		t.Errorf("too few of one kind: %v", said)
	}
	for _, want := range [][2]int64{{1, 0}, {1, 1}, {1, 3}, {1, 6}, {2, 0}, {2, 1}, {2, 5}, {2, 6}, {3, 0}, {3, 1}, {3, 2}, {3, 6}} {
		if codes[want] < 5 {
			t.Errorf("Kind %d was answered %d only %d times: %v", want[0], want[1], codes[want], codes)
		}
	}
}

// StorePlay is StoreDo one by one.
func TestStorePlayIsOneByOne(t *testing.T) {
	r := rand.New(rand.NewSource(43))
	for range 25 {
		first, _ := impl.StoreNew(1 + r.Int63n(400))
		s := first
		var acts []impl.Act
		var codes []int64
		for range r.Intn(101) {
			a := makeAct(r, s)
			n, code := impl.StoreDo(s, a)
			acts, codes, s = append(acts, a), append(codes, code), n
		}
		if n, told := impl.StorePlay(first, acts); !sameStore(n, s) || !slices.Equal(told, codes) {
			t.Fatalf("%+v: %v, want %v\n%s, want\n%s", acts, told, codes, shortStore(n), shortStore(s))
		}
		at := r.Intn(len(acts) + 1)
		half, one := impl.StorePlay(first, acts[:at])
		n, two := impl.StorePlay(half, acts[at:])
		if !sameStore(n, s) || !slices.Equal(append(one, two...), codes) {
			t.Fatalf("%+v in two pieces at %d: %v %v, want %v", acts, at, one, two, codes)
		}
	}
}

// A commitment comes back from its bytes (promise 9), of pools that ops made and of any others.
func TestCommitmentsComeBack(t *testing.T) {
	r := rand.New(rand.NewSource(44))
	nums := []int64{0, 1, 2, 3, 9, 10, 99, 100, 123456789, 999999999, 1000000000}
	said := map[bool]int{}
	for i := range 700 {
		p := makePool(r)
		for k := range p.Extents {
			p.Extents[k].Data = randomText(r, len(p.Extents[k].Data))
		}
		if i%4 > 0 {
			p, _ = impl.Done(p, opFlush)
		}
		num := nums[i%len(nums)]
		if i%9 == 0 {
			num = odd[r.Intn(len(odd))]
		}
		s := impl.SuperText(num, p)
		if want := superByHand(num, p); s != want {
			t.Fatalf("%d %+v: %.300q, want %.300q", num, p, s, want)
		}
		said[s != ""]++
		if s == "" {
			continue
		}
		if n, q, ok := impl.ReadSuper(s); !ok || n != num || !samePool(q, p) || impl.SuperText(n, q) != s {
			t.Fatalf("%d %+v comes back as %d %+v %v", num, p, n, q, ok)
		}
		at, b := r.Intn(len(s)), string([]byte{byte(r.Intn(256))})
		for _, near := range []string{s[:at] + b + s[at:], s[:at] + b + s[at+1:], s[:at] + s[at+1:], s[:at], s[at:], s + s, s + s[:at], s[at:] + s[:at]} {
			superAsByHand(t, "near", near)
		}
	}
	if said[true] < 300 || said[false] < 100 {
		t.Errorf("too few of one kind: %v", said)
	}
}

func FuzzReadSuper(f *testing.F) {
	for text := range rightTexts() {
		f.Add(framed("0\n" + text))
	}
	f.Fuzz(func(t *testing.T, s string) {
		superAsByHand(t, "as it is", s)
		superAsByHand(t, "with right edges", framed(s))
		superAsByHand(t, "with a num", framed("7\n"+s))
		superAsByHand(t, "with a pool", framed(strings.TrimSuffix(s, "\n")+"\npool 60 1\n"))
	})
}
