package tests

import (
	"fmt"
	"math"
	"math/rand"
	"slices"
	"testing"

	"loop.example/g00336/impl"
)

func ow(addr int64, vol int64, file string) impl.Owner {
	return impl.Owner{Addr: addr, Vol: vol, File: file}
}

func ct(addr int64, vol int64, file string, n int64) impl.Counted {
	return impl.Counted{Owner: ow(addr, vol, file), N: n}
}

var (
	countMark = ct(77, 7, "mark", 7)
	countRoom = ct(88, 8, "room", 8)
)

// rising are k counts of n each, by rising Owner.
func rising(k int, n int64) []impl.Counted {
	var l []impl.Counted
	for i := range int64(k) {
		l = append(l, ct(1+i/9, 1+i%9/3, string(rune('a'+i%3)), n))
	}
	return l
}

// same are k counts of n each, all of one Owner.
func same(k int, n int64) []impl.Counted {
	return slices.Repeat([]impl.Counted{ct(3, 3, "c", n)}, k)
}

type counts struct {
	name string
	l    []impl.Counted
}

// rightEachWay are right as Refs and as Late.
func rightEachWay() []counts {
	return []counts{
		{"nil", nil},
		{"empty", []impl.Counted{}},
		{"one", []impl.Counted{ct(1, 1, "a", 1)}},
		{"MaxCount", []impl.Counted{ct(1, 1, "a", impl.MaxCount)}},
		{"MaxSize", []impl.Counted{ct(impl.MaxSize, 1, "a", 1)}},
		{"MaxId", []impl.Counted{ct(1, impl.MaxId, "a", 1)}},
		{"z", []impl.Counted{ct(1, 1, "z", 1)}},
		{"MaxName letters", []impl.Counted{ct(1, 1, "abcdwxyz", 1)}},
		{"by Addr alone", []impl.Counted{ct(1, 9, "z", 1), ct(2, 8, "y", 1)}},
		{"by Vol alone", []impl.Counted{ct(5, 1, "z", 1), ct(5, 2, "a", 1)}},
		{"by File alone", []impl.Counted{ct(5, 5, "a", 9), ct(5, 5, "b", 1)}},
		{"the beginning ahead", []impl.Counted{ct(5, 5, "a", 1), ct(5, 5, "aa", 1), ct(5, 5, "ab", 1), ct(5, 5, "b", 1)}},
		{"numbers, not texts", []impl.Counted{ct(9, 9, "a", 1), ct(9, 10, "a", 1), ct(10, 9, "a", 1), ct(100, 1, "a", 1)}},
		{"most", rising(200, 1)},
		{"most, greatest", rising(200, impl.MaxCount)},
	}
}

// wrongEachWay are wrong as Refs and as Late.
func wrongEachWay() []counts {
	l := []counts{
		{"one too many", rising(201, 1)},
		{"far too many", slices.Repeat(rising(200, 1), 50)},
	}
	for _, n := range []int64{0, impl.MaxCount + 1, -impl.MaxCount - 1, math.MinInt64, math.MinInt64 + 1, math.MaxInt64 - 1, math.MaxInt64} {
		l = append(l, counts{fmt.Sprint("N ", n), []impl.Counted{ct(1, 1, "a", n)}})
	}
	for _, n := range []int64{math.MinInt64, -400, -1, 0, 401, math.MaxInt64} {
		l = append(l, counts{fmt.Sprint("Addr ", n), []impl.Counted{ct(n, 1, "a", 1)}})
	}
	for _, n := range []int64{math.MinInt64, -impl.MaxId, -1, 0, impl.MaxId + 1, math.MaxInt64} {
		l = append(l, counts{fmt.Sprint("Vol ", n), []impl.Counted{ct(1, n, "a", 1)}})
	}
	for _, s := range wrongNames() {
		l = append(l, counts{fmt.Sprintf("File %q", s), []impl.Counted{ct(1, 1, s, 1)}})
	}
	for i := range l {
		// The same thing wrong in the last one of many.
		if len(l[i].l) == 1 {
			l = append(l, counts{l[i].name + ", the last", append(rising(199, 1), l[i].l[0])})
		}
	}
	return l
}

// wrongRefs are right as Late.
func wrongRefs() []counts {
	return []counts{
		{"one Owner twice", []impl.Counted{ct(1, 1, "a", 1), ct(1, 1, "a", 1)}},
		{"Addr falls", []impl.Counted{ct(2, 1, "a", 1), ct(1, 2, "b", 1)}},
		{"Vol falls", []impl.Counted{ct(1, 2, "a", 1), ct(1, 1, "b", 1)}},
		{"File falls", []impl.Counted{ct(1, 1, "b", 1), ct(1, 1, "a", 1)}},
		{"the beginning behind", []impl.Counted{ct(1, 1, "ab", 1), ct(1, 1, "a", 1)}},
		{"the last falls", append(rising(199, 1), ct(1, 1, "a", 1))},
		{"the last twice", append(rising(199, 1), rising(199, 1)[198])},
		{"-1", []impl.Counted{ct(1, 1, "a", -1)}},
		{"-MaxCount", []impl.Counted{ct(1, 1, "a", -impl.MaxCount)}},
		{"-1, the last", append(rising(199, 1), ct(400, 1, "a", -1))},
		{"many of one", same(200, 1000)},
	}
}

func TestRefsOkAndLateOk(t *testing.T) {
	for _, c := range rightEachWay() {
		if !impl.RefsOk(c.l) || !impl.LateOk(c.l) {
			t.Errorf("%s: refs %v, late %v", c.name, impl.RefsOk(c.l), impl.LateOk(c.l))
		}
	}
	for _, c := range wrongEachWay() {
		if impl.RefsOk(c.l) || impl.LateOk(c.l) {
			t.Errorf("%s: refs %v, late %v", c.name, impl.RefsOk(c.l), impl.LateOk(c.l))
		}
	}
	for _, c := range wrongRefs() {
		if impl.RefsOk(c.l) || !impl.LateOk(c.l) {
			t.Errorf("%s: refs %v, late %v", c.name, impl.RefsOk(c.l), impl.LateOk(c.l))
		}
	}
}

// OwnerAhead has an answer of any two, also of such as are not right.
func TestOwnerAhead(t *testing.T) {
	var l []impl.Owner
	for _, addr := range []int64{math.MinInt64, -1, 0, 1, 9, 10, 400, math.MaxInt64} {
		for _, vol := range []int64{math.MinInt64, -1, 0, 1, 9, 10, math.MaxInt64} {
			for _, file := range []string{"", "\x00", "A", "a", "a\x00", "aa", "ab", "b", "z", "z\xff", "\x80", "é", "\xff"} {
				l = append(l, ow(addr, vol, file))
			}
		}
	}
	for i, a := range l {
		for k, b := range l {
			if got := impl.OwnerAhead(a, b); got != (i < k) {
				t.Fatalf("%v ahead of %v: %v", a, b, got)
			}
		}
	}
}

func TestMerged(t *testing.T) {
	for _, c := range []struct {
		name    string
		l, want []impl.Counted
	}{
		{"none", nil, nil},
		{"empty", []impl.Counted{}, nil},
		{"one", []impl.Counted{ct(1, 1, "a", 4)}, []impl.Counted{ct(1, 1, "a", 4)}},
		{"one below 0", []impl.Counted{ct(1, 1, "a", -4)}, []impl.Counted{ct(1, 1, "a", -4)}},
		{"to nought", []impl.Counted{ct(1, 1, "a", 4), ct(1, 1, "a", -4)}, nil},
		{"to nought by many", append(same(199, 5), ct(3, 3, "c", -995)), nil},
		{"through nought", []impl.Counted{ct(1, 1, "a", 4), ct(1, 1, "a", -4), ct(1, 1, "a", -4)}, []impl.Counted{ct(1, 1, "a", -4)}},
		{"through nought and up", []impl.Counted{ct(1, 1, "a", -1), ct(1, 1, "a", 1), ct(1, 1, "a", 1)}, []impl.Counted{ct(1, 1, "a", 1)}},
		{"one of two to nought", []impl.Counted{ct(2, 1, "a", 4), ct(1, 1, "a", 1), ct(2, 1, "a", -4)}, []impl.Counted{ct(1, 1, "a", 1)}},
		{"to MaxCount", []impl.Counted{ct(1, 1, "a", 999), ct(1, 1, "a", 1)}, []impl.Counted{ct(1, 1, "a", 1000)}},
		{"to one more", []impl.Counted{ct(1, 1, "a", 1000), ct(1, 1, "a", 1)}, []impl.Counted{ct(1, 1, "a", 1001)}},
		{"to one less than -MaxCount", []impl.Counted{ct(1, 1, "a", -1000), ct(1, 1, "a", -1)}, []impl.Counted{ct(1, 1, "a", -1001)}},
		{"as great as may be", same(200, 1000), same(1, 200000)},
		{"as little as may be", same(200, -1000), same(1, -200000)},
		{"Addr apart", []impl.Counted{ct(2, 1, "a", 1), ct(1, 1, "a", 1)}, []impl.Counted{ct(1, 1, "a", 1), ct(2, 1, "a", 1)}},
		{"Vol apart", []impl.Counted{ct(1, 2, "a", 1), ct(1, 1, "a", 1)}, []impl.Counted{ct(1, 1, "a", 1), ct(1, 2, "a", 1)}},
		{"File apart", []impl.Counted{ct(1, 1, "ab", 1), ct(1, 1, "b", 1), ct(1, 1, "a", 1)}, []impl.Counted{ct(1, 1, "a", 1), ct(1, 1, "ab", 1), ct(1, 1, "b", 1)}},
		{"most", rising(200, 3), rising(200, 3)},
	} {
		if got := impl.Merged(c.l); !slices.Equal(got, c.want) {
			t.Errorf("%s: %v, want %v", c.name, got, c.want)
		}
	}
	for _, c := range wrongEachWay() {
		if got := impl.Merged(c.l); len(got) != 0 {
			t.Errorf("%s: %v", c.name, got)
		}
	}
}

func TestFlushed(t *testing.T) {
	most := rising(200, 1)
	for _, c := range []struct {
		name             string
		refs, late, want []impl.Counted
	}{
		{"none", nil, nil, nil},
		{"empty", []impl.Counted{}, []impl.Counted{}, nil},
		{"refs alone", rising(3, 2), nil, rising(3, 2)},
		{"late alone", nil, rising(3, 2), rising(3, 2)},
		{"both", rising(3, 2), rising(4, 5), append(rising(3, 7), rising(4, 5)[3])},
		{"to nought", rising(3, 2), rising(3, -2), nil},
		{"to nought, late alone", nil, []impl.Counted{ct(1, 1, "a", -3), ct(1, 1, "a", 3)}, nil},
		{"the first to nought", rising(3, 2), rising(1, -2), rising(3, 2)[1:]},
		{"to 1", rising(1, 1000), rising(1, -999), rising(1, 1)},
		{"to MaxCount", rising(1, 999), rising(1, 1), rising(1, 1000)},
		{"to MaxCount from 1", rising(1, 1), rising(1, 999), rising(1, 1000)},
		{"over MaxCount and back", rising(1, 1000), append(rising(1, 1000), rising(1, -1000)...), rising(1, 1000)},
		{"below 0 and back", rising(1, 1), append(rising(1, -1000), rising(1, 1000)...), rising(1, 1)},
		{"to MaxRefs", rising(199, 1), most[199:], most},
		{"to MaxRefs, each of them late, too", most, most, rising(200, 2)},
		{"over MaxRefs and back", most, []impl.Counted{ct(400, 1, "a", 1), ct(1, 1, "a", -1)}, append(most[1:], ct(400, 1, "a", 1))},
		{"half of them gone", most, withN(most[:100], -1), most[100:]},
	} {
		if got, ok := impl.Flushed(c.refs, c.late); !ok || !slices.Equal(got, c.want) {
			t.Errorf("%s: %v %v, want %v", c.name, got, ok, c.want)
		}
	}
}

// withN are the Owners of l with another N.
func withN(l []impl.Counted, n int64) []impl.Counted {
	l = slices.Clone(l)
	for i := range l {
		l[i].N = n
	}
	return l
}

func TestFlushedRefuses(t *testing.T) {
	for _, c := range []struct {
		name       string
		refs, late []impl.Counted
	}{
		{"to -1", rising(1, 1), rising(1, -2)},
		{"to -1, late alone", nil, rising(1, -1)},
		{"to -1, the last of many", rising(200, 1), []impl.Counted{ct(23, 1, "b", -2)}},
		{"to one more than MaxCount", rising(1, 1000), rising(1, 1)},
		{"to one more than MaxCount, late alone", nil, append(rising(1, 1000), rising(1, 1)...)},
		{"as great as may be", rising(1, 1000), slices.Repeat(rising(1, 1000), 200)},
		{"as little as may be", nil, slices.Repeat(rising(1, -1000), 200)},
		{"to one more than MaxRefs", rising(200, 1), []impl.Counted{ct(400, 1, "a", 1)}},
		{"to twice MaxRefs", rising(200, 1), withVol(rising(200, 1), 9)},
		{"another Vol to -1", rising(1, 1), []impl.Counted{ct(1, 2, "a", -1)}},
		{"another File to -1", rising(1, 1), []impl.Counted{ct(1, 1, "b", -1)}},
		{"another Addr to -1", rising(1, 1), []impl.Counted{ct(2, 1, "a", -1)}},
	} {
		if got, ok := impl.Flushed(c.refs, c.late); ok || len(got) != 0 {
			t.Errorf("%s: %v %v", c.name, got, ok)
		}
	}
	for _, c := range append(wrongEachWay(), wrongRefs()...) {
		if got, ok := impl.Flushed(c.l, nil); ok || len(got) != 0 {
			t.Errorf("refs, %s: %v %v", c.name, got, ok)
		}
	}
	for _, c := range wrongEachWay() {
		if got, ok := impl.Flushed(nil, c.l); ok || len(got) != 0 {
			t.Errorf("late, %s: %v %v", c.name, got, ok)
		}
		if got, ok := impl.Flushed(rising(3, 1), c.l); ok || len(got) != 0 {
			t.Errorf("late behind refs, %s: %v %v", c.name, got, ok)
		}
	}
}

func withVol(l []impl.Counted, vol int64) []impl.Counted {
	l = slices.Clone(l)
	for i := range l {
		l[i].Owner.Vol = vol
	}
	return l
}

// summed tells what is counted in all, by looking through the whole list for each Owner that may be in it.
func summed(l []impl.Counted) []impl.Counted {
	var all []impl.Counted
	for i, c := range l {
		n := int64(0)
		first := true
		for k, d := range l {
			if d.Owner == c.Owner {
				n += d.N
				first = first && k >= i
			}
		}
		if first && n != 0 {
			all = append(all, impl.Counted{Owner: c.Owner, N: n})
		}
	}
	return sorted(all)
}

func sorted(l []impl.Counted) []impl.Counted {
	l = slices.Clone(l)
	slices.SortFunc(l, func(a, b impl.Counted) int {
		x, y := a.Owner, b.Owner
		if x.Addr < y.Addr || x.Addr == y.Addr && (x.Vol < y.Vol || x.Vol == y.Vol && x.File < y.File) {
			return -1
		}
		return 1
	})
	return l
}

func shuffled(r *rand.Rand, l []impl.Counted) []impl.Counted {
	l = slices.Clone(l)
	r.Shuffle(len(l), func(i, k int) { l[i], l[k] = l[k], l[i] })
	return l
}

func makeLate(r *rand.Rand, most int, few int64) []impl.Counted {
	var l []impl.Counted
	for range r.Intn(most + 1) {
		n := 1 + r.Int63n([]int64{2, 5, 1000}[r.Intn(3)])
		if r.Intn(2) == 0 {
			n = -n
		}
		l = append(l, ct(1+r.Int63n(few), 1+r.Int63n(few), []string{"a", "b", "ab", "ba"}[r.Intn(4)], n))
	}
	return l
}

// Promise 3: against sums told one by one, and in another order each time.
func TestCountsInAnyOrder(t *testing.T) {
	r := rand.New(rand.NewSource(5))
	said := map[bool]int{}
	for range 6000 {
		few := 1 + r.Int63n(4)
		late := makeLate(r, []int{3, 20, 200}[r.Intn(3)], few)
		want := summed(late)
		for _, l := range [][]impl.Counted{late, shuffled(r, late), sorted(late)} {
			if got := impl.Merged(l); !slices.Equal(got, want) {
				t.Fatalf("merged %v: %v, want %v", l, got, want)
			}
		}
		refs := makeRefs(r, late, few)
		want = summed(slices.Concat(refs, late))
		right := !slices.ContainsFunc(want, func(c impl.Counted) bool { return c.N < 1 || c.N > 1000 })
		if !right {
			want = nil
		}
		for _, l := range [][]impl.Counted{late, shuffled(r, late), sorted(late)} {
			if got, ok := impl.Flushed(refs, l); ok != right || !slices.Equal(got, want) {
				t.Fatalf("flushed %v and %v: %v %v, want %v %v", refs, l, got, ok, want, right)
			}
		}
		said[right]++
	}
	if said[true] < 1000 || said[false] < 1000 {
		t.Errorf("too few of one kind: %v", said)
	}
}

// makeRefs tells right Refs, mostly such as late leaves at 0 or above.
func makeRefs(r *rand.Rand, late []impl.Counted, few int64) []impl.Counted {
	var l []impl.Counted
	for _, c := range summed(append(makeLate(r, 12, few), late...)) {
		if n := max(c.N, -c.N); r.Intn(30) > 0 && n <= 1000 {
			l = append(l, impl.Counted{Owner: c.Owner, N: min(n+r.Int63n(2)*r.Int63n(3), 1000)})
		}
	}
	if r.Intn(2) == 0 {
		for _, c := range summed(late) {
			if c.N < 0 && c.N >= -1000 && !slices.ContainsFunc(l, func(d impl.Counted) bool { return d.Owner == c.Owner }) {
				l = append(l, impl.Counted{Owner: c.Owner, N: -c.N})
			}
		}
	}
	return sorted(l)
}

// What is late may be merged ahead of being flushed, or flushed bit by bit, as long as each bit leaves right counts.
func TestFlushedBitByBit(t *testing.T) {
	r := rand.New(rand.NewSource(6))
	told := 0
	for range 3000 {
		refs := rising(1+r.Intn(30), 1+r.Int63n(900))
		var late []impl.Counted
		for range r.Intn(40) {
			c := refs[r.Intn(len(refs))]
			late = append(late, impl.Counted{Owner: c.Owner, N: []int64{-30, -2, 1, 20}[r.Intn(4)]})
		}
		whole, ok := impl.Flushed(refs, late)
		if m := impl.Merged(late); impl.LateOk(m) {
			if got, also := impl.Flushed(refs, m); also != ok || !slices.Equal(got, whole) {
				t.Fatalf("%v and %v: %v %v, merged first %v %v", refs, late, whole, ok, got, also)
			}
		}
		at := r.Intn(len(late) + 1)
		half, one := impl.Flushed(refs, late[:at])
		got, two := impl.Flushed(half, late[at:])
		if one && (two != ok || !slices.Equal(got, whole)) {
			t.Fatalf("%v and %v: %v %v, in two bits %v %v", refs, late, whole, ok, got, two)
		}
		if one && two {
			told++
		}
	}
	if told < 500 {
		t.Errorf("only %d were told", told)
	}
}

func TestCountsKeepTheirArguments(t *testing.T) {
	all := slices.Concat(rightEachWay(), wrongEachWay(), wrongRefs())
	for _, c := range all {
		a := watch(c.l, countRoom)
		impl.RefsOk(a.list)
		impl.LateOk(a.list)
		a.check(t, "RefsOk, LateOk, "+c.name)
		apart(t, "Merged, "+c.name, impl.Merged(a.list), countMark, a)
		for _, d := range append(rightEachWay(), wrongRefs()...) {
			refs, late := watch(c.l, countRoom), watch(d.l, countRoom)
			got, _ := impl.Flushed(refs.list, late.list)
			apart(t, "Flushed, "+c.name+", "+d.name, got, countMark, refs, late)
		}
	}
}

func TestSameCountsSameAnswers(t *testing.T) {
	r := rand.New(rand.NewSource(7))
	late := shuffled(r, rising(200, 2))
	for range 50 {
		first := impl.Merged(late)
		second, ok := impl.Flushed(rising(200, 1), late)
		if !ok || !slices.Equal(first, rising(200, 2)) || !slices.Equal(second, rising(200, 3)) {
			t.Fatal(first, second, ok)
		}
		fill(first, countMark)
		fill(second, countMark)
	}
}
