package tests

import (
	"fmt"
	"math"
	"math/rand"
	"slices"
	"strings"
	"testing"

	"loop.example/g00336/impl"
)

func ex(addr int64, data string) impl.Extent { return impl.Extent{Addr: addr, Data: data} }

// ones are n extents of one byte each, with step from one Addr to the next.
func ones(n int, step int64) []impl.Extent {
	var l []impl.Extent
	for i := range n {
		l = append(l, ex(1+int64(i)*step, "x"))
	}
	return l
}

type space struct {
	name string
	size int64
	l    []impl.Extent
}

func rightSpaces() []space {
	twenty := strings.Repeat("d", impl.MaxData)
	return []space{
		{"least size", 1, nil},
		{"least size, empty list", 1, []impl.Extent{}},
		{"greatest size", impl.MaxSize, nil},
		{"least size, full", 1, []impl.Extent{ex(1, "x")}},
		{"greatest data", 20, []impl.Extent{ex(1, twenty)}},
		{"greatest data at the end", impl.MaxSize, []impl.Extent{ex(381, twenty)}},
		{"one byte at the end", impl.MaxSize, []impl.Extent{ex(400, "x")}},
		{"bytes 32 and 126", 9, []impl.Extent{ex(1, " ~"), ex(4, " "), ex(5, "~")}},
		{"side by side", 6, []impl.Extent{ex(1, "ab"), ex(3, "cd"), ex(5, "ef")}},
		{"greatest count", impl.MaxSize, ones(impl.MaxExtents, 1)},
		{"greatest count, spread", impl.MaxSize, ones(impl.MaxExtents, 6)},
	}
}

func wrongSpaces() []space {
	l := []space{
		{"size 0", 0, nil},
		{"size below 0", -1, nil},
		{"size past MaxSize", impl.MaxSize + 1, nil},
		{"least int64", math.MinInt64, nil},
		{"greatest int64", math.MaxInt64, nil},
		{"greatest int64 with extents", math.MaxInt64, []impl.Extent{ex(1, "x")}},
		{"count past MaxExtents", impl.MaxSize, ones(impl.MaxExtents+1, 1)},
		{"empty data", 9, []impl.Extent{ex(1, "")}},
		{"empty data behind one", 9, []impl.Extent{ex(1, "x"), ex(2, "")}},
		{"data past MaxData", impl.MaxSize, []impl.Extent{ex(1, strings.Repeat("d", impl.MaxData+1))}},
		{"behind the end by one", 9, []impl.Extent{ex(9, "xy")}},
		{"wholly behind the end", 9, []impl.Extent{ex(10, "x")}},
		{"greatest data behind the end by one", impl.MaxSize, []impl.Extent{ex(382, strings.Repeat("d", impl.MaxData))}},
		{"data greater than size", 2, []impl.Extent{ex(1, "abc")}},
		{"data greater than size, ahead of 1", 2, []impl.Extent{ex(0, "abc")}},
		{"one byte shared", 9, []impl.Extent{ex(1, "abc"), ex(3, "d")}},
		{"same Addr", 9, []impl.Extent{ex(2, "a"), ex(2, "b")}},
		{"not in order", 9, []impl.Extent{ex(4, "a"), ex(2, "b")}},
		{"one inside another", 9, []impl.Extent{ex(1, "abcdef"), ex(3, "d")}},
	}
	for _, bad := range []string{"\x1f", "\x7f", "\x00", "\n", "\x80", "\xff", "é"} {
		for _, d := range []string{bad, bad + "x", "x" + bad, "x" + bad + "x"} {
			l = append(l, space{fmt.Sprintf("data %q", d), 30, []impl.Extent{ex(1, "a"), ex(5, d)}})
		}
	}
	for _, addr := range []int64{math.MinInt64, math.MinInt64 + 1, -1, 0, 401, math.MaxInt64 - 19, math.MaxInt64 - 1, math.MaxInt64} {
		for _, d := range []string{"x", strings.Repeat("d", impl.MaxData)} {
			l = append(l, space{fmt.Sprint("Addr ", addr, " with ", len(d), " bytes"), impl.MaxSize, []impl.Extent{ex(addr, d)}})
			l = append(l, space{fmt.Sprint("second Addr ", addr, " with ", len(d), " bytes"), impl.MaxSize, []impl.Extent{ex(1, "a"), ex(addr, d)}})
		}
	}
	return l
}

func TestSpaceOk(t *testing.T) {
	for _, s := range rightSpaces() {
		if !impl.SpaceOk(s.size, s.l) {
			t.Errorf("%s: refused", s.name)
		}
	}
	for _, s := range wrongSpaces() {
		if impl.SpaceOk(s.size, s.l) {
			t.Errorf("%s: accepted", s.name)
		}
	}
}

func TestWrongSpacesHaveOneAnswer(t *testing.T) {
	for _, s := range wrongSpaces() {
		if n := impl.RoomOf(s.size, s.l); n != -1 {
			t.Errorf("%s: room %d", s.name, n)
		}
		if g := impl.GapsOf(s.size, s.l); len(g) != 0 {
			t.Errorf("%s: gaps %v", s.name, g)
		}
		if l, a, ok := impl.Placed(s.size, s.l, "x"); ok || a != 0 || len(l) != 0 {
			t.Errorf("%s: placed %v %d %v", s.name, l, a, ok)
		}
		for _, addr := range append([]int64{5}, odd...) {
			if l, ok := impl.Lifted(s.size, s.l, addr); ok || len(l) != 0 {
				t.Errorf("%s: lifted %d: %v %v", s.name, addr, l, ok)
			}
		}
	}
}

func TestRoomAndGaps(t *testing.T) {
	for _, c := range []struct {
		space
		gaps []int64
	}{
		{space{"least", 1, nil}, []int64{1}},
		{space{"least, full", 1, []impl.Extent{ex(1, "x")}}, nil},
		{space{"greatest", impl.MaxSize, nil}, []int64{400}},
		{space{"full", 6, []impl.Extent{ex(1, "abc"), ex(4, "def")}}, nil},
		{space{"at both ends", 10, []impl.Extent{ex(3, "ab")}}, []int64{2, 6}},
		{space{"between alone", 10, []impl.Extent{ex(1, "ab"), ex(8, "abc")}}, []int64{5}},
		{space{"of one byte", 7, []impl.Extent{ex(2, "a"), ex(4, "b"), ex(6, "c")}}, []int64{1, 1, 1, 1}},
		{space{"none between", 10, []impl.Extent{ex(2, "ab"), ex(4, "cd")}}, []int64{1, 5}},
	} {
		room := int64(0)
		for _, n := range c.gaps {
			room += n
		}
		if g := impl.GapsOf(c.size, c.l); !slices.Equal(g, c.gaps) {
			t.Errorf("%s: gaps %v, want %v", c.name, g, c.gaps)
		}
		if n := impl.RoomOf(c.size, c.l); n != room {
			t.Errorf("%s: room %d, want %d", c.name, n, room)
		}
	}
}

func TestPlacedTakesTheFirstGapWithRoom(t *testing.T) {
	l := []impl.Extent{ex(3, "ab"), ex(8, "cd"), ex(15, "ef")} // gaps: 1-2, 5-7, 10-14, 17-20
	for _, c := range []struct {
		data string
		addr int64
		at   int
	}{{"x", 1, 0}, {"xy", 1, 0}, {"xyz", 5, 1}, {"1234", 10, 2}, {"12345", 10, 2}} {
		want := slices.Insert(slices.Clone(l), c.at, ex(c.addr, c.data))
		got, a, ok := impl.Placed(20, l, c.data)
		if !ok || a != c.addr || !slices.Equal(got, want) {
			t.Errorf("%q: %v %d %v, want %v", c.data, got, a, ok, want)
		}
	}
	if got, a, ok := impl.Placed(20, l, "123456"); ok || a != 0 || len(got) != 0 {
		t.Errorf("no gap has 6 bytes: %v %d %v", got, a, ok)
	}
	if got, a, ok := impl.Placed(22, l, "123456"); !ok || a != 17 || len(got) != 4 || got[3] != ex(17, "123456") {
		t.Errorf("the last gap has just 6 bytes: %v %d %v", got, a, ok)
	}
}

func TestPlacedEdges(t *testing.T) {
	twenty := strings.Repeat("d", impl.MaxData)
	if l, a, ok := impl.Placed(20, nil, twenty); !ok || a != 1 || len(l) != 1 || l[0] != ex(1, twenty) {
		t.Error("MaxData into as much room:", l, a, ok)
	}
	if l, a, ok := impl.Placed(impl.MaxSize, ones(impl.MaxExtents-1, 1), "x"); !ok || a != 60 || len(l) != 60 {
		t.Error("the last extent that may be:", l, a, ok)
	}
	if l, a, ok := impl.Placed(20, nil, " ~"); !ok || a != 1 || len(l) != 1 {
		t.Error("bytes 32 and 126:", l, a, ok)
	}
	for _, c := range []struct {
		space
		data string
	}{
		{space{"room less by one", 19, nil}, twenty},
		{space{"MaxExtents", impl.MaxSize, ones(impl.MaxExtents, 6)}, "x"},
		{space{"full", 3, []impl.Extent{ex(1, "abc")}}, "x"},
		{space{"empty data", 20, nil}, ""},
		{space{"data past MaxData", impl.MaxSize, nil}, twenty + "d"},
		{space{"byte 31", 20, nil}, "x\x1f"},
		{space{"byte 127", 20, nil}, "\x7fx"},
		{space{"byte 255", 20, nil}, "\xff"},
		{space{"byte 0", 20, nil}, "\x00"},
	} {
		if l, a, ok := impl.Placed(c.size, c.l, c.data); ok || a != 0 || len(l) != 0 {
			t.Errorf("%s: %v %d %v", c.name, l, a, ok)
		}
	}
}

func TestLifted(t *testing.T) {
	l := []impl.Extent{ex(1, "ab"), ex(3, "c"), ex(9, "de")}
	for i, e := range l {
		want := slices.Delete(slices.Clone(l), i, i+1)
		if got, ok := impl.Lifted(10, l, e.Addr); !ok || !slices.Equal(got, want) {
			t.Errorf("%d: %v %v, want %v", e.Addr, got, ok, want)
		}
	}
	for _, addr := range append([]int64{4, 8, 10}, odd...) {
		if addr == 1 || addr == 3 {
			continue
		}
		if got, ok := impl.Lifted(10, l, addr); ok || len(got) != 0 {
			t.Errorf("%d: %v %v", addr, got, ok)
		}
	}
	if got, ok := impl.Lifted(1, []impl.Extent{ex(1, "x")}, 1); !ok || len(got) != 0 {
		t.Error("the only one:", got, ok)
	}
	if got, ok := impl.Lifted(10, nil, 1); ok || len(got) != 0 {
		t.Error("of none:", got, ok)
	}
}

// bytesOf tells of each byte of a right space the place of the extent that has it, -1 if none has.
func bytesOf(size int64, l []impl.Extent) []int {
	b := slices.Repeat([]int{-1}, int(size)+1)
	for i, e := range l {
		for k := range e.Data {
			b[int(e.Addr)+k] = i
		}
	}
	return b[1:]
}

func gapsByBytes(size int64, l []impl.Extent) (starts []int64, sizes []int64) {
	for i, b := range append([]int{0}, bytesOf(size, l)...) {
		if b >= 0 {
			starts, sizes = append(starts, 0), append(sizes, 0)
			continue
		}
		last := len(sizes) - 1
		if sizes[last] == 0 {
			starts[last] = int64(i)
		}
		sizes[last]++
	}
	none := func(n int64) bool { return n == 0 }
	return slices.DeleteFunc(starts, none), slices.DeleteFunc(sizes, none)
}

// Promise 1, told byte by byte over long runs of placing and lifting.
func TestPlacingAndLiftingRuns(t *testing.T) {
	r := rand.New(rand.NewSource(1))
	for _, size := range []int64{1, 2, 7, 20, 21, 60, 150, 399, 400} {
		var l []impl.Extent
		for range 600 {
			starts, sizes := gapsByBytes(size, l)
			room := int64(0)
			for _, n := range sizes {
				room += n
			}
			if !impl.SpaceOk(size, l) || impl.RoomOf(size, l) != room || !slices.Equal(impl.GapsOf(size, l), sizes) {
				t.Fatalf("size %d of %v: room %d, gaps %v, want %d, %v", size, l, impl.RoomOf(size, l), impl.GapsOf(size, l), room, sizes)
			}
			if r.Intn(3) == 0 && len(l) > 0 {
				l = liftOne(t, size, l, r.Intn(len(l)))
			} else {
				data := strings.Repeat(string(rune(32+r.Intn(95))), 1+r.Intn(impl.MaxData))
				l = placeOne(t, size, l, data, starts, sizes)
			}
		}
	}
}

func liftOne(t *testing.T, size int64, l []impl.Extent, at int) []impl.Extent {
	t.Helper()
	got, ok := impl.Lifted(size, l, l[at].Addr)
	if !ok || !slices.Equal(got, slices.Delete(slices.Clone(l), at, at+1)) {
		t.Fatalf("size %d of %v: lifting %d: %v %v", size, l, l[at].Addr, got, ok)
	}
	return got
}

func placeOne(t *testing.T, size int64, l []impl.Extent, data string, starts []int64, sizes []int64) []impl.Extent {
	t.Helper()
	got, a, ok := impl.Placed(size, l, data)
	at := slices.IndexFunc(sizes, func(n int64) bool { return n >= int64(len(data)) })
	if at < 0 || len(l) == impl.MaxExtents {
		if ok || a != 0 || len(got) != 0 {
			t.Fatalf("size %d of %v: no room for %q: %v %d %v", size, l, data, got, a, ok)
		}
		return l
	}
	want := append(slices.Clone(l), ex(starts[at], data))
	slices.SortFunc(want, func(x, y impl.Extent) int { return int(x.Addr - y.Addr) })
	if !ok || a != starts[at] || !slices.Equal(got, want) {
		t.Fatalf("size %d of %v: placing %q: %v %d %v, want %v", size, l, data, got, a, ok, want)
	}
	return got
}

// rightByBytes goes from byte to byte and so has no sum that could wrap.
func rightByBytes(size int64, l []impl.Extent) bool {
	if size < 1 || size > 400 || len(l) > 60 {
		return false
	}
	last := int64(0)
	for _, e := range l {
		if len(e.Data) < 1 || len(e.Data) > 20 || e.Addr < 1 || e.Addr > 400 {
			return false
		}
		for k := range len(e.Data) {
			at := e.Addr + int64(k)
			if e.Data[k] < 32 || e.Data[k] > 126 || at <= last || at > size {
				return false
			}
			last = at
		}
	}
	return true
}

func TestSpaceOkOfOddOnes(t *testing.T) {
	r := rand.New(rand.NewSource(2))
	data := []string{"", "a", "ab", " ~", "abcdefghijklmnopqrst", "abcdefghijklmnopqrstu", "a\x1f", "\x7f"}
	seen := [2]int{}
	for range 40000 {
		size := odd[r.Intn(len(odd))]
		if r.Intn(4) > 0 {
			size = 1 + r.Int63n(impl.MaxSize)
		}
		l := make([]impl.Extent, r.Intn(4))
		for i := range l {
			l[i] = ex(odd[r.Intn(len(odd))], data[1+r.Intn(4)])
			if r.Intn(12) == 0 {
				l[i].Data = data[r.Intn(len(data))]
			}
			if r.Intn(3) > 0 {
				l[i].Addr = 1 + r.Int63n(50) + 40*int64(i)
			}
		}
		want := rightByBytes(size, l)
		if got := impl.SpaceOk(size, l); got != want {
			t.Fatalf("size %d of %v: %v, want %v", size, l, got, want)
		}
		if (impl.RoomOf(size, l) >= 0) != want {
			t.Fatalf("size %d of %v: room %d", size, l, impl.RoomOf(size, l))
		}
		if want {
			seen[1]++
		} else {
			seen[0]++
		}
	}
	if seen[0] < 1000 || seen[1] < 1000 {
		t.Errorf("too few of one kind: %v", seen)
	}
}

func TestSpaceKeepsItsArguments(t *testing.T) {
	for _, base := range [][]impl.Extent{nil, {ex(3, "ab")}, {ex(1, "ab"), ex(5, "cd"), ex(9, "ef")}, ones(30, 2)} {
		for _, data := range []string{"x", "123", "", strings.Repeat("y", 20)} {
			w := watch(base, extentRoom)
			got, _, _ := impl.Placed(100, w.list, data)
			apart(t, "Placed", got, extentMark, w)
		}
		for addr := range int64(12) {
			w := watch(base, extentRoom)
			got, _ := impl.Lifted(100, w.list, addr)
			apart(t, "Lifted", got, extentMark, w)
		}
		w := watch(base, extentRoom)
		impl.SpaceOk(100, w.list)
		impl.RoomOf(100, w.list)
		g := impl.GapsOf(100, w.list)
		w.check(t, "SpaceOk, RoomOf, GapsOf")
		again := impl.GapsOf(100, w.list)
		fill(g[:cap(g)], -5)
		if slices.Contains(again, -5) || !slices.Equal(again, impl.GapsOf(100, w.list)) {
			t.Error("two answers of GapsOf share memory")
		}
	}
}
