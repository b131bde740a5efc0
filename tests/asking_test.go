package tests

import (
	"fmt"
	"math"
	"math/rand"
	"reflect"
	"slices"
	"strings"
	"testing"

	"loop.example/g00336/impl"
)

// textOfParts is what parts of a right pool make up, byte by byte.
func textOfParts(p impl.Pool, l []impl.Part) string {
	var b strings.Builder
	for _, o := range spread(l) {
		if o.addr == 0 {
			b.WriteByte(0)
		} else {
			b.WriteByte(dataOf(p.Extents, o.addr)[o.at])
		}
	}
	return b.String()
}

// readAll is all bytes of a file, as ReadAt and SizeOf tell them; "none" where there is none.
func readAll(t *testing.T, p impl.Pool, vol string, file string) string {
	t.Helper()
	n, ok := impl.SizeOf(p, vol, file)
	s, also := impl.ReadAt(p, vol, file, 0, n)
	if ok != also || int64(len(s)) != n {
		t.Fatalf("%s/%s: size %d %v, read %q %v", vol, file, n, ok, s, also)
	}
	if !ok {
		return "none"
	}
	return s
}

func readRefused(t *testing.T, what string, p impl.Pool, vol string, file string, from int64, to int64) {
	t.Helper()
	if s, ok := impl.ReadAt(p, vol, file, from, to); ok || s != "" {
		t.Errorf("%s: read %q %v", what, s, ok)
	}
}

func sizeRefused(t *testing.T, what string, p impl.Pool, vol string, file string) {
	t.Helper()
	if n, ok := impl.SizeOf(p, vol, file); ok || n != 0 {
		t.Errorf("%s: size %d %v", what, n, ok)
	}
}

func volumeRefused(t *testing.T, what string, p impl.Pool, vol string) {
	t.Helper()
	if l, ok := impl.FilesOf(p, vol); ok || len(l) != 0 {
		t.Errorf("%s: files %q %v", what, l, ok)
	}
	if n, ok := impl.OnlyOf(p, vol); ok || n != 0 {
		t.Errorf("%s: only %d %v", what, n, ok)
	}
}

func TestReadAt(t *testing.T) {
	p := somePool()
	for _, c := range []struct {
		vol, file string
		from, to  int64
		want      string
	}{
		{"u", "a", 0, 13, "he\x00\x00\x00loworld!"},
		{"u", "a", 0, 0, ""}, {"u", "a", 5, 5, ""}, {"u", "a", 13, 13, ""},
		{"u", "a", 0, 1, "h"}, {"u", "a", 1, 3, "e\x00"}, {"u", "a", 2, 5, "\x00\x00\x00"},
		{"u", "a", 3, 4, "\x00"}, {"u", "a", 4, 8, "\x00low"}, {"u", "a", 12, 13, "!"},
		{"u", "ab", 0, 100, strings.Repeat("\x00", 100)}, {"u", "ab", 99, 100, "\x00"}, {"u", "ab", 100, 100, ""},
		{"u", "b", 0, 0, ""},
		{"fixed", "a", 0, 1, "~"},
		{"a", "z", 0, 6, "!hello"}, {"a", "z", 1, 5, "hell"},
	} {
		if s, ok := impl.ReadAt(p, c.vol, c.file, c.from, c.to); !ok || s != c.want {
			t.Errorf("%s/%s %d .. %d: %q %v, want %q", c.vol, c.file, c.from, c.to, s, ok, c.want)
		}
	}
}

func TestReadAtBounds(t *testing.T) {
	p := somePool()
	for file, size := range map[string]int64{"a": 13, "ab": 100, "b": 0} {
		if n, ok := impl.SizeOf(p, "u", file); !ok || n != size {
			t.Errorf("%s: size %d %v, want %d", file, n, ok, size)
		}
		bounds := append(slices.Clone(odd), 12, 13, 14, size-1, size, size+1)
		for _, from := range bounds {
			for _, to := range bounds {
				if 0 <= from && from <= to && to <= size {
					if s, ok := impl.ReadAt(p, "u", file, from, to); !ok || int64(len(s)) != to-from {
						t.Errorf("%s %d .. %d: %q %v", file, from, to, s, ok)
					}
					continue
				}
				readRefused(t, fmt.Sprint(file, " ", from, " .. ", to), p, "u", file, from, to)
			}
		}
	}
}

func TestAskingOfNone(t *testing.T) {
	p := somePool()
	for _, vol := range append(wrongNames(), "b", "x", "uu", "U", "fixe", "fixedd", "z") {
		what := fmt.Sprintf("volume %q", vol)
		readRefused(t, what, p, vol, "a", 0, 0)
		sizeRefused(t, what, p, vol, "a")
		volumeRefused(t, what, p, vol)
	}
	for _, file := range append(wrongNames(), "c", "aa", "abc", "z", "u") {
		what := fmt.Sprintf("file %q", file)
		readRefused(t, what, p, "u", file, 0, 0)
		sizeRefused(t, what, p, "u", file)
	}
	// Each of these is a file, but of another volume.
	readRefused(t, "of another volume", p, "fixed", "z", 0, 0)
	sizeRefused(t, "of another volume", p, "a", "a")
	none, _ := impl.PoolNew(9)
	volumeRefused(t, "no volumes", none, "u")
	readRefused(t, "no volumes", none, "u", "a", 0, 0)
	sizeRefused(t, "no volumes", none, "u", "a")
}

func TestAskingOfWrongPools(t *testing.T) {
	for _, c := range wrongPools() {
		for _, v := range append(slices.Clone(c.p.Vols), vol(1, "u", item("a")), vol(1, "")) {
			volumeRefused(t, c.name, c.p, v.Name)
			for _, x := range append(slices.Clone(v.Items), item("a"), item("")) {
				readRefused(t, c.name, c.p, v.Name, x.Name, 0, 0)
				readRefused(t, c.name, c.p, v.Name, x.Name, 0, 1)
				sizeRefused(t, c.name, c.p, v.Name, x.Name)
			}
		}
		for _, addr := range []int64{math.MinInt64, -1, 0, 1, 6, 20, 60, 400, math.MaxInt64} {
			if l := impl.OwnersOf(c.p, addr); len(l) != 0 {
				t.Errorf("%s: owners of %d: %v", c.name, addr, l)
			}
		}
	}
}

func TestFilesOf(t *testing.T) {
	p := somePool()
	for name, want := range map[string][]string{"u": {"a", "ab", "b"}, "fixed": {"a"}, "a": {"z"}} {
		if l, ok := impl.FilesOf(p, name); !ok || !slices.Equal(l, want) {
			t.Errorf("%s: %q %v, want %q", name, l, ok, want)
		}
	}
	empty := impl.Pool{Size: 9, Next: 2, Vols: []impl.Volume{vol(1, "v")}}
	if l, ok := impl.FilesOf(empty, "v"); !ok || len(l) != 0 {
		t.Errorf("no files: %q %v", l, ok)
	}
	if l, ok := impl.FilesOf(manyVols(6, 5), "f"); !ok || !slices.Equal(l, []string{"a", "b", "c", "d", "e"}) {
		t.Errorf("MaxFiles: %q %v", l, ok)
	}
}

func TestOwnersOf(t *testing.T) {
	p := somePool()
	for addr, want := range map[int64][]impl.Counted{
		1:  {ct(1, 2, "a", 2), ct(1, 7, "z", 1)},
		6:  {ct(6, 2, "a", 1), ct(6, 7, "z", 1)},
		20: nil, // it is there, but all that is counted of it comes to 0
		60: {ct(60, 3, "a", 1)},
		2:  nil, 7: nil, 59: nil, 61: nil,
	} {
		if l := impl.OwnersOf(p, addr); !slices.Equal(l, want) {
			t.Errorf("%d: %v, want %v", addr, l, want)
		}
	}
	for _, addr := range odd {
		if l := impl.OwnersOf(p, addr); len(l) != 0 && addr != 1 {
			t.Errorf("%d: %v", addr, l)
		}
	}
	if l := impl.OwnersOf(widePool(), 3); len(l) != 25 || l[0] != ct(3, 1, "p", 1) || l[24] != ct(3, 5, "t", 1) {
		t.Error("25 owners:", l)
	}
}

func TestOnlyOf(t *testing.T) {
	shared := func(parts ...[]impl.Part) impl.Pool {
		p := impl.Pool{Size: 60, Next: 9, Extents: []impl.Extent{ex(1, "hello"), ex(6, "world!"), ex(20, "x")}}
		for i, l := range parts {
			p.Vols = append(p.Vols, vol(int64(i+1), string(rune('a'+i)), item("f", l...), item("g", l...)))
		}
		p = recounted(p)
		p.Late = []impl.Counted{ct(1, 8, "f", 1), ct(6, 8, "f", 1), ct(20, 8, "f", 1), ct(1, 8, "f", -1), ct(6, 8, "f", -1), ct(20, 8, "f", -1)}
		return p
	}
	one, two, three := pt(1, 1, 1), pt(6, 0, 6), pt(20, 0, 1)
	for _, c := range []struct {
		name string
		p    impl.Pool
		want []int64
	}{
		{"some", somePool(), nil},
		{"none", shared(nil, nil), []int64{0, 0}},
		{"a hole alone", shared([]impl.Part{hole(9)}), []int64{0}},
		{"a byte of one", shared([]impl.Part{one}), []int64{5}},
		{"one twice", shared([]impl.Part{one, hole(1), one}), []int64{5}},
		{"all of one", shared([]impl.Part{one, two, three}, nil), []int64{12, 0}},
		{"both", shared([]impl.Part{one, two}, []impl.Part{two, three}), []int64{5, 1}},
		{"the same", shared([]impl.Part{one, two}, []impl.Part{one, two}), []int64{0, 0}},
		{"unlike bytes of the same", shared([]impl.Part{one}, []impl.Part{pt(1, 3, 2)}), []int64{0, 0}},
		{"apart", shared([]impl.Part{one}, []impl.Part{two}, []impl.Part{three}), []int64{5, 6, 1}},
		{"two share, one does not", shared([]impl.Part{one}, []impl.Part{three}, []impl.Part{one, two}), []int64{0, 1, 6}},
	} {
		if c.want == nil {
			c.want = []int64{0, 1, 0}
		}
		for i, v := range c.p.Vols {
			if n, ok := impl.OnlyOf(c.p, v.Name); !ok || n != c.want[i] {
				t.Errorf("%s: only of %s: %d %v, want %d", c.name, v.Name, n, ok, c.want[i])
			}
		}
	}
}

// onlyByHand asks of each extent which volumes have a part of it.
func onlyByHand(p impl.Pool, name string) int64 {
	n := int64(0)
	for _, e := range p.Extents {
		var names []string
		for _, v := range p.Vols {
			for _, x := range v.Items {
				if slices.ContainsFunc(x.Parts, func(q impl.Part) bool { return q.Addr == e.Addr }) {
					names = append(names, v.Name)
				}
			}
		}
		if names = slices.Compact(names); len(names) == 1 && names[0] == name {
			n += int64(len(e.Data))
		}
	}
	return n
}

// checkAsking holds all that may be asked of a right pool against what is told by hand.
func checkAsking(t *testing.T, p impl.Pool) {
	t.Helper()
	for _, v := range p.Vols {
		var names []string
		for _, x := range v.Items {
			names = append(names, x.Name)
			text := textOfParts(p, x.Parts)
			if got := readAll(t, p, v.Name, x.Name); got != text {
				t.Fatalf("%+v: %s/%s: %q, want %q", p, v.Name, x.Name, got, text)
			}
		}
		if l, ok := impl.FilesOf(p, v.Name); !ok || !slices.Equal(l, names) {
			t.Fatalf("%+v: files of %s: %q %v, want %q", p, v.Name, l, ok, names)
		}
		if n, ok := impl.OnlyOf(p, v.Name); !ok || n != onlyByHand(p, v.Name) {
			t.Fatalf("%+v: only of %s: %d %v, want %d", p, v.Name, n, ok, onlyByHand(p, v.Name))
		}
	}
	checkOwners(t, p)
}

// checkOwners: the owners of an extent are those that are found, and no others have any.
func checkOwners(t *testing.T, p impl.Pool) {
	t.Helper()
	found := walkedByHand(p)
	for _, e := range p.Extents {
		owners := impl.OwnersOf(p, e.Addr)
		end := len(owners)
		if end > len(found) || !slices.Equal(owners, found[:end]) || slices.ContainsFunc(owners, func(c impl.Counted) bool { return c.Owner.Addr != e.Addr }) {
			t.Fatalf("%+v: owners of %d: %v, found %v", p, e.Addr, owners, found)
		}
		found = found[end:]
	}
	if len(found) != 0 {
		t.Fatalf("%+v: found, but no owner: %v", p, found)
	}
}

// Promise 5, over many pools.
func TestAskingAgainstThatByHand(t *testing.T) {
	r := rand.New(rand.NewSource(9))
	told := 0
	for range 800 {
		p := makePool(r)
		if !poolByHand(p) {
			continue
		}
		checkAsking(t, p)
		told++
	}
	for _, c := range rightPools() {
		checkAsking(t, c.p)
	}
	if told < 400 {
		t.Errorf("only %d were right", told)
	}
}

// Promise 5: what is read in two pieces is what is read in one.
func TestReadInPieces(t *testing.T) {
	r := rand.New(rand.NewSource(10))
	pools := []impl.Pool{somePool()}
	for len(pools) < 25 {
		if p := makePool(r); poolByHand(p) {
			pools = append(pools, p)
		}
	}
	for _, p := range pools {
		for _, v := range p.Vols {
			for _, x := range v.Items {
				whole := textOfParts(p, x.Parts)
				for at := range int64(len(whole) + 1) {
					a, one := impl.ReadAt(p, v.Name, x.Name, 0, at)
					b, two := impl.ReadAt(p, v.Name, x.Name, at, int64(len(whole)))
					if !one || !two || a+b != whole {
						t.Fatalf("%+v: %s/%s at %d: %q %v, %q %v, want %q", p, v.Name, x.Name, at, a, one, b, two, whole)
					}
				}
				readInside(t, r, p, v.Name, x.Name, whole)
			}
		}
	}
}

func readInside(t *testing.T, r *rand.Rand, p impl.Pool, vol string, file string, whole string) {
	t.Helper()
	from := r.Intn(len(whole) + 1)
	to := from + r.Intn(len(whole)-from+1)
	at := from + r.Intn(to-from+1)
	one, _ := impl.ReadAt(p, vol, file, int64(from), int64(to))
	a, _ := impl.ReadAt(p, vol, file, int64(from), int64(at))
	b, _ := impl.ReadAt(p, vol, file, int64(at), int64(to))
	if one != whole[from:to] || a+b != one {
		t.Fatalf("%+v: %s/%s %d, %d, %d: %q, %q, %q", p, vol, file, from, at, to, one, a, b)
	}
}

func TestAskingKeepsItsArguments(t *testing.T) {
	for _, c := range append(rightPools(), wrongPools()...) {
		p := roomy(c.p)
		was := opened(p)
		for _, v := range append(slices.Clone(c.p.Vols), vol(1, "x", item("x"))) {
			for _, x := range v.Items {
				impl.ReadAt(p, v.Name, x.Name, 0, 1)
				impl.SizeOf(p, v.Name, x.Name)
			}
			impl.OnlyOf(p, v.Name)
			names, _ := impl.FilesOf(p, v.Name)
			checkApart(t, c.name, poolSpans("p", p), spansOf("names", names))
			fill(names[:cap(names)], "mark")
		}
		for _, e := range append(slices.Clone(c.p.Extents), ex(5, "")) {
			l := impl.OwnersOf(p, e.Addr)
			kept := slices.Clone(l)
			checkApart(t, c.name, poolSpans("p", p), spansOf("owners", l))
			fill(l[:cap(l)], countMark)
			if again := impl.OwnersOf(p, e.Addr); !slices.Equal(again, kept) {
				t.Errorf("%s: owners of %d: %v, then %v", c.name, e.Addr, kept, again)
			}
		}
		if !reflect.DeepEqual(opened(p), was) {
			t.Errorf("%s: the pool or the room behind its lists was written into", c.name)
		}
	}
}
