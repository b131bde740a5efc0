package tests

import (
	"fmt"
	"math"
	"math/rand"
	"slices"
	"strings"
	"testing"

	"loop.example/g00336/impl"
)

func pt(addr int64, from int64, n int64) impl.Part {
	return impl.Part{Addr: addr, From: from, Len: n}
}

func hole(n int64) impl.Part { return impl.Part{Len: n} }

// strips are n parts of one extent, each of size bytes, none of which goes on with another one.
func strips(n int, size int64) []impl.Part { return slices.Repeat([]impl.Part{pt(5, 0, size)}, n) }

type list struct {
	name string
	l    []impl.Part
}

func rightLists() []list {
	return []list{
		{"nil", nil},
		{"empty", []impl.Part{}},
		{"least hole", []impl.Part{hole(1)}},
		{"greatest hole", []impl.Part{hole(impl.MaxLen)}},
		{"least Addr", []impl.Part{pt(1, 0, 1)}},
		{"greatest Addr", []impl.Part{pt(impl.MaxSize, 0, 1)}},
		{"greatest Len", []impl.Part{pt(1, 0, impl.MaxData)}},
		{"greatest From", []impl.Part{pt(1, impl.MaxData-1, 1)}},
		{"From and Len to the end", []impl.Part{pt(1, 7, 13)}},
		{"most parts", strips(impl.MaxParts, 1)},
		{"most bytes", strips(5, 20)},
		{"most of both", append(strips(15, 6), pt(9, 0, 10))},
		{"hole between", []impl.Part{hole(1), pt(1, 0, 1), hole(1), pt(1, 1, 1), hole(1)}},
		{"same Addr, a byte left out", []impl.Part{pt(1, 0, 2), pt(1, 3, 2)}},
		{"same Addr, a byte twice", []impl.Part{pt(1, 0, 2), pt(1, 1, 2)}},
		{"same Addr, backwards", []impl.Part{pt(1, 2, 2), pt(1, 0, 2)}},
		{"From goes on, Addr does not", []impl.Part{pt(1, 0, 2), pt(2, 2, 2)}},
		{"Addr goes on, From does not", []impl.Part{pt(1, 0, 2), pt(3, 0, 2)}},
		{"the hole's Len as From", []impl.Part{hole(2), pt(1, 2, 2)}},
	}
}

func wrongLists() []list {
	l := []list{
		{"parts past MaxParts", strips(impl.MaxParts+1, 1)},
		{"bytes past MaxLen", append(strips(5, 20), hole(1))},
		{"hole past MaxLen", []impl.Part{hole(impl.MaxLen + 1)}},
		{"bytes past MaxLen by a hole", []impl.Part{pt(1, 0, 1), hole(impl.MaxLen)}},
		{"empty hole", []impl.Part{hole(0)}},
		{"hole with From", []impl.Part{{From: 1, Len: 1}}},
		{"hole with From below 0", []impl.Part{{From: -1, Len: 1}}},
		{"Addr below 0", []impl.Part{pt(-1, 0, 1)}},
		{"Addr past MaxSize", []impl.Part{pt(impl.MaxSize+1, 0, 1)}},
		{"From below 0", []impl.Part{pt(1, -1, 1)}},
		{"From at MaxData", []impl.Part{pt(1, impl.MaxData, 1)}},
		{"From at MaxData, Len 0", []impl.Part{pt(1, impl.MaxData, 0)}},
		{"Len 0", []impl.Part{pt(1, 0, 0)}},
		{"Len past MaxData", []impl.Part{pt(1, 0, impl.MaxData+1)}},
		{"From and Len past MaxData", []impl.Part{pt(1, 7, 14)}},
		{"greatest From, Len 2", []impl.Part{pt(1, impl.MaxData-1, 2)}},
		{"two holes", []impl.Part{hole(1), hole(2)}},
		{"two holes at the end", []impl.Part{pt(1, 0, 1), hole(1), hole(1)}},
		{"goes on", []impl.Part{pt(1, 0, 2), pt(1, 2, 2)}},
		{"goes on at the end", []impl.Part{hole(1), pt(7, 3, 1), pt(7, 4, 16)}},
		{"holes whose sum wraps", []impl.Part{hole(math.MaxInt64), pt(1, 0, 1), hole(math.MaxInt64)}},
	}
	for _, n := range []int64{math.MinInt64, math.MinInt64 + 1, -1, math.MaxInt64 - 1, math.MaxInt64} {
		for k, p := range []impl.Part{pt(n, 0, 1), pt(1, n, 1), pt(1, 0, n), pt(1, 19, n), pt(n, n, n), hole(n), {From: n, Len: 1}, {From: n, Len: n}} {
			l = append(l, list{fmt.Sprint(n, " alone, ", k), []impl.Part{p}})
			l = append(l, list{fmt.Sprint(n, " behind, ", k), []impl.Part{pt(1, 0, 1), p}})
			l = append(l, list{fmt.Sprint(n, " ahead, ", k), []impl.Part{p, pt(1, 0, 1)}})
		}
	}
	return l
}

func sumOf(l []impl.Part) int64 {
	n := int64(0)
	for _, p := range l {
		n += p.Len
	}
	return n
}

func TestPartsOk(t *testing.T) {
	for _, c := range rightLists() {
		if !impl.PartsOk(c.l) || impl.LenOf(c.l) != sumOf(c.l) {
			t.Errorf("%s: %v, %d bytes", c.name, impl.PartsOk(c.l), impl.LenOf(c.l))
		}
	}
	for _, c := range wrongLists() {
		if impl.PartsOk(c.l) || impl.LenOf(c.l) != -1 {
			t.Errorf("%s: %v, %d bytes", c.name, impl.PartsOk(c.l), impl.LenOf(c.l))
		}
	}
}

func refused(t *testing.T, what string, l []impl.Part, ok bool) {
	t.Helper()
	if ok || len(l) != 0 {
		t.Errorf("%s: %v %v", what, l, ok)
	}
}

func TestWrongPartsHaveOneAnswer(t *testing.T) {
	good := []impl.Part{pt(1, 0, 1)}
	space := []impl.Extent{ex(1, strings.Repeat("d", impl.MaxData))}
	for _, c := range wrongLists() {
		l, ok := impl.Slice(c.l, 0, 0)
		refused(t, c.name+": slice", l, ok)
		l, ok = impl.Slice(c.l, 0, 1)
		refused(t, c.name+": slice of a byte", l, ok)
		l, ok = impl.Slice(c.l, -1, -1)
		refused(t, c.name+": slice at -1", l, ok)
		l, ok = impl.Joined(c.l, good)
		refused(t, c.name+": joined ahead", l, ok)
		l, ok = impl.Joined(good, c.l)
		refused(t, c.name+": joined behind", l, ok)
		l, ok = impl.Joined(c.l, nil)
		refused(t, c.name+": joined with none", l, ok)
		l, ok = impl.Laid(c.l, 0, good)
		refused(t, c.name+": laid on", l, ok)
		l, ok = impl.Laid(c.l, 0, nil)
		refused(t, c.name+": laid on with none", l, ok)
		l, ok = impl.Laid(good, 0, c.l)
		refused(t, c.name+": laid", l, ok)
		if s, ok := impl.Content(c.l, space); ok || s != "" {
			t.Errorf("%s: content %q %v", c.name, s, ok)
		}
	}
}

func TestSliceBounds(t *testing.T) {
	l := []impl.Part{pt(1, 2, 3), hole(4), pt(9, 0, 2)} // 9 bytes
	for _, from := range append(slices.Clone(odd), 4, 8, 9, 10) {
		for _, to := range append(slices.Clone(odd), 4, 8, 9, 10) {
			got, ok := impl.Slice(l, from, to)
			if 0 <= from && from <= to && to <= 9 {
				if !ok || sumOf(got) != to-from {
					t.Errorf("%d .. %d: %v %v", from, to, got, ok)
				}
				continue
			}
			refused(t, fmt.Sprint(from, " .. ", to), got, ok)
		}
	}
	if got, ok := impl.Slice(nil, 0, 0); !ok || len(got) != 0 {
		t.Error("of none:", got, ok)
	}
	got, ok := impl.Slice(nil, 0, 1)
	refused(t, "a byte of none", got, ok)
	got, ok = impl.Slice(nil, 1, 1)
	refused(t, "behind none", got, ok)
}

func TestSlice(t *testing.T) {
	l := []impl.Part{pt(1, 2, 3), hole(4), pt(1, 5, 2)}
	for _, c := range []struct {
		from, to int64
		want     []impl.Part
	}{
		{0, 9, l},
		{0, 0, nil}, {3, 3, nil}, {9, 9, nil},
		{0, 3, l[:1]}, {3, 7, l[1:2]}, {7, 9, l[2:]},
		{1, 2, []impl.Part{pt(1, 3, 1)}},
		{4, 6, []impl.Part{hole(2)}},
		{2, 8, []impl.Part{pt(1, 4, 1), hole(4), pt(1, 5, 1)}},
		{8, 9, []impl.Part{pt(1, 6, 1)}},
	} {
		if got, ok := impl.Slice(l, c.from, c.to); !ok || !slices.Equal(got, c.want) {
			t.Errorf("%d .. %d: %v %v, want %v", c.from, c.to, got, ok, c.want)
		}
	}
}

func TestJoined(t *testing.T) {
	for _, c := range []struct {
		name       string
		a, b, want []impl.Part
	}{
		{"none", nil, nil, nil},
		{"none ahead", nil, []impl.Part{hole(2)}, []impl.Part{hole(2)}},
		{"none behind", []impl.Part{hole(2)}, nil, []impl.Part{hole(2)}},
		{"unlike", []impl.Part{pt(1, 0, 2)}, []impl.Part{pt(2, 0, 2)}, []impl.Part{pt(1, 0, 2), pt(2, 0, 2)}},
		{"goes on", []impl.Part{pt(1, 0, 2)}, []impl.Part{pt(1, 2, 3)}, []impl.Part{pt(1, 0, 5)}},
		{"goes on to the end", []impl.Part{pt(1, 0, 10)}, []impl.Part{pt(1, 10, 10)}, []impl.Part{pt(1, 0, 20)}},
		{"goes on one too far", []impl.Part{pt(1, 0, 2)}, []impl.Part{pt(1, 3, 3)}, []impl.Part{pt(1, 0, 2), pt(1, 3, 3)}},
		{"begins again", []impl.Part{pt(1, 0, 2)}, []impl.Part{pt(1, 0, 2)}, []impl.Part{pt(1, 0, 2), pt(1, 0, 2)}},
		{"holes", []impl.Part{pt(1, 0, 1), hole(3)}, []impl.Part{hole(4), pt(1, 1, 1)}, []impl.Part{pt(1, 0, 1), hole(7), pt(1, 1, 1)}},
		{"hole and part", []impl.Part{hole(3)}, []impl.Part{pt(1, 3, 1)}, []impl.Part{hole(3), pt(1, 3, 1)}},
		{"most bytes", []impl.Part{hole(60)}, []impl.Part{hole(40)}, []impl.Part{hole(100)}},
		{"most parts", strips(8, 1), strips(8, 1), strips(16, 1)},
		{"most parts, two as one", append(strips(15, 1), hole(1)), []impl.Part{hole(2)}, append(strips(15, 1), hole(3))},
	} {
		if got, ok := impl.Joined(c.a, c.b); !ok || !slices.Equal(got, c.want) {
			t.Errorf("%s: %v %v, want %v", c.name, got, ok, c.want)
		}
	}
	got, ok := impl.Joined(strips(8, 1), strips(9, 1))
	refused(t, "a part too many", got, ok)
	got, ok = impl.Joined(append(strips(15, 1), hole(1)), []impl.Part{hole(1), pt(5, 0, 1)})
	refused(t, "a part too many behind two as one", got, ok)
	got, ok = impl.Joined([]impl.Part{hole(60)}, []impl.Part{hole(41)})
	refused(t, "a byte too many", got, ok)
	got, ok = impl.Joined(strips(5, 20), []impl.Part{hole(1)})
	refused(t, "a byte more than MaxLen", got, ok)
}

func TestLaid(t *testing.T) {
	l := []impl.Part{pt(1, 0, 6)}
	x := []impl.Part{pt(9, 0, 2)}
	for _, c := range []struct {
		name  string
		l     []impl.Part
		at    int64
		piece []impl.Part
		want  []impl.Part
	}{
		{"on none", nil, 0, x, x},
		{"none on none", nil, 0, nil, nil},
		{"at 0", l, 0, x, []impl.Part{pt(9, 0, 2), pt(1, 2, 4)}},
		{"between", l, 3, x, []impl.Part{pt(1, 0, 3), pt(9, 0, 2), pt(1, 5, 1)}},
		{"to the end", l, 4, x, []impl.Part{pt(1, 0, 4), pt(9, 0, 2)}},
		{"over the end", l, 5, x, []impl.Part{pt(1, 0, 5), pt(9, 0, 2)}},
		{"at the end", l, 6, x, []impl.Part{pt(1, 0, 6), pt(9, 0, 2)}},
		{"behind the end", l, 7, x, []impl.Part{pt(1, 0, 6), hole(1), pt(9, 0, 2)}},
		{"at 98", l, 98, x, []impl.Part{pt(1, 0, 6), hole(92), pt(9, 0, 2)}},
		{"over all", l, 0, []impl.Part{hole(9)}, []impl.Part{hole(9)}},
		{"none in it", l, 3, nil, l},
		{"none behind the end", l, 8, nil, []impl.Part{pt(1, 0, 6), hole(2)}},
		{"none at MaxLen", nil, impl.MaxLen, nil, []impl.Part{hole(impl.MaxLen)}},
		{"at MaxLen on all", []impl.Part{hole(impl.MaxLen)}, impl.MaxLen, nil, []impl.Part{hole(impl.MaxLen)}},
		{"the same bytes", l, 2, []impl.Part{pt(1, 2, 2)}, l},
		{"goes on at the end", l, 6, []impl.Part{pt(1, 6, 2)}, []impl.Part{pt(1, 0, 8)}},
		{"goes on with the hole", l, 8, []impl.Part{hole(2)}, []impl.Part{pt(1, 0, 6), hole(4)}},
		{"hole behind a hole", []impl.Part{pt(1, 0, 1), hole(2)}, 5, x, []impl.Part{pt(1, 0, 1), hole(4), pt(9, 0, 2)}},
		{"three holes as one", []impl.Part{hole(2), pt(1, 0, 2), hole(2)}, 2, []impl.Part{hole(2)}, []impl.Part{hole(6)}},
		{"most parts to one less", strips(16, 1), 15, []impl.Part{pt(5, 1, 1)}, append(strips(14, 1), pt(5, 0, 2))},
		{"none in the most parts", strips(16, 2), 31, nil, strips(16, 2)},
	} {
		if got, ok := impl.Laid(c.l, c.at, c.piece); !ok || !slices.Equal(got, c.want) {
			t.Errorf("%s: %v %v, want %v", c.name, got, ok, c.want)
		}
	}
}

func TestLaidRefuses(t *testing.T) {
	x := []impl.Part{pt(9, 0, 2)}
	for _, at := range odd {
		got, ok := impl.Laid(nil, at, nil)
		if at >= 0 && at <= impl.MaxLen {
			if !ok || sumOf(got) != at {
				t.Errorf("none at %d: %v %v", at, got, ok)
			}
			continue
		}
		refused(t, fmt.Sprint("at ", at), got, ok)
		got, ok = impl.Laid([]impl.Part{hole(1)}, at, x)
		refused(t, fmt.Sprint("a piece at ", at), got, ok)
	}
	got, ok := impl.Laid(nil, 99, x)
	refused(t, "a byte too many behind a hole", got, ok)
	got, ok = impl.Laid([]impl.Part{hole(99)}, 99, x)
	refused(t, "a byte too many", got, ok)
	got, ok = impl.Laid(nil, impl.MaxLen, x)
	refused(t, "at MaxLen", got, ok)
	got, ok = impl.Laid(strips(15, 3), 4, x[:1])
	if !ok || len(got) != 16 {
		t.Error("the last part that may be:", got, ok)
	}
	got, ok = impl.Laid(strips(16, 4), 5, x)
	refused(t, "two parts too many", got, ok)
	got, ok = impl.Laid(strips(16, 4), 62, x)
	refused(t, "a part too many at the end", got, ok)
	got, ok = impl.Laid(strips(16, 4), 66, []impl.Part{hole(1)})
	refused(t, "a part too many by a hole", got, ok)
}

func TestContent(t *testing.T) {
	e := []impl.Extent{ex(1, "abcdef"), ex(7, "XYZ"), ex(381, "01234567890123456789")}
	for _, c := range []struct {
		l    []impl.Part
		want string
	}{
		{nil, ""},
		{[]impl.Part{hole(3)}, "\x00\x00\x00"},
		{[]impl.Part{hole(impl.MaxLen)}, strings.Repeat("\x00", impl.MaxLen)},
		{[]impl.Part{pt(1, 0, 6)}, "abcdef"},
		{[]impl.Part{pt(1, 5, 1), pt(7, 1, 2), hole(1), pt(1, 0, 2)}, "fYZ\x00ab"},
		{[]impl.Part{pt(381, 19, 1), pt(381, 0, 20)}, "901234567890123456789"},
	} {
		if s, ok := impl.Content(c.l, e); !ok || s != c.want {
			t.Errorf("%v: %q %v, want %q", c.l, s, ok, c.want)
		}
	}
	for name, l := range map[string][]impl.Part{
		"a byte more than there is":         {pt(7, 0, 4)},
		"a byte more than there is, inside": {pt(1, 0, 1), pt(7, 2, 2), pt(1, 0, 1)},
		"wholly behind what there is":       {pt(7, 3, 1)},
		"far behind what there is":          {pt(7, 19, 1)},
		"no such extent":                    {pt(10, 0, 1)},
		"inside an extent":                  {pt(2, 0, 1)},
		"the last one missing":              {pt(1, 0, 1), pt(400, 0, 1)},
	} {
		if s, ok := impl.Content(l, e); ok || s != "" {
			t.Errorf("%s: %q %v", name, s, ok)
		}
	}
	if s, ok := impl.Content([]impl.Part{pt(1, 0, 1)}, nil); ok || s != "" {
		t.Errorf("no extents: %q %v", s, ok)
	}
	for _, s := range wrongSpaces() {
		if rightByBytes(impl.MaxSize, s.l) {
			continue // wrong by its size alone
		}
		if c, ok := impl.Content(nil, s.l); ok || c != "" {
			t.Errorf("extents, %s: %q %v", s.name, c, ok)
		}
	}
}

// one is where one byte of a list of parts comes from.
type one struct{ addr, at int64 }

func spread(l []impl.Part) []one {
	var b []one
	for _, p := range l {
		for k := range p.Len {
			if p.Addr == 0 {
				b = append(b, one{})
			} else {
				b = append(b, one{p.Addr, p.From + k})
			}
		}
	}
	return b
}

// gathered is the only right list of parts that makes up these bytes, if it is not too great.
func gathered(b []one) ([]impl.Part, bool) {
	var l []impl.Part
	for i, x := range b {
		switch {
		case i > 0 && x.addr == b[i-1].addr && (x.addr == 0 || x.at == b[i-1].at+1):
			l[len(l)-1].Len++
		case x.addr == 0:
			l = append(l, hole(1))
		default:
			l = append(l, pt(x.addr, x.at, 1))
		}
	}
	if len(l) > 16 || len(b) > 100 {
		return nil, false
	}
	return l, true
}

func laidBytes(l []one, at int, piece []one) []one {
	b := slices.Clone(l)
	for len(b) < at {
		b = append(b, one{})
	}
	end := min(at+len(piece), len(b))
	return slices.Replace(b, at, end, piece...)
}

func laidText(l string, at int, piece string) string {
	for len(l) < at {
		l += "\x00"
	}
	return l[:at] + piece + l[min(at+len(piece), len(l)):]
}

// makeParts tells right parts of the extents e, with many that nearly go on.
func makeParts(r *rand.Rand, e []impl.Extent, most int, long int) []impl.Part {
	var b []one
	for range r.Intn(most + 1) {
		x := e[r.Intn(len(e))]
		from := r.Intn(len(x.Data))
		n := 1 + r.Intn(min(len(x.Data)-from, long))
		p := pt(x.Addr, int64(from), int64(n))
		if r.Intn(4) == 0 {
			p = hole(int64(1 + r.Intn(long)))
		}
		if len(b) > 0 && r.Intn(4) == 0 {
			last := b[len(b)-1]
			if last.addr != 0 && last.at+1 < int64(len(dataOf(e, last.addr))) {
				p = pt(last.addr, last.at+1, 1)
			}
		}
		b = append(b, spread([]impl.Part{p})...)
	}
	for {
		if l, ok := gathered(b); ok {
			return l
		}
		b = b[:len(b)-1]
	}
}

func dataOf(e []impl.Extent, addr int64) string {
	for _, x := range e {
		if x.Addr == addr {
			return x.Data
		}
	}
	return ""
}

var library = []impl.Extent{ex(1, "abcdefghijklmnopqrst"), ex(21, "UVW"), ex(24, "0"), ex(30, "0123456789"), ex(100, "zyxwvutsrqponmlkjihg"), ex(400, "!")}

func contentOf(t *testing.T, l []impl.Part) string {
	t.Helper()
	s, ok := impl.Content(l, library)
	if !ok || !impl.PartsOk(l) || int64(len(s)) != impl.LenOf(l) {
		t.Fatalf("content of %v: %q %v", l, s, ok)
	}
	for i, x := range spread(l) {
		if x.addr == 0 && s[i] != 0 || x.addr != 0 && s[i] != dataOf(library, x.addr)[x.at] {
			t.Fatalf("content of %v at %d: %q", l, i, s)
		}
	}
	return s
}

// checkAgainst holds an answer against the bytes it is to be made of, and its content against the text.
func checkAgainst(t *testing.T, what string, got []impl.Part, ok bool, bytes []one, text string) bool {
	t.Helper()
	want, right := gathered(bytes)
	if ok != right || !slices.Equal(got, want) {
		t.Fatalf("%s: %v %v, want %v %v", what, got, ok, want, right)
	}
	if ok && contentOf(t, got) != text {
		t.Fatalf("%s: %v is %q, want %q", what, got, contentOf(t, got), text)
	}
	return ok
}

// Promise 2: slices, joined and laid parts against slices, joined and laid texts, and byte for byte.
func TestPartsAgainstTexts(t *testing.T) {
	r := rand.New(rand.NewSource(3))
	said := map[bool]int{}
	for range 20000 {
		long := []int{2, 6, 20, 40}[r.Intn(4)]
		most := []int{2, 9, 16, 30}[r.Intn(4)]
		a, b := makeParts(r, library, most, long), makeParts(r, library, most, long)
		ab, bb := spread(a), spread(b)
		at, bt := contentOf(t, a), contentOf(t, b)
		from := r.Intn(len(at) + 1)
		to := from + r.Intn(len(at)-from+1)
		s, ok := impl.Slice(a, int64(from), int64(to))
		if !checkAgainst(t, fmt.Sprintf("slice %v %d %d", a, from, to), s, ok, ab[from:to], at[from:to]) {
			t.Fatal("a slice of a right list was refused")
		}
		j, ok := impl.Joined(a, b)
		said[checkAgainst(t, fmt.Sprintf("joined %v %v", a, b), j, ok, slices.Concat(ab, bb), at+bt)]++
		where := r.Intn(impl.MaxLen + 1)
		if r.Intn(3) > 0 {
			where = r.Intn(len(at) + 1)
		}
		o, ok := impl.Laid(a, int64(where), b)
		said[checkAgainst(t, fmt.Sprintf("laid %v %d %v", a, where, b), o, ok, laidBytes(ab, where, bb), laidText(at, where, bt))]++
	}
	if said[true] < 1000 || said[false] < 1000 {
		t.Errorf("too few of one kind: %v", said)
	}
}

// What was sliced apart anywhere is joined to what it was.
func TestSlicedApartAndJoined(t *testing.T) {
	for _, c := range rightLists() {
		size := impl.LenOf(c.l)
		for at := int64(0); at <= size; at++ {
			a, one := impl.Slice(c.l, 0, at)
			b, two := impl.Slice(c.l, at, size)
			j, ok := impl.Joined(a, b)
			if !one || !two || !ok || !slices.Equal(j, c.l) {
				t.Errorf("%s at %d: %v %v: %v %v", c.name, at, a, b, j, ok)
			}
			o, ok := impl.Laid(c.l, at, b)
			if !ok || !slices.Equal(o, c.l) {
				t.Errorf("%s, laid on itself at %d: %v %v", c.name, at, o, ok)
			}
		}
	}
}

// partsByBytes has no sum that could wrap: each Len is known to be small ahead of being added.
func partsByBytes(l []impl.Part) bool {
	for _, p := range l {
		if p.Len < 1 || p.Len > 100 || p.Addr < 0 || p.Addr > 400 {
			return false
		}
		if p.Addr == 0 && p.From != 0 || p.Addr != 0 && (p.From < 0 || p.From > 19 || p.From+p.Len > 20) {
			return false
		}
	}
	again, ok := gathered(spread(l))
	return ok && slices.Equal(again, l)
}

func TestPartsOkOfOddOnes(t *testing.T) {
	r := rand.New(rand.NewSource(4))
	said := map[bool]int{}
	for range 60000 {
		l := makeParts(r, library, 18, 7)
		for range r.Intn(3) {
			if len(l) == 0 {
				break
			}
			i := r.Intn(len(l))
			switch r.Intn(6) {
			case 0:
				l[i].Addr = odd[r.Intn(len(odd))]
			case 1:
				l[i].From = odd[r.Intn(len(odd))]
			case 2:
				l[i].Len = odd[r.Intn(len(odd))]
			case 3:
				l = slices.Insert(l, i, l[i])
			case 4:
				l[i].Len++
			case 5:
				l = slices.Delete(l, i, i+1)
			}
		}
		want := partsByBytes(l)
		if got := impl.PartsOk(l); got != want || (impl.LenOf(l) >= 0) != want {
			t.Fatalf("%v: %v, %d bytes, want %v", l, got, impl.LenOf(l), want)
		}
		said[want]++
	}
	if said[true] < 1000 || said[false] < 1000 {
		t.Errorf("too few of one kind: %v", said)
	}
}

func TestPartsKeepTheirArguments(t *testing.T) {
	for _, c := range append(rightLists(), wrongLists()...) {
		for _, d := range rightLists() {
			for _, at := range []int64{0, 1, 2, 50, 100} {
				a, b := watch(c.l, partRoom), watch(d.l, partRoom)
				got, _ := impl.Laid(a.list, at, b.list)
				apart(t, "Laid", got, partMark, a, b)
			}
			a, b := watch(c.l, partRoom), watch(d.l, partRoom)
			got, _ := impl.Joined(a.list, b.list)
			apart(t, "Joined", got, partMark, a, b)
		}
		for _, cut := range [][2]int64{{0, 0}, {0, 1}, {1, 1}, {0, impl.LenOf(c.l)}, {1, impl.LenOf(c.l)}} {
			a := watch(c.l, partRoom)
			got, _ := impl.Slice(a.list, cut[0], cut[1])
			apart(t, "Slice", got, partMark, a)
		}
		a, e := watch(c.l, partRoom), watch(library, extentRoom)
		impl.PartsOk(a.list)
		impl.LenOf(a.list)
		impl.Content(a.list, e.list)
		a.check(t, "PartsOk, LenOf, Content")
		e.check(t, "Content")
	}
}

func TestSameArgumentsSameAnswers(t *testing.T) {
	l := []impl.Part{pt(1, 0, 3), hole(2), pt(30, 1, 2)}
	first, _ := impl.Slice(l, 0, 7)
	fill(first, partMark)
	second, _ := impl.Slice(l, 0, 7)
	third, _ := impl.Slice(l, 0, 7)
	if !slices.Equal(second, l) || !slices.Equal(third, l) {
		t.Error(second, third)
	}
	fill(second, partMark)
	if !slices.Equal(third, l) {
		t.Error("two answers share memory:", third)
	}
}
