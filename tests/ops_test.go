package tests

import (
	"fmt"
	"math"
	"reflect"
	"slices"
	"strings"
	"testing"

	"loop.example/g00336/impl"
)

func opMake(vol string) impl.Op { return impl.Op{Kind: impl.OpMake, Vol: vol} }

func opDrop(vol string) impl.Op { return impl.Op{Kind: impl.OpDrop, Vol: vol} }

func opFix(vol string) impl.Op { return impl.Op{Kind: impl.OpFix, Vol: vol} }

func opSnap(vol string, to string) impl.Op { return impl.Op{Kind: impl.OpSnap, Vol: vol, To: to} }

func opWrite(vol string, file string, at int64, data string) impl.Op {
	return impl.Op{Kind: impl.OpWrite, Vol: vol, File: file, At: at, Data: data}
}

func opCut(vol string, file string, n int64) impl.Op {
	return impl.Op{Kind: impl.OpCut, Vol: vol, File: file, Len: n}
}

func opUnlink(vol string, file string) impl.Op {
	return impl.Op{Kind: impl.OpUnlink, Vol: vol, File: file}
}

func opPunch(vol string, file string, at int64, n int64) impl.Op {
	return impl.Op{Kind: impl.OpPunch, Vol: vol, File: file, At: at, Len: n}
}

func opCopy(vol string, file string, from int64, n int64, to string, into string, at int64) impl.Op {
	return impl.Op{Kind: impl.OpCopy, Vol: vol, File: file, From: from, Len: n, To: to, Into: into, At: at}
}

var opFlush = impl.Op{Kind: impl.OpFlush}

// rightOps is one right op of each Kind. It is right in somePool, too.
func rightOps() []impl.Op {
	return []impl.Op{
		opMake("new"), opWrite("u", "a", 3, "XY"), opCut("u", "a", 4), opUnlink("u", "a"), opCopy("u", "a", 1, 5, "a", "y", 2),
		opSnap("u", "new"), opDrop("u"), opFix("u"), opFlush, opPunch("u", "a", 1, 7),
	}
}

// doAll does ops that are none of them refused, each held against promise 6.
func doAll(t *testing.T, p impl.Pool, l ...impl.Op) impl.Pool {
	t.Helper()
	for _, o := range l {
		q, code := impl.Done(p, o)
		if code != impl.PlDone {
			t.Fatalf("%+v: %d\n%+v", o, code, p)
		}
		checkPromise6(t, p, o, q, code)
		p = q
	}
	return p
}

// newPool is a pool of that size with ops done.
func newPool(t *testing.T, size int64, l ...impl.Op) impl.Pool {
	t.Helper()
	p, _ := impl.PoolNew(size)
	return doAll(t, p, l...)
}

// told fails unless the op has that code and, if it is refused, the pool stays as it is.
func told(t *testing.T, what string, p impl.Pool, o impl.Op, code int64) {
	t.Helper()
	q, got := impl.Done(p, o)
	if got != code {
		t.Errorf("%s: %+v: %d, want %d", what, o, got, code)
	}
	if got != impl.PlDone && !samePool(q, p) {
		t.Errorf("%s: %+v: refused with %d, but another pool: %+v", what, o, got, q)
	}
	if got == impl.PlDone && !impl.PoolOk(q) {
		t.Errorf("%s: %+v: not a right pool: %+v", what, o, q)
	}
}

func reads(t *testing.T, p impl.Pool, vol string, file string, want string) {
	t.Helper()
	if got := readAll(t, p, vol, file); got != want {
		t.Errorf("%s/%s: %q, want %q", vol, file, got, want)
	}
}

func textField(o *impl.Op, field string) *string {
	return map[string]*string{"vol": &o.Vol, "file": &o.File, "to": &o.To, "into": &o.Into, "data": &o.Data}[field]
}

func numberField(o *impl.Op, field string) *int64 {
	return map[string]*int64{"at": &o.At, "from": &o.From, "len": &o.Len}[field]
}

func TestOpOk(t *testing.T) {
	names := map[string][]string{"right": {"a", "z", "abcdefgh", "stuvwxyz"}, "wrong": wrongNames()}
	data := map[string][]string{
		"right": {" ", "~", "x", "a b", strings.Repeat("x", impl.MaxData)},
		"wrong": {"", strings.Repeat("x", impl.MaxData+1), "\x1f", "\x7f", "a\n", "\x00", "a\xff", "é"},
	}
	for _, base := range rightOps() {
		if !impl.OpOk(base) {
			t.Errorf("%+v: refused", base)
		}
		for _, field := range []string{"vol", "file", "to", "into", "data"} {
			o := base
			values := names
			if field == "data" {
				values = data
			}
			named := *textField(&o, field) != ""
			for how, l := range values {
				for _, s := range l {
					*textField(&o, field) = s
					if want := named && how == "right" || !named && s == ""; impl.OpOk(o) != want {
						t.Errorf("%+v with %s %q: %v", base, field, s, !want)
					}
				}
			}
		}
	}
}

func TestOpOkNumbers(t *testing.T) {
	for _, base := range rightOps() {
		for _, field := range []string{"at", "from", "len"} {
			o := base
			named := *numberField(&o, field) != 0
			least := int64(0)
			if field == "len" && o.Kind != impl.OpCut {
				least = 1
			}
			for _, n := range odd {
				*numberField(&o, field) = n
				if want := named && n >= least && n <= impl.MaxLen || !named && n == 0; impl.OpOk(o) != want {
					t.Errorf("%+v with %s %d: %v", base, field, n, !want)
				}
			}
		}
		for _, kind := range odd {
			o := base
			o.Kind = kind
			if (kind < 1 || kind > 10) && impl.OpOk(o) {
				t.Errorf("%+v: accepted", o)
			}
		}
	}
	for _, o := range []impl.Op{{}, {Kind: 11}, {Kind: -1}, {Vol: "u"}} {
		if impl.OpOk(o) {
			t.Errorf("%+v: accepted", o)
		}
	}
}

// wrongOps are right but for one thing.
func wrongOps() []impl.Op {
	l := []impl.Op{{}, {Kind: -1}, {Kind: 11}, {Kind: math.MinInt64}, {Kind: math.MaxInt64}}
	for _, base := range rightOps() {
		for _, field := range []string{"vol", "file", "to", "into", "data"} {
			for _, s := range []string{"", "A", "abcdefghi", "u", "\x7f", strings.Repeat("x", 21)} {
				o := base
				*textField(&o, field) = s
				l = append(l, o)
			}
		}
		for _, field := range []string{"at", "from", "len"} {
			for _, n := range []int64{math.MinInt64, -1, 0, 1, 101, math.MaxInt64} {
				o := base
				*numberField(&o, field) = n
				l = append(l, o)
			}
		}
	}
	return slices.DeleteFunc(l, opByHand)
}

func TestDoneOfWrongOnes(t *testing.T) {
	wrong := wrongOps()
	if len(wrong) < 200 {
		t.Errorf("only %d wrong ops", len(wrong))
	}
	for _, o := range wrong {
		told(t, "wrong op", somePool(), o, impl.PlForm)
		told(t, "wrong op, no volume", impl.Pool{Size: 1, Next: 1}, o, impl.PlForm)
	}
	for _, c := range wrongPools() {
		for _, o := range append(rightOps(), wrong[0], wrong[20]) {
			if q, code := impl.Done(c.p, o); code != impl.PlWrong || !reflect.DeepEqual(q, impl.Pool{}) {
				t.Errorf("%s: %+v: %+v %d", c.name, o, q, code)
			}
		}
		for _, l := range [][]impl.Op{nil, {}, {opFlush}, rightOps(), make([]impl.Op, 101)} {
			if q, codes := impl.DoneAll(c.p, l); len(codes) != 0 || !reflect.DeepEqual(q, impl.Pool{}) {
				t.Errorf("%s: %d ops: %+v %v", c.name, len(l), q, codes)
			}
		}
	}
}

// Each Kind by itself, on a pool with something of all that a pool may have.
func TestEachKind(t *testing.T) {
	a := func(p *impl.Pool) *impl.Item { return &p.Vols[0].Items[0] }
	for _, c := range []struct {
		o    impl.Op
		want func(p *impl.Pool)
	}{
		{opMake("new"), func(p *impl.Pool) {
			p.Next, p.Vols = 9, append(p.Vols, vol(8, "new"))
		}},
		{opWrite("u", "a", 3, "XY"), func(p *impl.Pool) {
			p.Extents = slices.Insert(p.Extents, 2, ex(12, "XY"))
			a(p).Parts = []impl.Part{pt(1, 0, 2), hole(1), pt(12, 0, 2), pt(1, 3, 2), pt(6, 0, 6)}
			p.Late = append(p.Late, ct(12, 2, "a", 1))
		}},
		{opWrite("a", "aa", 2, "123456789"), func(p *impl.Pool) {
			p.Extents = slices.Insert(p.Extents, 3, ex(24, "123456789"))
			p.Vols[2].Items = []impl.Item{item("aa", hole(2), pt(24, 0, 9)), p.Vols[2].Items[0]}
			p.Late = append(p.Late, ct(24, 7, "aa", 1))
		}},
		{opCut("u", "a", 4), func(p *impl.Pool) {
			a(p).Parts = []impl.Part{pt(1, 0, 2), hole(2)}
			p.Late = append(p.Late, ct(1, 2, "a", -1), ct(6, 2, "a", -1))
		}},
		{opCut("u", "a", 0), func(p *impl.Pool) {
			a(p).Parts = nil
			p.Late = append(p.Late, ct(1, 2, "a", -2), ct(6, 2, "a", -1))
		}},
		{opCut("u", "a", 13), func(p *impl.Pool) {}},
		{opCut("u", "a", 15), func(p *impl.Pool) { a(p).Parts = append(a(p).Parts, hole(2)) }},
		{opCut("u", "ab", 99), func(p *impl.Pool) { p.Vols[0].Items[1].Parts[0].Len = 99 }},
		{opCut("u", "b", 3), func(p *impl.Pool) { p.Vols[0].Items[2].Parts = []impl.Part{hole(3)} }},
		{opUnlink("u", "a"), func(p *impl.Pool) {
			p.Vols[0].Items = p.Vols[0].Items[1:]
			p.Late = append(p.Late, ct(1, 2, "a", -2), ct(6, 2, "a", -1))
		}},
		{opUnlink("u", "b"), func(p *impl.Pool) { p.Vols[0].Items = p.Vols[0].Items[:2] }},
		{opCopy("u", "a", 1, 5, "a", "y", 2), func(p *impl.Pool) {
			p.Vols[2].Items = []impl.Item{item("y", hole(2), pt(1, 1, 1), hole(3), pt(1, 3, 1)), p.Vols[2].Items[0]}
			p.Late = append(p.Late, ct(1, 7, "y", 2))
		}},
		{opCopy("fixed", "a", 0, 1, "u", "a", 13), func(p *impl.Pool) {
			a(p).Parts = append(a(p).Parts, pt(60, 0, 1))
			p.Late = append(p.Late, ct(60, 2, "a", 1))
		}},
		{opCopy("u", "a", 0, 13, "u", "a", 0), func(p *impl.Pool) {}},
		{opSnap("u", "new"), func(p *impl.Pool) {
			copied := cloned(*p).Vols[0]
			p.Next, p.Vols = 9, append(p.Vols, vol(8, "new", copied.Items...))
			p.Late = append(p.Late, ct(1, 8, "a", 2), ct(6, 8, "a", 1))
		}},
		{opSnap("fixed", "new"), func(p *impl.Pool) {
			p.Next, p.Vols = 9, append(p.Vols, vol(8, "new", item("a", pt(60, 0, 1))))
			p.Late = append(p.Late, ct(60, 8, "a", 1))
		}},
		{opDrop("u"), func(p *impl.Pool) {
			p.Vols = p.Vols[1:]
			p.Late = append(p.Late, ct(1, 2, "a", -2), ct(6, 2, "a", -1))
		}},
		{opDrop("fixed"), func(p *impl.Pool) {
			p.Vols = slices.Delete(p.Vols, 1, 2)
			p.Late = append(p.Late, ct(60, 3, "a", -1))
		}},
		{opFix("u"), func(p *impl.Pool) { p.Vols[0].Fixed = true }},
		{opFlush, func(p *impl.Pool) {
			p.Refs, p.Late, p.Extents = someWalk(), nil, slices.Delete(p.Extents, 2, 3)
		}},
		{opPunch("u", "a", 1, 7), func(p *impl.Pool) {
			a(p).Parts = []impl.Part{pt(1, 0, 1), hole(7), pt(6, 1, 5)}
			p.Late = append(p.Late, ct(1, 2, "a", -1))
		}},
		{opPunch("u", "a", 0, 2), func(p *impl.Pool) {
			a(p).Parts = []impl.Part{hole(5), pt(1, 3, 2), pt(6, 0, 6)}
			p.Late = append(p.Late, ct(1, 2, "a", -1))
		}},
		{opPunch("u", "b", 3, 4), func(p *impl.Pool) { p.Vols[0].Items[2].Parts = []impl.Part{hole(7)} }},
	} {
		want := changed(c.want)
		if q, code := oneStep(t, somePool(), c.o); code != impl.PlDone || !samePool(q, want) {
			t.Errorf("%+v: %d\n%+v, want\n%+v", c.o, code, q, want)
		}
	}
}

// Of each Kind, inputs at which two or more refusals hold: the one that the chapter tells first is told.
func TestWhichRefusalComesFirst(t *testing.T) {
	many := manyVols(6, 5)
	many.Vols[1].Fixed = true
	full := newPool(t, 5, opMake("u"), opWrite("u", "a", 0, "hello"), opMake("f"), opFix("f"))
	late := lateFull(200)
	late.Vols[1].Fixed = true
	for _, c := range []struct {
		name string
		p    impl.Pool
		o    impl.Op
		code int64
	}{
		{"no such Kind and no volume", full, impl.Op{Kind: 12, Vol: "x"}, impl.PlForm},
		{"make: there, and MaxVols", many, opMake("c"), impl.PlThere},
		{"make: there, and Next is MaxId", changed(func(p *impl.Pool) { p.Next = impl.MaxId }), opMake("u"), impl.PlThere},
		{"make: wrong, and there", full, impl.Op{Kind: impl.OpMake, Vol: "u", File: "a"}, impl.PlForm},
		{"flush: wrong, and something is late", full, impl.Op{Kind: impl.OpFlush, Vol: "u"}, impl.PlForm},
		{"write: no volume, and no room", full, opWrite("x", "a", 0, "x"), impl.PlNone},
		{"write: fixed, and no room", full, opWrite("f", "a", 0, "x"), impl.PlFixed},
		{"write: fixed, and too many files", many, opWrite("b", "x", 0, "x"), impl.PlFixed},
		{"write: fixed, and too many bytes", full, opWrite("f", "a", 100, "x"), impl.PlFixed},
		{"write: wrong, and no volume", full, opWrite("x", "a", 101, "x"), impl.PlForm},
		{"write: wrong, and fixed", full, opWrite("f", "a", 0, ""), impl.PlForm},
		{"write: no volume, and too many bytes", full, opWrite("x", "a", 100, "x"), impl.PlNone},
		{"copy: no To, and no Vol", full, opCopy("x", "a", 0, 1, "y", "b", 0), impl.PlNone},
		{"copy: no To, and Vol is fixed", full, opCopy("f", "a", 0, 1, "y", "b", 0), impl.PlNone},
		{"copy: To is fixed, and no Vol", full, opCopy("x", "a", 0, 1, "f", "b", 0), impl.PlFixed},
		{"copy: To is fixed, and no File", full, opCopy("u", "x", 0, 1, "f", "b", 0), impl.PlFixed},
		{"copy: To is fixed, and fewer bytes", full, opCopy("u", "a", 5, 1, "f", "b", 0), impl.PlFixed},
		{"copy: To is fixed, and too many bytes", full, opCopy("u", "a", 0, 1, "f", "b", 100), impl.PlFixed},
		{"copy: no Vol, and too many bytes", full, opCopy("x", "a", 0, 1, "u", "b", 100), impl.PlNone},
		{"copy: no File, and too many bytes", full, opCopy("u", "x", 0, 1, "u", "b", 100), impl.PlNone},
		{"copy: fewer bytes, and too many bytes", full, opCopy("u", "a", 5, 1, "u", "b", 100), impl.PlNone},
		{"copy: no File, and too many files", many, opCopy("a", "x", 0, 1, "c", "y", 0), impl.PlNone},
		{"copy: fewer bytes, and too many files", many, opCopy("a", "a", 1, 1, "c", "y", 0), impl.PlNone},
		{"copy: wrong, and no volume", full, opCopy("x", "a", 0, 0, "y", "b", 0), impl.PlForm},
		{"cut: no volume, and no file", full, opCut("x", "x", 0), impl.PlNone},
		{"cut: fixed, and no file", full, opCut("f", "x", 0), impl.PlFixed},
		{"cut: wrong, and fixed", full, opCut("f", "x", 101), impl.PlForm},
		{"cut: fixed, and late is full", late, opCut("v", "a", 0), impl.PlFixed},
		{"cut: no file, and late is full", late, opCut("u", "x", 0), impl.PlNone},
		{"punch: no volume, and too many bytes", full, opPunch("x", "x", 100, 1), impl.PlNone},
		{"punch: fixed, and no file", full, opPunch("f", "x", 0, 1), impl.PlFixed},
		{"punch: fixed, and too many bytes", full, opPunch("f", "x", 100, 100), impl.PlFixed},
		{"punch: no file, and too many bytes", full, opPunch("u", "x", 100, 100), impl.PlNone},
		{"punch: wrong, and fixed", full, opPunch("f", "x", 0, 0), impl.PlForm},
		{"unlink: no volume, and no file", full, opUnlink("x", "x"), impl.PlNone},
		{"unlink: fixed, and no file", full, opUnlink("f", "x"), impl.PlFixed},
		{"unlink: fixed, and late is full", late, opUnlink("v", "a"), impl.PlFixed},
		{"unlink: no file, and late is full", late, opUnlink("u", "x"), impl.PlNone},
		{"snap: no Vol, and To is there", full, opSnap("x", "u"), impl.PlNone},
		{"snap: no Vol, and MaxVols", many, opSnap("x", "y"), impl.PlNone},
		{"snap: To is there, and MaxVols", many, opSnap("a", "b"), impl.PlThere},
		{"snap: To is Vol", full, opSnap("u", "u"), impl.PlThere},
		{"snap: To is Vol, and there is none", full, opSnap("x", "x"), impl.PlNone},
		{"snap: To is there, and late is full", late, opSnap("u", "v"), impl.PlThere},
		{"snap: wrong, and no Vol", full, opSnap("x", ""), impl.PlForm},
		{"drop: wrong, and no volume", full, impl.Op{Kind: impl.OpDrop, Vol: "x", Len: 1}, impl.PlForm},
		{"drop: no volume, and late is full", late, opDrop("x"), impl.PlNone},
		{"fix: fixed, and late is full", late, opFix("v"), impl.PlFixed},
		{"fix: no volume, and late is full", late, opFix("x"), impl.PlNone},
	} {
		told(t, c.name, c.p, c.o, c.code)
	}
}

// lateFull has volumes u and v, each with a file a that names one extent, and n that are late, all of which come to 0.
func lateFull(n int) impl.Pool {
	p := impl.Pool{Size: 60, Next: 3, Extents: []impl.Extent{ex(1, "hello"), ex(6, "world")}, Vols: []impl.Volume{
		vol(1, "u", item("a", pt(1, 0, 5))), vol(2, "v", item("a", pt(6, 0, 5), hole(2))),
	}}
	p = recounted(p)
	if n%2 == 1 {
		p.Late = []impl.Counted{ct(1, 1, "x", 1), ct(1, 1, "x", 1), ct(1, 1, "x", -2)}
	}
	for len(p.Late) < n {
		p.Late = append(p.Late, ct(6, 2, "y", 9), ct(6, 2, "y", -9))
	}
	return p
}

func TestMaxLate(t *testing.T) {
	for _, c := range []struct {
		o    impl.Op
		more int
	}{
		{opMake("w"), 0}, {opFix("u"), 0}, {opCut("u", "a", 9), 0}, {opPunch("v", "a", 5, 1), 0}, {opPunch("v", "a", 6, 9), 0},
		{opCopy("u", "a", 0, 5, "u", "a", 0), 0}, {opCut("u", "a", 1), 0}, {opCopy("v", "a", 5, 2, "u", "b", 0), 0},
		{opUnlink("u", "a"), 1}, {opDrop("u"), 1}, {opSnap("u", "w"), 1}, {opCut("u", "a", 0), 1}, {opPunch("u", "a", 0, 5), 1},
		{opWrite("u", "b", 0, "x"), 1}, {opCopy("u", "a", 1, 1, "v", "b", 0), 1}, {opPunch("u", "a", 2, 1), 1},
		{opWrite("u", "a", 2, "x"), 2}, {opWrite("u", "a", 0, "12345"), 2}, {opCopy("u", "a", 0, 1, "v", "a", 2), 2},
	} {
		for n := 197; n <= 200; n++ {
			p := lateFull(n)
			code := int64(impl.PlDone)
			if n+c.more > impl.MaxLate {
				code = impl.PlFull
			}
			q, got := oneStep(t, p, c.o)
			if got != code || got == impl.PlDone && len(q.Late) != n+c.more {
				t.Errorf("%+v with %d late: %d, want %d, %d late then", c.o, n, got, code, len(q.Late))
			}
			doAll(t, p, opFlush, c.o)
		}
	}
}

func TestMaxVolsAndMaxId(t *testing.T) {
	p := manyVols(5, 5)
	for _, o := range []impl.Op{opMake("x"), opSnap("a", "x"), opSnap("e", "x")} {
		q := doAll(t, p, o)
		if len(q.Vols) != impl.MaxVols || q.Vols[5].Id != 100 || q.Next != 101 {
			t.Errorf("%+v: %+v", o, q)
		}
		told(t, "one more than MaxVols", q, opMake("y"), impl.PlFull)
		told(t, "one more than MaxVols", q, opSnap("a", "y"), impl.PlFull)
		doAll(t, q, opDrop("b"), opMake("y"))
	}
	p = impl.Pool{Size: 9, Next: impl.MaxId - 1}
	p = doAll(t, p, opMake("u"))
	if p.Next != impl.MaxId || p.Vols[0].Id != impl.MaxId-1 {
		t.Errorf("the last Id: %+v", p)
	}
	told(t, "Next is MaxId", p, opMake("v"), impl.PlFull)
	told(t, "Next is MaxId", p, opSnap("u", "v"), impl.PlFull)
	p = doAll(t, p, opWrite("u", "a", 0, "x"), opFix("u"), opDrop("u"), opFlush)
	told(t, "Next is MaxId, no volume left", p, opMake("u"), impl.PlFull)
}

// A volume's Id is never another one's again, and names may be.
func TestNewVolumes(t *testing.T) {
	p := newPool(t, 60, opMake("z"), opMake("a"), opMake("m"), opDrop("m"), opMake("m"), opDrop("z"), opSnap("a", "z"))
	var ids []int64
	var names string
	for _, v := range p.Vols {
		ids, names = append(ids, v.Id), names+v.Name
	}
	if !slices.Equal(ids, []int64{2, 4, 5}) || names != "amz" || p.Next != 6 {
		t.Errorf("%v %s %d", ids, names, p.Next)
	}
}

func TestMaxFiles(t *testing.T) {
	p := manyVols(2, 4)
	p.Size = 60
	for _, o := range []impl.Op{opWrite("a", "x", 0, "1"), opCopy("b", "a", 0, 1, "a", "x", 0), opWrite("a", "aa", 0, "1"), opCopy("a", "b", 0, 1, "a", "cc", 0)} {
		q := doAll(t, p, o)
		if l, _ := impl.FilesOf(q, "a"); len(l) != impl.MaxFiles || !slices.IsSorted(l) {
			t.Errorf("%+v: files %q", o, l)
		}
		told(t, "one more than MaxFiles", q, opWrite("a", "y", 0, "1"), impl.PlFull)
		told(t, "one more than MaxFiles", q, opCopy("b", "a", 0, 1, "a", "y", 0), impl.PlFull)
		told(t, "into one that is there", q, opWrite("a", "b", 0, "1"), impl.PlDone)
		told(t, "into another volume", q, opWrite("b", "y", 0, "1"), impl.PlDone)
		doAll(t, q, opUnlink("a", "b"), opWrite("a", "y", 0, "1"))
	}
}

func TestMaxPartsOfAFile(t *testing.T) {
	// with has a file f of n parts of 4 bytes each, and a file g of one byte.
	with := func(n int, more ...impl.Part) impl.Pool {
		parts := append(strips(n, 4), more...)
		return recounted(impl.Pool{Size: 60, Next: 2, Extents: []impl.Extent{ex(5, "abcd"), ex(9, "x")}, Vols: []impl.Volume{
			vol(1, "v", item("f", parts...), item("g", pt(9, 0, 1)))}})
	}
	for n := 13; n <= impl.MaxParts; n++ {
		end := int64(4 * n)
		for _, c := range []struct {
			o     impl.Op
			parts int
		}{
			{opWrite("v", "f", end, "q"), n + 1}, {opWrite("v", "f", end+1, "q"), n + 2}, {opWrite("v", "f", 5, "q"), n + 2},
			{opWrite("v", "f", 4, "q"), n + 1}, {opWrite("v", "f", 4, "qrst"), n}, {opWrite("v", "f", 2, "qrst"), n + 1},
			{opCopy("v", "g", 0, 1, "v", "f", end), n + 1}, {opCopy("v", "g", 0, 1, "v", "f", 5), n + 2}, {opCopy("v", "f", 4, 4, "v", "f", 0), n},
			{opCopy("v", "f", 0, end, "v", "g", 0), n}, {opCopy("v", "f", 0, end, "v", "g", 1), n + 1}, {opCopy("v", "f", 0, end, "v", "h", 2), n + 1},
			{opPunch("v", "f", end, 1), n + 1}, {opPunch("v", "f", 5, 1), n + 2}, {opPunch("v", "f", 0, 4), n}, {opPunch("v", "f", 3, 2), n + 1},
			{opCut("v", "f", end), n}, {opCut("v", "f", end+1), n + 1}, {opCut("v", "f", end-4), n - 1}, {opCut("v", "f", 100), n + 1},
		} {
			code := int64(impl.PlDone)
			if c.parts > impl.MaxParts {
				code = impl.PlFull
			}
			if _, got := oneStep(t, with(n), c.o); got != code {
				t.Errorf("%d parts: %+v: %d, want %d", n, c.o, got, code)
			}
		}
	}
	doAll(t, with(15, hole(1)), opCut("v", "f", 100), opPunch("v", "f", 61, 2), opCut("v", "f", 61), opPunch("v", "f", 61, 3))
}

func TestMaxLenOfAFile(t *testing.T) {
	p := newPool(t, 200, opMake("u"), opWrite("u", "a", 0, "01234567890123456789"), opCopy("u", "a", 0, 20, "u", "b", 80))
	if n, ok := impl.SizeOf(p, "u", "b"); !ok || n != impl.MaxLen {
		t.Errorf("b: %d %v", n, ok)
	}
	twenty := strings.Repeat("x", impl.MaxData)
	for _, c := range []struct {
		o    impl.Op
		code int64
	}{
		{opWrite("u", "c", 80, twenty), impl.PlDone}, {opWrite("u", "c", 81, twenty), impl.PlFull},
		{opWrite("u", "c", 99, "x"), impl.PlDone}, {opWrite("u", "c", 99, "xy"), impl.PlFull}, {opWrite("u", "c", 100, "x"), impl.PlFull},
		{opWrite("u", "b", 80, twenty), impl.PlDone}, {opWrite("u", "b", 99, "x"), impl.PlDone}, {opWrite("u", "b", 100, "x"), impl.PlFull}, {opWrite("u", "b", 101, "x"), impl.PlForm},
		{opCopy("u", "a", 0, 20, "u", "c", 80), impl.PlDone}, {opCopy("u", "a", 0, 20, "u", "c", 81), impl.PlFull}, {opCopy("u", "a", 0, 1, "u", "c", 100), impl.PlFull},
		{opCopy("u", "b", 0, 100, "u", "c", 0), impl.PlDone}, {opCopy("u", "b", 0, 100, "u", "c", 1), impl.PlFull}, {opCopy("u", "b", 0, 100, "u", "b", 0), impl.PlDone},
		{opCopy("u", "b", 99, 1, "u", "c", 99), impl.PlDone}, {opCopy("u", "b", 99, 2, "u", "c", 0), impl.PlNone}, {opCopy("u", "b", 100, 1, "u", "c", 0), impl.PlNone},
		{opCopy("u", "b", 1, 100, "u", "c", 0), impl.PlNone}, {opCopy("u", "b", 100, 100, "u", "c", 0), impl.PlNone},
		{opCopy("u", "a", 19, 1, "u", "c", 0), impl.PlDone}, {opCopy("u", "a", 19, 2, "u", "c", 0), impl.PlNone}, {opCopy("u", "a", 20, 1, "u", "c", 0), impl.PlNone}, {opCopy("u", "a", 21, 1, "u", "c", 0), impl.PlNone},
		{opCopy("u", "a", 0, 20, "u", "c", 0), impl.PlDone}, {opCopy("u", "a", 0, 21, "u", "c", 0), impl.PlNone},
		{opPunch("u", "a", 99, 1), impl.PlDone}, {opPunch("u", "a", 99, 2), impl.PlFull}, {opPunch("u", "a", 100, 1), impl.PlFull},
		{opPunch("u", "a", 0, 100), impl.PlDone}, {opPunch("u", "a", 1, 100), impl.PlFull}, {opPunch("u", "b", 0, 100), impl.PlDone}, {opPunch("u", "a", 0, 101), impl.PlForm},
		{opCut("u", "a", 100), impl.PlDone}, {opCut("u", "a", 101), impl.PlForm}, {opCut("u", "b", 100), impl.PlDone}, {opCut("u", "b", 0), impl.PlDone}, {opCut("u", "b", -1), impl.PlForm},
	} {
		if _, code := oneStep(t, p, c.o); code != c.code {
			t.Errorf("%+v: %d, want %d", c.o, code, c.code)
		}
	}
}

func TestMaxExtentsAndMaxRefs(t *testing.T) {
	p := doAll(t, manyExtents(59), opMake("u"), opWrite("u", "a", 0, "x"))
	if len(p.Extents) != impl.MaxExtents {
		t.Errorf("%d extents", len(p.Extents))
	}
	told(t, "one more than MaxExtents", p, opWrite("u", "a", 1, "y"), impl.PlFull)
	told(t, "a copy is none", p, opCopy("u", "a", 0, 1, "u", "a", 1), impl.PlDone)
	p = doAll(t, p, opFlush, opWrite("u", "a", 1, "y"))
	if len(p.Extents) != 2 {
		t.Errorf("behind a flush: %v", p.Extents)
	}
	wide := widePool()
	for _, c := range []struct {
		o    impl.Op
		code int64
	}{
		{opWrite("a", "p", 8, "x"), impl.PlFull}, {opWrite("a", "p", 0, "x"), impl.PlDone}, {opSnap("a", "x"), impl.PlFull},
		{opCopy("a", "p", 0, 1, "a", "p", 8), impl.PlDone}, {opCopy("a", "p", 0, 8, "e", "t", 8), impl.PlDone}, {opMake("x"), impl.PlDone},
		{opUnlink("a", "p"), impl.PlDone}, {opFlush, impl.PlDone}, {opDrop("e"), impl.PlDone},
	} {
		if _, code := oneStep(t, wide, c.o); code != c.code {
			t.Errorf("MaxRefs: %+v: %d, want %d", c.o, code, c.code)
		}
	}
	wide = doAll(t, wide, opMake("x"))
	told(t, "one more than MaxRefs, in another volume", wide, opCopy("a", "p", 0, 1, "x", "a", 0), impl.PlFull)
	told(t, "MaxRefs again", doAll(t, wide, opPunch("e", "t", 7, 1)), opCopy("a", "p", 0, 1, "x", "a", 0), impl.PlDone)
}

func TestRoomForData(t *testing.T) {
	twenty := strings.Repeat("d", impl.MaxData)
	p := newPool(t, 41, opMake("u"), opWrite("u", "a", 0, twenty), opWrite("u", "a", 20, twenty), opWrite("u", "a", 40, "x"))
	reads(t, p, "u", "a", twenty+twenty+"x")
	told(t, "no room", p, opWrite("u", "a", 0, "x"), impl.PlFull)
	told(t, "a copy takes none", p, opCopy("u", "a", 0, 41, "u", "b", 50), impl.PlDone)
	told(t, "a snapshot takes none", p, opSnap("u", "v"), impl.PlDone)
	p = newPool(t, 20, opMake("u"))
	told(t, "MaxData into as much room", p, opWrite("u", "a", 0, twenty), impl.PlDone)
	p = newPool(t, 19, opMake("u"))
	told(t, "room less by one", p, opWrite("u", "a", 0, twenty), impl.PlFull)
	told(t, "one byte more than MaxData", p, opWrite("u", "a", 0, twenty+"d"), impl.PlForm)
	told(t, "one byte", newPool(t, 1, opMake("u")), opWrite("u", "a", 0, "x"), impl.PlDone)
}

func TestWritesAndCopiesBehindTheEnd(t *testing.T) {
	p := newPool(t, 100, opMake("u"), opMake("v"),
		opWrite("u", "new", 0, "abc"), opWrite("u", "far", 4, "xy"), opWrite("u", "new", 3, "de"), opWrite("u", "new", 7, "fg"))
	reads(t, p, "u", "new", "abcde\x00\x00fg")
	reads(t, p, "u", "far", "\x00\x00\x00\x00xy")
	p = doAll(t, p, opCopy("u", "new", 3, 5, "v", "new", 2), opCopy("u", "new", 1, 2, "v", "new", 9), opCopy("u", "far", 3, 2, "u", "far", 8))
	reads(t, p, "v", "new", "\x00\x00de\x00\x00f\x00\x00bc")
	reads(t, p, "u", "far", "\x00\x00\x00\x00xy\x00\x00\x00x")
	reads(t, p, "u", "new", "abcde\x00\x00fg")
	p = doAll(t, p, opPunch("u", "new", 11, 1), opCut("v", "new", 13))
	reads(t, p, "u", "new", "abcde\x00\x00fg\x00\x00\x00")
	reads(t, p, "v", "new", "\x00\x00de\x00\x00f\x00\x00bc\x00\x00")
}

func TestCopiesOfAFileIntoItself(t *testing.T) {
	base := newPool(t, 100, opMake("u"), opWrite("u", "a", 0, "abcdef"))
	for _, c := range []struct {
		from, n, at int64
		want        string
	}{
		{0, 6, 0, "abcdef"}, {0, 6, 6, "abcdefabcdef"}, {0, 3, 1, "aabcef"}, {2, 3, 0, "cdedef"}, {1, 4, 2, "abbcde"},
		{0, 6, 3, "abcabcdef"}, {5, 1, 0, "fbcdef"}, {0, 1, 8, "abcdef\x00\x00a"}, {1, 5, 5, "abcdebcdef"},
	} {
		p := doAll(t, base, opCopy("u", "a", c.from, c.n, "u", "a", c.at))
		reads(t, p, "u", "a", c.want)
	}
	p := doAll(t, base, opCopy("u", "a", 0, 3, "u", "a", 3), opCopy("u", "a", 0, 6, "u", "a", 6), opCopy("u", "a", 0, 12, "u", "b", 0))
	reads(t, p, "u", "a", "abcabcabcabc")
	if l := impl.OwnersOf(p, 1); !slices.Equal(l, []impl.Counted{ct(1, 1, "a", 4), ct(1, 1, "b", 4)}) {
		t.Error(l)
	}
}

func TestSnapshotsAndTheirVolumes(t *testing.T) {
	p := newPool(t, 100, opMake("u"), opWrite("u", "a", 0, "hello"), opWrite("u", "b", 2, "B"), opSnap("u", "v"))
	room := impl.RoomOf(p.Size, p.Extents)
	reads(t, p, "v", "a", "hello")
	reads(t, p, "v", "b", "\x00\x00B")
	p = doAll(t, p, opWrite("v", "a", 1, "EY"), opWrite("u", "a", 5, "!"), opUnlink("u", "b"), opPunch("v", "b", 2, 1))
	reads(t, p, "v", "a", "hEYlo")
	reads(t, p, "u", "a", "hello!")
	reads(t, p, "u", "b", "none")
	reads(t, p, "v", "b", "\x00\x00\x00")
	if n := impl.RoomOf(p.Size, p.Extents); n != room-3 {
		t.Errorf("room %d, was %d", n, room)
	}
	p = doAll(t, p, opFix("v"), opSnap("v", "w"), opWrite("w", "a", 0, "J"), opDrop("u"), opFlush)
	reads(t, p, "v", "a", "hEYlo")
	reads(t, p, "w", "a", "JEYlo")
	if v := volAt(&p, "w"); v.Fixed || v.Id != 3 || !volAt(&p, "v").Fixed {
		t.Errorf("%+v", p.Vols)
	}
	for _, o := range []impl.Op{opWrite("v", "a", 0, "x"), opCut("v", "a", 0), opUnlink("v", "a"), opPunch("v", "a", 0, 1), opCopy("w", "a", 0, 1, "v", "a", 0), opFix("v")} {
		told(t, "fixed", p, o, impl.PlFixed)
	}
	doAll(t, p, opCopy("v", "a", 0, 5, "w", "b", 0), opDrop("v"), opDrop("w"), opFlush)
}

// Extents that nobody names any more are there, and take room, until a flush.
func TestLateExtents(t *testing.T) {
	for _, o := range []impl.Op{opUnlink("u", "a"), opDrop("u"), opCut("u", "a", 0), opPunch("u", "a", 0, 10), opWrite("u", "a", 0, "0123456789")} {
		for _, flushed := range []bool{false, true} {
			size := int64(10)
			if o.Kind == impl.OpWrite {
				size = 20
			}
			p := newPool(t, size, opMake("u"), opMake("v"), opWrite("u", "a", 0, "abcdefghij"))
			if flushed {
				p = doAll(t, p, opFlush)
			}
			p = doAll(t, p, o)
			if len(impl.OwnersOf(p, 1)) != 0 || p.Extents[0] != ex(1, "abcdefghij") || impl.RoomOf(p.Size, p.Extents) != 0 {
				t.Errorf("%+v: %+v", o, p)
			}
			told(t, "no room ahead of a flush", p, opWrite("v", "b", 0, "x"), impl.PlFull)
			p = doAll(t, p, opFlush)
			if impl.RoomOf(p.Size, p.Extents) != 10 || slices.ContainsFunc(p.Extents, func(e impl.Extent) bool { return e.Addr == 1 }) {
				t.Errorf("%+v, flushed: %+v", o, p)
			}
			p = doAll(t, p, opWrite("v", "b", 0, "x"))
			if p.Extents[0] != ex(1, "x") {
				t.Errorf("%+v, written again: %+v", o, p)
			}
		}
	}
	// What one still names stays.
	p := newPool(t, 60, opMake("u"), opWrite("u", "a", 0, "abc"), opSnap("u", "v"), opWrite("u", "a", 0, "xyz"), opDrop("u"), opFlush)
	if !slices.Equal(p.Extents, []impl.Extent{ex(1, "abc")}) || !slices.Equal(p.Refs, []impl.Counted{ct(1, 2, "a", 1)}) {
		t.Errorf("%+v", p)
	}
	p = doAll(t, p, opFlush, opFlush)
	if !slices.Equal(p.Extents, []impl.Extent{ex(1, "abc")}) {
		t.Errorf("flushed again: %+v", p)
	}
}

// A flush of any right pool leaves just the extents that somebody names.
func TestFlushOfRightPools(t *testing.T) {
	for _, c := range rightPools() {
		q := doAll(t, c.p, opFlush)
		for _, e := range q.Extents {
			if len(impl.OwnersOf(q, e.Addr)) == 0 {
				t.Errorf("%s: nobody names %d", c.name, e.Addr)
			}
		}
		if again := doAll(t, q, opFlush); !samePool(again, q) {
			t.Errorf("%s: flushed again: %+v, was %+v", c.name, again, q)
		}
	}
}

func TestEmptyFiles(t *testing.T) {
	p := newPool(t, 60, opMake("u"), opWrite("u", "a", 0, "x"), opCut("u", "a", 0))
	reads(t, p, "u", "a", "")
	told(t, "a byte of none", p, opCopy("u", "a", 0, 1, "u", "b", 0), impl.PlNone)
	p = doAll(t, p, opCut("u", "a", 0), opSnap("u", "v"), opPunch("v", "a", 0, 1), opFlush)
	reads(t, p, "u", "a", "")
	reads(t, p, "v", "a", "\x00")
	if n, ok := impl.OnlyOf(p, "u"); !ok || n != 0 || len(p.Extents)+len(p.Refs) != 0 {
		t.Errorf("%d %v %+v", n, ok, p)
	}
	p = doAll(t, p, opUnlink("u", "a"), opUnlink("v", "a"))
	told(t, "gone", p, opUnlink("u", "a"), impl.PlNone)
	if l, ok := impl.FilesOf(p, "u"); !ok || len(l) != 0 {
		t.Errorf("%q %v", l, ok)
	}
	doAll(t, p, opSnap("u", "w"), opDrop("u"), opDrop("v"), opDrop("w"))
}

func TestDoneAll(t *testing.T) {
	p, _ := impl.PoolNew(60)
	var l []impl.Op
	var want []int64
	for i := range 100 {
		l = append(l, []impl.Op{opMake("u"), opDrop("u"), opDrop("u"), {}}[i%4])
		want = append(want, []int64{impl.PlDone, impl.PlDone, impl.PlNone, impl.PlForm}[i%4])
	}
	if q, codes := impl.DoneAll(p, l); !slices.Equal(codes, want) || !samePool(q, impl.Pool{Size: 60, Next: 26}) {
		t.Errorf("100 ops: %+v %v", q, codes)
	}
	for _, n := range []int{101, 200, 1000} {
		if q, codes := impl.DoneAll(p, slices.Repeat([]impl.Op{opFlush}, n)); len(codes) != 0 || !reflect.DeepEqual(q, impl.Pool{}) {
			t.Errorf("%d ops: %+v %v", n, q, codes)
		}
	}
	for _, c := range rightPools() {
		for _, none := range [][]impl.Op{nil, {}} {
			if q, codes := impl.DoneAll(c.p, none); len(codes) != 0 || !samePool(q, c.p) {
				t.Errorf("%s, no ops: %+v %v", c.name, q, codes)
			}
		}
	}
	q, codes := impl.DoneAll(p, []impl.Op{opMake("u"), opWrite("u", "a", 1, "x"), opWrite("v", "a", 1, "x"), opSnap("u", "v"), opFix("v"), opWrite("v", "a", 1, "x"), opMake("v")})
	if !slices.Equal(codes, []int64{0, 0, impl.PlNone, 0, 0, impl.PlFixed, impl.PlThere}) || !impl.PoolOk(q) {
		t.Errorf("%v %+v", codes, q)
	}
	reads(t, q, "v", "a", "\x00x")
}

func TestOpsKeepTheirArguments(t *testing.T) {
	ops := append(rightOps(), opCopy("u", "a", 0, 9, "u", "a", 20), opCopy("u", "a", 0, 13, "u", "c", 0), opSnap("fixed", "new"),
		opWrite("x", "a", 0, "x"), opWrite("fixed", "a", 0, "x"), opWrite("u", "a", 100, "x"), opMake("u"), impl.Op{}, opUnlink("u", "b"), opCut("u", "a", 50))
	pools := append(rightPools(), wrongPools()[:5]...)
	pools = append(pools, poolCase{"late is full", lateFull(200)})
	for _, c := range pools {
		for _, o := range ops {
			what := fmt.Sprintf("%s: %+v", c.name, o)
			p := roomy(c.p)
			was := opened(p)
			q, _ := impl.Done(p, o)
			checkApart(t, what, poolSpans("p", p), poolSpans("q", q))
			if !reflect.DeepEqual(opened(p), was) {
				t.Errorf("%s: the pool or the room behind its lists was written into", what)
			}
		}
		for n := range len(ops) {
			what := fmt.Sprintf("%s: %d ops", c.name, n)
			p := roomy(c.p)
			was := opened(p)
			l := watch(ops[:n], opFlush)
			q, codes := impl.DoneAll(p, l.list)
			l.check(t, what)
			checkApart(t, what, poolSpans("p", p), poolSpans("q", q), spansOf("l", l.list), spansOf("codes", codes))
			if !reflect.DeepEqual(opened(p), was) {
				t.Errorf("%s: the pool or the room behind its lists was written into", what)
			}
		}
	}
}

func TestSameOpsSameAnswers(t *testing.T) {
	for _, o := range rightOps() {
		first, code := impl.Done(somePool(), o)
		for range 20 {
			q, again := impl.Done(somePool(), o)
			if again != code || !reflect.DeepEqual(q, first) {
				t.Fatalf("%+v: %d, then %d\n%+v, then\n%+v", o, code, again, first, q)
			}
		}
	}
}
