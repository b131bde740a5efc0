package tests

import (
	"fmt"
	"maps"
	"math/rand"
	"reflect"
	"slices"
	"strings"
	"testing"

	"loop.example/g00336/impl"
)

// formsByHand tells by Kind which fields an Op has: names vol, file, to, into; numbers at, from, len (1 at least), cut (len, 0 at least); data.
var formsByHand = map[int64]string{
	1: "vol", 7: "vol", 8: "vol",
	2: "vol file at data", 3: "vol file cut", 4: "vol file", 10: "vol file at len",
	5: "vol file to into at from len", 6: "vol to", 9: "",
}

func opByHand(o impl.Op) bool {
	form, ok := formsByHand[o.Kind]
	fields := strings.Fields(form)
	text := func(field string, s string, right bool) bool {
		return slices.Contains(fields, field) && right || !slices.Contains(fields, field) && s == ""
	}
	number := func(field string, n int64, least int64) bool {
		return slices.Contains(fields, field) && n >= least && n <= 100 || !slices.Contains(fields, field) && n == 0
	}
	return ok && text("vol", o.Vol, nameByHand(o.Vol)) && text("file", o.File, nameByHand(o.File)) &&
		text("to", o.To, nameByHand(o.To)) && text("into", o.Into, nameByHand(o.Into)) &&
		number("at", o.At, 0) && number("from", o.From, 0) &&
		(number("len", o.Len, 1) || slices.Contains(fields, "cut") && number("cut", o.Len, 0)) &&
		text("data", o.Data, rightByBytes(20, []impl.Extent{ex(1, o.Data)}))
}

// doneByHand tells what Done is to tell, by the bytes of which files are made up.
func doneByHand(p impl.Pool, o impl.Op) (impl.Pool, int64) {
	if !poolByHand(p) {
		return impl.Pool{}, 1
	}
	if !opByHand(o) {
		return p, 2
	}
	q := cloned(p)
	if code := changeByHand(&q, o); code != 0 {
		return p, code
	}
	if o.Kind != 9 {
		gone := walkedByHand(p)
		for i := range gone {
			gone[i].N = -gone[i].N
		}
		q.Late = append(q.Late, summed(append(gone, walkedByHand(q)...))...)
	}
	if !poolByHand(q) {
		return p, 5
	}
	return q, 0
}

func volAt(p *impl.Pool, name string) *impl.Volume {
	for i := range p.Vols {
		if p.Vols[i].Name == name {
			return &p.Vols[i]
		}
	}
	return nil
}

func itemAt(v *impl.Volume, name string) *impl.Item {
	for i := range v.Items {
		if v.Items[i].Name == name {
			return &v.Items[i]
		}
	}
	return nil
}

func changeByHand(p *impl.Pool, o impl.Op) int64 {
	v := volAt(p, o.Vol)
	if o.Kind == 5 {
		v = volAt(p, o.To)
	}
	switch {
	case o.Kind == 1 && v != nil:
		return 4
	case o.Kind == 1:
		p.Vols = append(p.Vols, impl.Volume{Id: p.Next, Name: o.Vol})
		p.Next++
		return 0
	case o.Kind == 9:
		p.Refs, p.Late = walkedByHand(*p), nil
		p.Extents = slices.DeleteFunc(p.Extents, func(e impl.Extent) bool {
			return !slices.ContainsFunc(p.Refs, func(c impl.Counted) bool { return c.Owner.Addr == e.Addr })
		})
		return 0
	case v == nil:
		return 3
	case v.Fixed && o.Kind != 6 && o.Kind != 7:
		return 6
	case o.Kind == 8:
		v.Fixed = true
		return 0
	case o.Kind == 7:
		p.Vols = slices.DeleteFunc(p.Vols, func(u impl.Volume) bool { return u.Name == o.Vol })
		return 0
	case o.Kind == 6 && volAt(p, o.To) != nil:
		return 4
	case o.Kind == 6:
		items := cloned(impl.Pool{Vols: []impl.Volume{*v}}).Vols[0].Items
		p.Vols = append(p.Vols, impl.Volume{Id: p.Next, Name: o.To, Items: items})
		p.Next++
		return 0
	}
	return fileByHand(p, v, o)
}

func fileByHand(p *impl.Pool, v *impl.Volume, o impl.Op) int64 {
	x := itemAt(v, o.File)
	if x == nil && (o.Kind == 3 || o.Kind == 4 || o.Kind == 10) {
		return 3
	}
	switch o.Kind {
	case 2:
		starts, sizes := gapsByBytes(p.Size, p.Extents)
		gap := slices.IndexFunc(sizes, func(n int64) bool { return n >= int64(len(o.Data)) })
		if gap < 0 || len(p.Extents) == 60 {
			return 5
		}
		p.Extents = append(p.Extents, ex(starts[gap], o.Data))
		slices.SortFunc(p.Extents, func(a, b impl.Extent) int { return int(a.Addr - b.Addr) })
		return layByHand(v, o.File, o.At, spread([]impl.Part{pt(starts[gap], 0, int64(len(o.Data)))}))
	case 3:
		b := spread(x.Parts)
		b = append(b, make([]one, 100)...)[:o.Len]
		return setByHand(v, o.File, b)
	case 4:
		v.Items = slices.DeleteFunc(v.Items, func(i impl.Item) bool { return i.Name == o.File })
		return 0
	case 10:
		return layByHand(v, o.File, o.At, make([]one, o.Len))
	}
	source := volAt(p, o.Vol)
	if source == nil || itemAt(source, o.File) == nil {
		return 3
	}
	b := spread(itemAt(source, o.File).Parts)
	if int64(len(b)) < o.From+o.Len {
		return 3
	}
	return layByHand(v, o.Into, o.At, b[o.From:o.From+o.Len])
}

func layByHand(v *impl.Volume, file string, at int64, piece []one) int64 {
	var b []one
	if x := itemAt(v, file); x != nil {
		b = spread(x.Parts)
	}
	return setByHand(v, file, laidBytes(b, int(at), piece))
}

func setByHand(v *impl.Volume, file string, b []one) int64 {
	l, ok := gathered(b)
	if !ok {
		return 5
	}
	if itemAt(v, file) == nil {
		v.Items = append(v.Items, item(file))
		slices.SortFunc(v.Items, func(a, b impl.Item) int { return strings.Compare(a.Name, b.Name) })
	}
	itemAt(v, file).Parts = l
	return 0
}

// samePool takes an empty list and nil as the same.
func samePool(a impl.Pool, b impl.Pool) bool { return reflect.DeepEqual(cloned(a), cloned(b)) }

// textsOf are the texts of all files, as ReadAt tells them, by volume and file.
func textsOf(t *testing.T, p impl.Pool) map[string]map[string]string {
	t.Helper()
	all := map[string]map[string]string{}
	for _, v := range p.Vols {
		all[v.Name] = map[string]string{}
		names, _ := impl.FilesOf(p, v.Name)
		for _, file := range names {
			all[v.Name][file] = readAll(t, p, v.Name, file)
		}
	}
	return all
}

// changeTexts does to texts what an op that was done does to files.
func changeTexts(all map[string]map[string]string, o impl.Op) {
	switch o.Kind {
	case impl.OpMake:
		all[o.Vol] = map[string]string{}
	case impl.OpDrop:
		delete(all, o.Vol)
	case impl.OpSnap:
		all[o.To] = maps.Clone(all[o.Vol])
	case impl.OpUnlink:
		delete(all[o.Vol], o.File)
	case impl.OpWrite:
		all[o.Vol][o.File] = laidText(all[o.Vol][o.File], int(o.At), o.Data)
	case impl.OpPunch:
		all[o.Vol][o.File] = laidText(all[o.Vol][o.File], int(o.At), strings.Repeat("\x00", int(o.Len)))
	case impl.OpCut:
		all[o.Vol][o.File] = (all[o.Vol][o.File] + strings.Repeat("\x00", 100))[:o.Len]
	case impl.OpCopy:
		all[o.To][o.Into] = laidText(all[o.To][o.Into], int(o.At), all[o.Vol][o.File][o.From:o.From+o.Len])
	}
}

// checkPromise6 holds what Done told against the promise's words, one by one.
func checkPromise6(t *testing.T, p impl.Pool, o impl.Op, q impl.Pool, code int64) {
	t.Helper()
	what := fmt.Sprintf("%+v\n%+v", p, o)
	if !impl.PoolOk(q) {
		t.Fatalf("%s: not a right pool: %+v", what, q)
	}
	if code != impl.PlDone {
		if !samePool(p, q) {
			t.Fatalf("%s: refused with %d, but another pool: %+v", what, code, q)
		}
		return
	}
	texts := textsOf(t, p)
	changeTexts(texts, o)
	if got := textsOf(t, q); !reflect.DeepEqual(got, texts) {
		t.Fatalf("%s: texts %q, want %q", what, got, texts)
	}
	for _, v := range p.Vols {
		if u := volAt(&q, v.Name); v.Fixed && o.Kind != impl.OpDrop && (u == nil || !u.Fixed || !reflect.DeepEqual(*u, v)) {
			t.Fatalf("%s: a fixed volume was changed: %+v", what, u)
		}
	}
	if o.Kind != impl.OpWrite && o.Kind != impl.OpFlush && !slices.Equal(p.Extents, q.Extents) {
		t.Fatalf("%s: the extents are others: %v", what, q.Extents)
	}
	if o.Kind == impl.OpWrite && impl.RoomOf(q.Size, q.Extents) != impl.RoomOf(p.Size, p.Extents)-int64(len(o.Data)) {
		t.Fatalf("%s: a write that takes not its room: %v", what, q.Extents)
	}
	if o.Kind == impl.OpFlush {
		checkFlushed(t, what, p, q)
	}
}

func checkFlushed(t *testing.T, what string, p impl.Pool, q impl.Pool) {
	t.Helper()
	if len(q.Late) != 0 || !slices.Equal(q.Refs, walkedByHand(p)) || !reflect.DeepEqual(cloned(q).Vols, cloned(p).Vols) {
		t.Fatalf("%s: flushed: %+v", what, q)
	}
	for _, e := range p.Extents {
		named := len(impl.OwnersOf(p, e.Addr)) > 0
		if slices.Contains(q.Extents, e) != named {
			t.Fatalf("%s: the extent at %d: %v", what, e.Addr, q.Extents)
		}
	}
}

// makeOp tells an op, mostly a right one that is on what is there.
func makeOp(r *rand.Rand, p impl.Pool) impl.Op {
	o := impl.Op{Kind: []int64{1, 1, 2, 2, 2, 2, 2, 3, 4, 5, 5, 5, 6, 7, 8, 9, 10, 10}[r.Intn(18)]}
	if (o.Kind == 7 || o.Kind == 8) && r.Intn(3) > 0 {
		o.Kind = 2
	}
	at := func() int64 { return []int64{0, r.Int63n(12), r.Int63n(30), r.Int63n(30), r.Int63n(101)}[r.Intn(5)] }
	for _, field := range strings.Fields(formsByHand[o.Kind]) {
		switch field {
		case "vol":
			o.Vol = someVol(r, p, o.Kind == 1)
		case "to":
			o.To = someVol(r, p, o.Kind == 6)
		case "file":
			o.File = someFile(r, p, o.Vol)
		case "into":
			o.Into = someFile(r, p, o.To)
		case "at":
			o.At = at()
		case "from":
			o.From = at() / 3
		case "len":
			o.Len = 1 + r.Int63n([]int64{3, 9, 9, 20, 100}[r.Intn(5)])
		case "cut":
			o.Len = at()
		case "data":
			o.Data = randomText(r, 1+r.Intn([]int{2, 6, 20}[r.Intn(3)]))
		}
	}
	if r.Intn(25) == 0 {
		spoilOp(r, &o)
	}
	return o
}

// someVol is mostly a volume's name, or, where it is for a new one, mostly none's.
func someVol(r *rand.Rand, p impl.Pool, fresh bool) string {
	if len(p.Vols) == 0 || r.Intn(12) == 0 || fresh && r.Intn(4) > 0 {
		return string(rune('p' + r.Intn(10)))
	}
	return p.Vols[r.Intn(len(p.Vols))].Name
}

// someFile is mostly the name of a file of that volume.
func someFile(r *rand.Rand, p impl.Pool, vol string) string {
	if v := volAt(&p, vol); v != nil && len(v.Items) > 0 && r.Intn(3) > 0 {
		return v.Items[r.Intn(len(v.Items))].Name
	}
	return []string{"a", "ab", "b", "c", "d", "e", "f"}[r.Intn(7)]
}

func randomText(r *rand.Rand, n int) string {
	b := make([]byte, n)
	for i := range b {
		b[i] = byte(32 + r.Intn(95))
	}
	return string(b)
}

func spoilOp(r *rand.Rand, o *impl.Op) {
	switch r.Intn(4) {
	case 0:
		*[]*int64{&o.At, &o.From, &o.Len, &o.Kind}[r.Intn(4)] = odd[r.Intn(len(odd))]
	case 1:
		*[]*string{&o.Vol, &o.File, &o.To, &o.Into}[r.Intn(4)] = []string{"", "a", "A", "abcdefghi"}[r.Intn(4)]
	case 2:
		o.Data = []string{"", "x", "\x7f", strings.Repeat("y", 21)}[r.Intn(4)]
	case 3:
		*[]*int64{&o.At, &o.From, &o.Len}[r.Intn(3)] += r.Int63n(3) - 1
	}
}

// oneStep holds one op against what is told by hand and against promise 6.
func oneStep(t *testing.T, p impl.Pool, o impl.Op) (impl.Pool, int64) {
	t.Helper()
	q, code := impl.Done(p, o)
	want, told := doneByHand(p, o)
	if code != told || !samePool(q, want) {
		t.Fatalf("%+v\n%+v: %d, want %d\n%+v, want\n%+v", p, o, code, told, q, want)
	}
	if code != impl.PlWrong {
		checkPromise6(t, p, o, q, code)
	}
	return q, code
}

// Promise 6 over long rows of ops, the pool asked behind each.
func TestLongRowsOfOps(t *testing.T) {
	r := rand.New(rand.NewSource(11))
	said := map[[2]int64]int{}
	for row := range 60 {
		p, _ := impl.PoolNew([]int64{400, 150, 40, 400}[row%4])
		for range 90 {
			o := makeOp(r, p)
			q, code := oneStep(t, p, o)
			said[[2]int64{o.Kind, code}]++
			checkAsking(t, q)
			p = q
		}
	}
	for _, want := range [][2]int64{
		{1, 0}, {1, 4}, {1, 5}, {2, 0}, {2, 3}, {2, 5}, {2, 6}, {3, 0}, {3, 3}, {3, 6}, {4, 0}, {4, 3}, {4, 6},
		{5, 0}, {5, 3}, {5, 5}, {5, 6}, {6, 0}, {6, 3}, {6, 4}, {6, 5}, {7, 0}, {7, 3}, {8, 0}, {8, 3}, {8, 6}, {9, 0}, {10, 0}, {10, 3}, {10, 5}, {10, 6},
	} {
		if said[want] < 3 {
			t.Errorf("Kind %d was answered %d only %d times: %v", want[0], want[1], said[want], said)
		}
	}
}

// Ops on pools that ops alone would not make: counts split in any way, volumes that went, names in any order.
func TestOpsOnAnyPool(t *testing.T) {
	r := rand.New(rand.NewSource(12))
	said := map[int64]int{}
	for range 1500 {
		p := makePool(r)
		if r.Intn(10) == 0 {
			spoil(r, &p)
		}
		for i := range p.Vols {
			p.Vols[i].Fixed = r.Intn(4) == 0
		}
		for range 3 {
			_, code := oneStep(t, p, makeOp(r, p))
			said[code]++
		}
	}
	for code := range int64(7) {
		if said[code] < 20 {
			t.Errorf("code %d only %d times: %v", code, said[code], said)
		}
	}
}

// OpOk of ops of any form, against that by hand.
func TestOpOkOfOddOnes(t *testing.T) {
	r := rand.New(rand.NewSource(13))
	said := map[bool]int{}
	p := somePool()
	for range 40000 {
		o := makeOp(r, p)
		for range r.Intn(3) {
			spoilOp(r, &o)
		}
		if got := impl.OpOk(o); got != opByHand(o) {
			t.Fatalf("%+v: %v", o, got)
		}
		said[impl.OpOk(o)]++
	}
	if said[true] < 5000 || said[false] < 5000 {
		t.Errorf("too few of one kind: %v", said)
	}
}

// DoneAll is Done one by one.
func TestDoneAllIsDoneOneByOne(t *testing.T) {
	r := rand.New(rand.NewSource(14))
	for range 40 {
		first, _ := impl.PoolNew(1 + r.Int63n(400))
		p := first
		var ops []impl.Op
		var codes []int64
		for range r.Intn(101) {
			o := makeOp(r, p)
			q, code := impl.Done(p, o)
			ops, codes, p = append(ops, o), append(codes, code), q
		}
		if q, told := impl.DoneAll(first, ops); !samePool(q, p) || !slices.Equal(told, codes) {
			t.Fatalf("%+v: %v, want %v\n%+v, want\n%+v", ops, told, codes, q, p)
		}
		at := r.Intn(len(ops) + 1)
		half, one := impl.DoneAll(first, ops[:at])
		q, two := impl.DoneAll(half, ops[at:])
		if !samePool(q, p) || !slices.Equal(append(one, two...), codes) {
			t.Fatalf("%+v in two pieces at %d: %v %v, want %v", ops, at, one, two, codes)
		}
	}
}
