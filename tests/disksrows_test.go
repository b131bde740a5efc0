package tests

import (
	"fmt"
	"maps"
	"math/rand"
	"reflect"
	"slices"
	"strings"
	"testing"

	"loop.example/g00336/impl"
)

// filesByHand says of a list of files whether it is as a disk's must be.
func filesByHand(l []impl.File) bool {
	size := 0
	for i, f := range l {
		if i >= 60 || len(f.Name) == 0 || len(f.Name) > 100 {
			return false
		}
		for _, g := range l[:i] {
			if g.Name >= f.Name {
				return false
			}
		}
		size += len(f.Data)
	}
	return size <= 200000
}

func formOfByHand(op impl.DOp) bool {
	name := len(op.Name) > 0 && len(op.Name) < 101
	switch op.Kind {
	case 1:
		return name && op.To == ""
	case 2:
		return name && len(op.To) > 0 && len(op.To) < 101 && op.Data == ""
	case 3:
		return name && op.To == "" && op.Data == ""
	}
	return false
}

// byNames are the files of a list as a map, which knows no order.
func byNames(l []impl.File) map[string]string {
	m := map[string]string{}
	for _, f := range l {
		m[f.Name] = f.Data
	}
	return m
}

func inOrder(m map[string]string) []impl.File {
	var l []impl.File
	for _, name := range slices.Sorted(maps.Keys(m)) {
		l = append(l, impl.File{Name: name, Data: m[name]})
	}
	return l
}

// putOn does an op of its form, and says whether it found its file.
func putOn(m map[string]string, op impl.DOp) bool {
	data, there := m[op.Name]
	if op.Kind == 1 {
		m[op.Name] = data + op.Data
		return true
	}
	delete(m, op.Name)
	if op.Kind == 2 && there {
		m[op.To] = data
	}
	return there
}

func diskByHand(d impl.Disk) bool {
	if !filesByHand(d.Live) || !filesByHand(d.Safe) || len(d.Ops) > 200 {
		return false
	}
	m := byNames(d.Safe)
	for _, op := range d.Ops {
		if !formOfByHand(op) || !putOn(m, op) || !filesByHand(inOrder(m)) {
			return false
		}
	}
	return maps.Equal(m, byNames(d.Live))
}

func doByHand(d impl.Disk, op impl.DOp) (impl.Disk, int64) {
	if !diskByHand(d) {
		return impl.Disk{}, 1
	}
	if !formOfByHand(op) {
		return d, 2
	}
	m := byNames(d.Live)
	if !putOn(m, op) {
		return d, 3
	}
	if len(d.Ops) >= 200 || !filesByHand(inOrder(m)) {
		return d, 4
	}
	return impl.Disk{Live: inOrder(m), Safe: d.Safe, Ops: append(slices.Clone(d.Ops), op)}, 0
}

func crashByHand(d impl.Disk, keep []int64, torn int64) (impl.Disk, bool) {
	if !diskByHand(d) || torn < 0 {
		return impl.Disk{}, false
	}
	for i, k := range keep {
		if k < 0 || k >= int64(len(d.Ops)) || i > 0 && keep[i-1] >= k {
			return impl.Disk{}, false
		}
	}
	m := byNames(d.Safe)
	for i, k := range keep {
		op := d.Ops[k]
		if i+1 == len(keep) && op.Kind == 1 && torn < int64(len(op.Data)) {
			op.Data = op.Data[:torn]
		}
		putOn(m, op)
	}
	if !filesByHand(inOrder(m)) {
		return impl.Disk{}, false
	}
	return impl.Disk{Live: inOrder(m), Safe: inOrder(m)}, true
}

func replaceByHand(d impl.Disk, name string, data string) (impl.Disk, int64) {
	ops := []impl.DOp{dkAppend(name+".new", data), dkRename(name+".new", name)}
	if _, there := byNames(d.Live)[name+".new"]; there {
		ops = append([]impl.DOp{dkRemove(name + ".new")}, ops...)
	}
	e := d
	for _, op := range ops {
		next, code := doByHand(e, op)
		if code == 1 {
			return impl.Disk{}, code
		}
		if code != 0 {
			return d, code
		}
		e = next
	}
	return e, 0
}

// clonedDisk is a deep copy, in which a list that is empty is nil.
func clonedDisk(d impl.Disk) impl.Disk {
	return impl.Disk{Live: append([]impl.File(nil), d.Live...), Safe: append([]impl.File(nil), d.Safe...), Ops: append([]impl.DOp(nil), d.Ops...)}
}

// sameDisk takes an empty list and nil as the same.
func sameDisk(a impl.Disk, b impl.Disk) bool {
	return slices.Equal(a.Live, b.Live) && slices.Equal(a.Safe, b.Safe) && slices.Equal(a.Ops, b.Ops)
}

// short tells a disk with long texts cut, for a message.
func short(d impl.Disk) string {
	s := fmt.Sprintf("%+v", d)
	return s[:min(len(s), 1500)]
}

// checkDo holds one op against that by hand, and against what promise 8 says of it.
func checkDo(t *testing.T, d impl.Disk, op impl.DOp) (impl.Disk, int64) {
	t.Helper()
	e, code := impl.Do(d, op)
	want, told := doByHand(d, op)
	if code != told || !sameDisk(e, want) {
		t.Fatalf("%s\n%d %.50q %.50q: %d, want %d\n%s, want\n%s", short(d), op.Kind, op.Name, op.To, code, told, short(e), short(want))
	}
	if code == impl.DkDisk && !reflect.DeepEqual(e, impl.Disk{}) {
		t.Fatalf("a disk that is not right left %s", short(e))
	}
	if code != impl.DkDisk && !impl.DiskOk(e) {
		t.Fatalf("%s\n%+v leaves no right disk: %s", short(d), op, short(e))
	}
	return e, code
}

// checkSeen asks ReadFile for all that is seen, and for names that none has.
func checkSeen(t *testing.T, d impl.Disk) {
	t.Helper()
	m := byNames(d.Live)
	for name, data := range m {
		if s, ok := impl.ReadFile(d, name); !ok || s != data {
			t.Fatalf("%.50q: %.50q %v, want %.50q", name, s, ok, data)
		}
	}
	for _, name := range []string{"", "none", strings.Repeat("x", 101)} {
		if _, there := m[name]; there {
			continue
		}
		if s, ok := impl.ReadFile(d, name); ok || s != "" {
			t.Fatalf("%.50q: %.50q %v", name, s, ok)
		}
	}
}

// checkCrash holds a crash against that by hand.
func checkCrash(t *testing.T, d impl.Disk, keep []int64, torn int64) bool {
	t.Helper()
	e, ok := impl.Crash(d, keep, torn)
	want, told := crashByHand(d, keep, torn)
	if ok != told || !sameDisk(e, want) {
		t.Fatalf("%s\n%v %d: %v, want %v\n%s, want\n%s", short(d), keep, torn, ok, told, short(e), short(want))
	}
	if ok && !impl.DiskOk(e) || !ok && !reflect.DeepEqual(e, impl.Disk{}) {
		t.Fatalf("%s\n%v %d: %s", short(d), keep, torn, short(e))
	}
	return ok
}

// allPlaces are the places of a list of n.
func allPlaces(n int) []int64 {
	var l []int64
	for i := range n {
		l = append(l, int64(i))
	}
	return l
}

// checkPromise8 says of a right disk what the promise says of its crashes and of what a sync makes of it.
func checkPromise8(t *testing.T, d impl.Disk) {
	t.Helper()
	whole := int64(impl.DkBytes)
	if e, ok := impl.Crash(d, allPlaces(len(d.Ops)), whole); !ok || !sameDisk(e, impl.Disk{Live: d.Live, Safe: d.Live}) {
		t.Fatalf("%s\nall is kept, but %s %v", short(d), short(e), ok)
	}
	for _, torn := range []int64{0, 1, whole} {
		if e, ok := impl.Crash(d, nil, torn); !ok || !sameDisk(e, impl.Disk{Live: d.Safe, Safe: d.Safe}) {
			t.Fatalf("%s\nnone is kept, but %s %v", short(d), short(e), ok)
		}
	}
	if e := impl.Sync(d); !impl.DiskOk(e) || !sameDisk(e, impl.Disk{Live: d.Live, Safe: d.Live}) {
		t.Fatalf("%s\nsynced: %s", short(d), short(e))
	}
}

// checkReplaced says whether, whichever of its ops are kept, the file is the old one or the new one. The disk is synced and has no file of that name and ".new".
func checkReplaced(t *testing.T, d impl.Disk, name string, data string) {
	t.Helper()
	e, code := impl.Replace(d, name, data)
	if code != impl.DkOk {
		t.Fatalf("%s\n%q %.50q: %d", short(d), name, data, code)
	}
	if s, ok := impl.ReadFile(e, name); !ok || s != data {
		t.Fatalf("%q: %.50q %v, want %.50q", name, s, ok, data)
	}
	old, there := impl.ReadFile(d, name)
	seen := map[bool]int{}
	for set := range 1 << len(e.Ops) {
		keep := slices.DeleteFunc(allPlaces(len(e.Ops)), func(k int64) bool { return set>>k&1 == 0 })
		for _, torn := range []int64{0, 1, int64(len(data)) / 2, int64(len(data)), int64(len(data)) + 1, 1 << 62} {
			f, ok := impl.Crash(e, keep, torn)
			s, left := impl.ReadFile(f, name)
			isOld, isNew := left == there && s == old, left && s == data
			if !ok || !isOld && !isNew {
				t.Fatalf("%s\n%q, kept %v, torn %d: %.50q %v %v, neither %.50q %v nor %.50q", short(d), name, keep, torn, s, left, ok, old, there, data)
			}
			others := byNames(f.Live)
			delete(others, name)
			delete(others, name+".new")
			before := byNames(d.Live)
			delete(before, name)
			if !maps.Equal(others, before) {
				t.Fatalf("%s\n%q, kept %v: other files are changed: %s", short(d), name, keep, short(f))
			}
			seen[isNew]++
		}
	}
	if seen[true] == 0 || old != data && seen[false] == 0 {
		t.Fatalf("%q: %v", name, seen)
	}
}

func makeName(r *rand.Rand, few int) string {
	return []string{"a", "b", "a.new", "b.new", "a.new.new", "log", "c", "\x00", "\xff\n", ".new", "d", "e", strings.Repeat("n", 96), strings.Repeat("n", 96) + ".new"}[r.Intn(few)]
}

// makeDOp tells an op, mostly one that is not refused.
func makeDOp(r *rand.Rand, d impl.Disk, most int) impl.DOp {
	name := makeName(r, 14)
	if len(d.Live) > 0 && r.Intn(2) == 0 {
		name = d.Live[r.Intn(len(d.Live))].Name
	}
	var op impl.DOp
	switch r.Intn(5) {
	case 0:
		op = dkRename(name, makeName(r, 14))
	case 1:
		op = dkRemove(name)
	default:
		op = dkAppend(name, randomText(r, r.Intn(most)))
	}
	if r.Intn(20) == 0 {
		spoilDOp(r, &op)
	}
	return op
}

func spoilDOp(r *rand.Rand, op *impl.DOp) {
	switch r.Intn(4) {
	case 0:
		op.Kind = append(slices.Clone(odd), 1, 2, 3, 4)[r.Intn(len(odd)+4)]
	case 1:
		op.Name = []string{"", strings.Repeat("n", 100), strings.Repeat("n", 101)}[r.Intn(3)]
	case 2:
		op.To = []string{"", "a", strings.Repeat("n", 100), strings.Repeat("n", 101)}[r.Intn(4)]
	case 3:
		op.Data = []string{"", "x"}[r.Intn(2)]
	}
}

// spoilDisk changes one thing, which may leave the disk right.
func spoilDisk(r *rand.Rand, d *impl.Disk) {
	file := func(f *impl.File) {
		if r.Intn(2) == 0 {
			f.Name = makeName(r, 14)
		} else {
			f.Data += "x"
		}
	}
	switch r.Intn(8) {
	case 0:
		oneOf(r, d.Live, file)
	case 1:
		oneOf(r, d.Safe, file)
	case 2:
		oneOf(r, d.Ops, func(op *impl.DOp) { spoilDOp(r, op) })
	case 3:
		d.Ops = d.Ops[:max(len(d.Ops)-1, 0)]
	case 4:
		d.Live = d.Live[:max(len(d.Live)-1, 0)]
	case 5:
		d.Safe = d.Safe[:max(len(d.Safe)-1, 0)]
	case 6:
		r.Shuffle(len(d.Ops), func(i, k int) { d.Ops[i], d.Ops[k] = d.Ops[k], d.Ops[i] })
	case 7:
		r.Shuffle(len(d.Live), func(i, k int) { d.Live[i], d.Live[k] = d.Live[k], d.Live[i] })
	}
}

// makeKeep tells places, mostly rising ones of Ops.
func makeKeep(r *rand.Rand, n int) []int64 {
	part := 1 + r.Intn(4)
	l := slices.DeleteFunc(allPlaces(n), func(int64) bool { return r.Intn(4) >= part })
	switch r.Intn(12) {
	case 0:
		l = append(l, int64(n))
	case 1:
		l = slices.Insert(l, 0, -1)
	case 2:
		l = append(l, odd[r.Intn(len(odd))])
	case 3:
		oneOf(r, l, func(k *int64) { *k += r.Int63n(3) - 1 })
	}
	return l
}

// Promise 8 over long rows of ops, the disk asked behind each, synced, crashed and replaced in between.
func TestLongRowsOfDisks(t *testing.T) {
	r := rand.New(rand.NewSource(31))
	said := map[string]int{}
	for range 60 {
		var d impl.Disk
		for range 120 {
			switch r.Intn(14) {
			case 0:
				checkPromise8(t, d)
				d = impl.Sync(d)
			case 1:
				keep, torn := makeKeep(r, len(d.Ops)), r.Int63n(12)-1
				said[fmt.Sprint("crash ", checkCrash(t, d, keep, torn))]++
				if e, ok := impl.Crash(d, keep, torn); ok {
					d = e
				}
			case 2, 3:
				name, data := makeName(r, 13), randomText(r, r.Intn(20))
				e, code := impl.Replace(d, name, data)
				want, told := replaceByHand(d, name, data)
				if code != told || !sameDisk(e, want) {
					t.Fatalf("%s\n%q: %d, want %d\n%s, want\n%s", short(d), name, code, told, short(e), short(want))
				}
				said[fmt.Sprint("replace ", code)]++
				d = e
			default:
				op := makeDOp(r, d, 12)
				e, code := checkDo(t, d, op)
				said[fmt.Sprint(op.Kind, " ", code)]++
				d = e
			}
			checkSeen(t, d)
		}
		checkPromise8(t, d)
	}
	for _, want := range []string{"crash true", "crash false", "replace 0", "1 0", "1 2", "2 0", "2 2", "2 3", "3 0", "3 2", "3 3"} {
		if said[want] < 3 {
			t.Errorf("%s only %d times: %v", want, said[want], said)
		}
	}
}

// Rows at which files, bytes and ops reach their limits.
func TestLongRowsOfFullDisks(t *testing.T) {
	r := rand.New(rand.NewSource(32))
	said := map[string]int{}
	for row := range 12 {
		d := impl.Sync(fullDisk(t, 56+r.Intn(5), 200000-r.Intn(3)*r.Intn(40)))
		if row%3 == 0 {
			d = doAllOn(t, d, slices.Repeat([]impl.DOp{dkAppend("f10", "")}, 180)...)
		}
		for range 40 {
			op := makeDOp(r, d, 30)
			if r.Intn(3) == 0 {
				op = dkRename(d.Live[r.Intn(len(d.Live))].Name, makeName(r, 14))
			}
			e, code := checkDo(t, d, op)
			said[fmt.Sprint(op.Kind, " ", code)]++
			d = e
		}
		checkPromise8(t, d)
		for range 30 {
			said[fmt.Sprint("crash ", checkCrash(t, d, makeKeep(r, len(d.Ops)), r.Int63n(40)))]++
		}
	}
	for _, want := range []string{"crash true", "crash false", "1 0", "1 4", "2 0", "2 3", "2 4", "3 0", "3 3", "3 4"} {
		if said[want] < 3 {
			t.Errorf("%s only %d times: %v", want, said[want], said)
		}
	}
}

// Disks that are spoilt, against a check by hand.
func TestDisksAgainstThoseByHand(t *testing.T) {
	r := rand.New(rand.NewSource(33))
	said := map[bool]int{}
	for i := range 6000 {
		var d impl.Disk
		for range r.Intn(14) {
			d, _ = impl.Do(d, makeDOp(r, d, 5))
			if r.Intn(8) == 0 {
				d = impl.Sync(d)
			}
		}
		for range i % 3 {
			spoilDisk(r, &d)
		}
		right := diskByHand(d)
		said[right]++
		if got := impl.DiskOk(d); got != right {
			t.Fatalf("%+v: %v, want %v", d, got, right)
		}
		if right {
			checkPromise8(t, d)
			checkSeen(t, d)
		} else {
			allRefuse(t, "spoilt", d)
		}
		checkDo(t, d, makeDOp(r, d, 5))
		for range 3 {
			checkCrash(t, d, makeKeep(r, len(d.Ops)), r.Int63n(6)-1)
		}
	}
	if said[true] < 1000 || said[false] < 1000 {
		t.Errorf("too few of one kind: %v", said)
	}
}

// Promise 8: a file that is replaced is the old one or the new one.
func TestReplacedFilesAreOldOrNew(t *testing.T) {
	r := rand.New(rand.NewSource(34))
	for range 400 {
		var d impl.Disk
		for range r.Intn(12) {
			d, _ = impl.Do(d, makeDOp(r, d, 8))
		}
		d = impl.Sync(d)
		name := makeName(r, 13)
		if _, there := impl.ReadFile(d, name+".new"); !there {
			checkReplaced(t, d, name, randomText(r, r.Intn(9)))
		}
	}
}
