package tests

import (
	"fmt"
	"math"
	"reflect"
	"slices"
	"strings"
	"testing"

	"loop.example/g00336/impl"
)

func dkAppend(name string, data string) impl.DOp {
	return impl.DOp{Kind: impl.DkAppend, Name: name, Data: data}
}

func dkRename(name string, to string) impl.DOp {
	return impl.DOp{Kind: impl.DkRename, Name: name, To: to}
}

func dkRemove(name string) impl.DOp { return impl.DOp{Kind: impl.DkRemove, Name: name} }

// fs are files, told as name, data, name, data ..
func fs(texts ...string) []impl.File {
	var l []impl.File
	for i := 0; i+1 < len(texts); i += 2 {
		l = append(l, impl.File{Name: texts[i], Data: texts[i+1]})
	}
	return l
}

// syncedDisk is a disk with these files and no ops.
func syncedDisk(texts ...string) impl.Disk {
	return impl.Disk{Live: fs(texts...), Safe: fs(texts...)}
}

// fullDisk is a disk with n files f10, f11 .., which have size bytes together, the first one nearly all of them.
func fullDisk(t *testing.T, n int, size int) impl.Disk {
	t.Helper()
	d := impl.Disk{}
	for i := range n {
		f := impl.File{Name: fmt.Sprint("f", 10+i), Data: "x"}
		if i == 0 {
			f.Data = strings.Repeat("x", size-n+1)
		}
		d.Live, d.Safe = append(d.Live, f), append(d.Safe, f)
	}
	if !impl.DiskOk(d) {
		t.Fatalf("%d files of %d bytes: not right", n, size)
	}
	return d
}

// doAllOn does ops that are none of them refused.
func doAllOn(t *testing.T, d impl.Disk, l ...impl.DOp) impl.Disk {
	t.Helper()
	for _, op := range l {
		e, code := impl.Do(d, op)
		if code != impl.DkOk {
			t.Fatalf("%.100v: %d", op, code)
		}
		d = e
	}
	return d
}

// does fails unless the op has that code, and, if it is refused, the disk is as it was.
func does(t *testing.T, what string, d impl.Disk, op impl.DOp, code int64) {
	t.Helper()
	e, got := impl.Do(d, op)
	if got != code {
		t.Errorf("%s: %.100v: %d, want %d", what, op, got, code)
	}
	if got != impl.DkOk && !sameDisk(e, d) {
		t.Errorf("%s: %.100v: refused with %d, but another disk: %s", what, op, got, short(e))
	}
	if got == impl.DkOk && (!impl.DiskOk(e) || !slices.Equal(e.Safe, d.Safe) || !slices.Equal(e.Ops, append(slices.Clone(d.Ops), op))) {
		t.Errorf("%s: %.100v: %s", what, op, short(e))
	}
}

// allRefuse fails unless each function gives its one fixed answer at a disk that is not right.
func allRefuse(t *testing.T, what string, d impl.Disk) {
	t.Helper()
	zero := impl.Disk{}
	if impl.DiskOk(d) {
		t.Errorf("%s: accepted", what)
	}
	for _, op := range []impl.DOp{dkAppend("a", "x"), dkRemove("a"), dkRename("a", "b"), dkRemove("none"), {}, {Kind: 9, Name: "a"}} {
		if e, code := impl.Do(d, op); code != impl.DkDisk || !reflect.DeepEqual(e, zero) {
			t.Errorf("%s: Do %+v: %s %d", what, op, short(e), code)
		}
	}
	if e := impl.Sync(d); !reflect.DeepEqual(e, zero) {
		t.Errorf("%s: Sync: %s", what, short(e))
	}
	if e, ok := impl.Crash(d, nil, 0); ok || !reflect.DeepEqual(e, zero) {
		t.Errorf("%s: Crash: %s %v", what, short(e), ok)
	}
	for _, name := range []string{"a", "b", "none", ""} {
		if s, ok := impl.ReadFile(d, name); ok || s != "" {
			t.Errorf("%s: ReadFile %q: %q %v", what, name, s, ok)
		}
		if e, code := impl.Replace(d, name, "x"); code != impl.DkDisk || !reflect.DeepEqual(e, zero) {
			t.Errorf("%s: Replace %q: %s %d", what, name, short(e), code)
		}
	}
}

type diskCase struct {
	name string
	d    impl.Disk
}

func long(n int) string { return strings.Repeat("n", n) }

// manyFiles are n files without data.
func manyFiles(n int) []impl.File {
	var l []impl.File
	for i := range n {
		l = append(l, impl.File{Name: fmt.Sprint("f", 10+i)})
	}
	return l
}

// with is a disk whose Safe and Live are told, and Ops.
func with(safe []impl.File, live []impl.File, ops ...impl.DOp) impl.Disk {
	return impl.Disk{Live: live, Safe: safe, Ops: ops}
}

func rightDisks() []diskCase {
	x := strings.Repeat("x", impl.DkBytes)
	return []diskCase{
		{"the zero value", impl.Disk{}},
		{"empty lists", impl.Disk{Live: []impl.File{}, Safe: []impl.File{}, Ops: []impl.DOp{}}},
		{"synced", syncedDisk("a", "1", "ab", "", "b", "22")},
		{"names of 1 and of 100 bytes", syncedDisk("a", "1", long(100), "2")},
		{"names of any bytes", syncedDisk("\x00", "1", "\x00\x00", "", "\n", "2", " ", "\x00\xff", "é", "3", "\xff", "4")},
		{"a name that is the beginning of another one", syncedDisk("a", "", "aa", "", "aaa", "")},
		{"DkFiles", with(manyFiles(60), manyFiles(60))},
		{"DkBytes in one", syncedDisk("a", x)},
		{"DkBytes in three", syncedDisk("a", x[:100000], "b", x[:99999], "c", "y")},
		{"DkBytes, and long names", syncedDisk("a", x, long(100), "")},
		{"DkMost ops", with(nil, fs("a", x[:200]), slices.Repeat([]impl.DOp{dkAppend("a", "x")}, 200)...)},
		{"one append", with(nil, fs("a", "x"), dkAppend("a", "x"))},
		{"an append of nothing to none", with(nil, fs("a", ""), dkAppend("a", ""))},
		{"an append of nothing to a file", with(fs("a", "x"), fs("a", "x"), dkAppend("a", ""))},
		{"appends", with(fs("a", "12"), fs("a", "123456", "b", "7"), dkAppend("a", "3"), dkAppend("b", "7"), dkAppend("a", "456"))},
		{"appends to two that are not in order", with(nil, fs("a", "1", "b", "2"), dkAppend("b", "2"), dkAppend("a", "1"))},
		{"a rename", with(fs("a", "1"), fs("b", "1"), dkRename("a", "b"))},
		{"a rename onto a file", with(fs("a", "1", "b", "2"), fs("b", "1"), dkRename("a", "b"))},
		{"a rename onto itself", with(fs("a", "1", "b", "2"), fs("a", "1", "b", "2"), dkRename("a", "a"))},
		{"two renames that change nothing", with(fs("a", "1"), fs("a", "1"), dkRename("a", "b"), dkRename("b", "a"))},
		{"three that change places", with(fs("a", "1", "b", "2"), fs("a", "2", "b", "1"), dkRename("a", "c"), dkRename("b", "a"), dkRename("c", "b"))},
		{"a remove", with(fs("a", "1"), nil, dkRemove("a"))},
		{"a remove of what was renamed", with(fs("a", "1", "b", "2"), nil, dkRename("a", "b"), dkRemove("b"))},
		{"a remove, and an append", with(fs("a", "1"), fs("a", "2"), dkRemove("a"), dkAppend("a", "2"))},
		{"a rename, and an append to what was", with(fs("a", "1"), fs("a", "2", "b", "1"), dkRename("a", "b"), dkAppend("a", "2"))},
		{"an append to a name of 100 bytes", with(nil, fs(long(100), "1"), dkAppend(long(100), "1"))},
		{"a rename to a name of 100 bytes", with(fs("a", "1"), fs(long(100), "1"), dkRename("a", long(100)))},
		{"DkFiles in between", with(manyFiles(59), manyFiles(59), dkAppend("a", ""), dkRemove("a"))},
		{"a rename at DkFiles", with(manyFiles(60), append(fs("a", ""), manyFiles(60)[1:]...), dkRename("f10", "a"))},
		{"DkBytes in between", with(fs("a", "1"), fs("a", "1"), dkAppend("b", x[1:]), dkRemove("b"))},
		{"a rename at DkBytes", with(fs("a", x), fs("b", x), dkRename("a", "b"))},
		{"DkBytes of which some go", with(fs("a", x), fs("a", x), dkRemove("a"), dkAppend("a", x))},
	}
}

// wrongDisks are right but for one thing, which their names tell.
func wrongDisks() []diskCase {
	x := strings.Repeat("x", impl.DkBytes+1)
	l := []diskCase{
		{"Live with nothing done", with(nil, fs("a", "1"))},
		{"Safe with nothing done", with(fs("a", "1"), nil)},
		{"other data", with(fs("a", "1"), fs("a", "2"))},
		{"another name", with(fs("a", "1"), fs("b", "1"))},
		{"a file too many", with(fs("a", "1"), fs("a", "1", "b", "1"))},
		{"a file too few", with(fs("a", "1", "b", "1"), fs("a", "1"))},
		{"names that fall", syncedDisk("b", "1", "a", "2")},
		{"names that fall in Live", with(fs("a", "1", "b", "2"), fs("b", "2", "a", "1"))},
		{"names that fall in Safe", with(fs("b", "2", "a", "1"), fs("a", "1", "b", "2"))},
		{"names alike", syncedDisk("a", "1", "a", "1")},
		{"the last names alike", syncedDisk("a", "1", "b", "1", "b", "2")},
		{"names alike in Live", with(fs("a", "1"), fs("a", "1", "a", "1"))},
		{"a name that is the beginning of the one ahead", syncedDisk("ab", "1", "a", "1")},
		{"a name of no bytes", syncedDisk("", "1")},
		{"a name of no bytes in Live", with(fs("a", "1"), fs("", "1"), dkRename("a", ""))},
		{"a name of no bytes in Safe", with(fs("", "1"), nil, dkRemove(""))},
		{"a name of 101 bytes", syncedDisk(long(101), "1")},
		{"a name of 101 bytes in Live", with(fs("a", "1"), fs(long(101), "1"), dkRename("a", long(101)))},
		{"a name of 101 bytes in Safe", with(fs(long(101), "1"), fs("a", "1"), dkRename(long(101), "a"))},
		{"one more than DkFiles", with(manyFiles(61), manyFiles(61))},
		{"one more than DkFiles in Safe", with(manyFiles(61), manyFiles(60), dkRemove("f70"))},
		{"one more than DkFiles in Live", with(manyFiles(60), manyFiles(61), dkAppend("f70", ""))},
		{"one more than DkFiles in between", with(manyFiles(60), manyFiles(60), dkAppend("a", ""), dkRemove("a"))},
		{"one more than DkBytes", syncedDisk("a", x)},
		{"one more than DkBytes in two", syncedDisk("a", x[:100000], "b", x[:100001])},
		{"one more than DkBytes in Safe", with(fs("a", x), nil, dkRemove("a"))},
		{"one more than DkBytes in Live", with(nil, fs("a", x), dkAppend("a", x))},
		{"one more than DkBytes in between", with(fs("a", "1"), fs("a", "1"), dkAppend("b", x[1:]), dkRemove("b"))},
		{"one more than DkMost", with(nil, fs("a", x[:201]), slices.Repeat([]impl.DOp{dkAppend("a", "x")}, 201)...)},
		{"one more than DkMost that do nothing", with(fs("a", ""), fs("a", ""), slices.Repeat([]impl.DOp{dkAppend("a", "")}, 201)...)},
		{"a rename of none", with(fs("a", "1"), fs("a", "1"), dkRename("b", "c"))},
		{"a rename of none onto itself", with(fs("a", "1"), fs("a", "1"), dkRename("b", "b"))},
		{"a rename of none onto a file", with(fs("a", "1"), fs("a", "1"), dkRename("b", "a"))},
		{"a remove of none", with(fs("a", "1"), fs("a", "1"), dkRemove("b"))},
		{"a remove of what was renamed away", with(fs("a", "1"), fs("b", "1"), dkRename("a", "b"), dkRemove("a"))},
		{"a remove twice", with(fs("a", "1"), nil, dkRemove("a"), dkRemove("a"))},
		{"ops in another order", with(nil, fs("a", "12"), dkAppend("a", "2"), dkAppend("a", "1"))},
		{"a rename onto a file that is still there", with(fs("a", "1", "b", "2"), fs("a", "1", "b", "1"), dkRename("a", "b"))},
		{"an append at the beginning", with(fs("a", "1"), fs("a", "21"), dkAppend("a", "2"))},
		{"an append that makes a file anew", with(fs("a", "1"), fs("a", "2"), dkAppend("a", "2"))},
		{"an append that is not seen", with(fs("a", "1"), fs("a", "1"), dkAppend("a", "2"))},
		{"an append of nothing that leaves no file", with(nil, nil, dkAppend("a", ""))},
		{"an append with a To", with(nil, fs("a", "1"), impl.DOp{Kind: impl.DkAppend, Name: "a", To: "b", Data: "1"})},
		{"an append to a name of no bytes", with(nil, nil, dkAppend("", ""))},
		{"an append to a name of 101 bytes", with(nil, nil, dkAppend(long(101), "x"), dkRemove(long(101)))},
		{"a rename with Data", with(fs("a", "1"), fs("b", "1"), impl.DOp{Kind: impl.DkRename, Name: "a", To: "b", Data: "1"})},
		{"a rename without a To", with(fs("a", "1"), nil, dkRename("a", ""))},
		{"a rename to 101 bytes and back", with(fs("a", "1"), fs("a", "1"), dkRename("a", long(101)), dkRename(long(101), "a"))},
		{"a remove with a To", with(fs("a", "1"), nil, impl.DOp{Kind: impl.DkRemove, Name: "a", To: "b"})},
		{"a remove with Data", with(fs("a", "1"), nil, impl.DOp{Kind: impl.DkRemove, Name: "a", Data: "1"})},
		{"an op of no Kind", with(fs("a", "1"), fs("a", "1"), impl.DOp{})},
		{"an op of no Kind behind one", with(nil, fs("a", "1"), dkAppend("a", "1"), impl.DOp{Name: "a"})},
	}
	for _, kind := range append(slices.Clone(odd), 4, 5, 1<<32+1, 1<<32+3) {
		if kind < 1 || kind > 3 {
			l = append(l, diskCase{fmt.Sprint("Kind ", kind), with(fs("a", "1"), fs("a", "1"), impl.DOp{Kind: kind, Name: "a"})})
		}
	}
	return l
}

func TestDiskOk(t *testing.T) {
	for _, c := range rightDisks() {
		if !impl.DiskOk(c.d) {
			t.Errorf("%s: refused", c.name)
			continue
		}
		checkPromise8(t, c.d)
		checkSeen(t, c.d)
	}
	for _, c := range wrongDisks() {
		allRefuse(t, c.name, c.d)
	}
}

func TestDo(t *testing.T) {
	d := syncedDisk("a", "12", "c", "3")
	for _, c := range []struct {
		op   impl.DOp
		live []impl.File
	}{
		{dkAppend("a", "xy"), fs("a", "12xy", "c", "3")},
		{dkAppend("a", ""), fs("a", "12", "c", "3")},
		{dkAppend("b", "xy"), fs("a", "12", "b", "xy", "c", "3")},
		{dkAppend("b", ""), fs("a", "12", "b", "", "c", "3")},
		{dkAppend("A", "\x00\n"), fs("A", "\x00\n", "a", "12", "c", "3")},
		{dkAppend("d", "x"), fs("a", "12", "c", "3", "d", "x")},
		{dkRename("a", "b"), fs("b", "12", "c", "3")},
		{dkRename("a", "d"), fs("c", "3", "d", "12")},
		{dkRename("c", "A"), fs("A", "3", "a", "12")},
		{dkRename("a", "c"), fs("c", "12")},
		{dkRename("c", "a"), fs("a", "3")},
		{dkRename("a", "a"), fs("a", "12", "c", "3")},
		{dkRemove("a"), fs("c", "3")},
		{dkRemove("c"), fs("a", "12")},
	} {
		e, code := checkDo(t, d, c.op)
		if code != impl.DkOk || !sameDisk(e, impl.Disk{Live: c.live, Safe: d.Safe, Ops: []impl.DOp{c.op}}) {
			t.Errorf("%+v: %+v %d", c.op, e, code)
		}
	}
	for _, op := range []impl.DOp{dkRename("b", "a"), dkRename("b", "b"), dkRename("b", "d"), dkRemove("b"), dkRemove("A"), dkRemove(long(100))} {
		does(t, "none", d, op, impl.DkNone)
	}
}

// What was renamed is found by its new name alone, and what is gone by none.
func TestRenamesAndRemoves(t *testing.T) {
	d := doAllOn(t, syncedDisk("a", "1", "b", "2"), dkRename("a", "b"))
	does(t, "renamed away", d, dkRemove("a"), impl.DkNone)
	does(t, "renamed away", d, dkRename("a", "c"), impl.DkNone)
	does(t, "renamed", d, dkRemove("b"), impl.DkOk)
	d = doAllOn(t, d, dkRemove("b"))
	if len(d.Live) != 0 || len(d.Ops) != 2 || !slices.Equal(d.Safe, fs("a", "1", "b", "2")) {
		t.Errorf("%+v", d)
	}
	does(t, "removed", d, dkRemove("b"), impl.DkNone)
	d = doAllOn(t, d, dkAppend("a", "new"), dkRename("a", "a"), dkRename("a", "b"), dkAppend("b", "er"))
	if !slices.Equal(d.Live, fs("b", "newer")) {
		t.Errorf("%+v", d)
	}
	checkPromise8(t, d)
}

func TestNamesOfOps(t *testing.T) {
	d := syncedDisk("a", "1", "n", "2", long(100), "3")
	for _, name := range []string{"a", "n", long(100), "\x00", strings.Repeat("\xff", 100)} {
		does(t, "name", d, dkAppend(name, "x"), impl.DkOk)
		does(t, "to", d, dkRename("a", name), impl.DkOk)
	}
	does(t, "100 bytes", d, dkRename(long(100), "b"), impl.DkOk)
	does(t, "100 bytes", d, dkRemove(long(100)), impl.DkOk)
	for _, name := range []string{"", long(101), strings.Repeat("n", 300000)} {
		does(t, "name", d, dkAppend(name, "x"), impl.DkForm)
		does(t, "name", d, dkRemove(name), impl.DkForm)
		does(t, "name", d, dkRename(name, "b"), impl.DkForm)
		does(t, "to", d, dkRename("a", name), impl.DkForm)
	}
	for _, kind := range append(slices.Clone(odd), 4, 5, 1<<32+1, 1<<32+2, 1<<32+3) {
		if kind < 1 || kind > 3 {
			does(t, "kind", d, impl.DOp{Kind: kind, Name: "a"}, impl.DkForm)
			does(t, "kind", d, impl.DOp{Kind: kind, Name: "a", To: "b", Data: "x"}, impl.DkForm)
		}
	}
	does(t, "a To", d, impl.DOp{Kind: impl.DkAppend, Name: "a", To: "b", Data: "x"}, impl.DkForm)
	does(t, "a To", d, impl.DOp{Kind: impl.DkRemove, Name: "a", To: "a"}, impl.DkForm)
	does(t, "Data", d, impl.DOp{Kind: impl.DkRemove, Name: "a", Data: "1"}, impl.DkForm)
	does(t, "Data", d, impl.DOp{Kind: impl.DkRename, Name: "a", To: "b", Data: "1"}, impl.DkForm)
	does(t, "nothing", d, impl.DOp{}, impl.DkForm)
}

// Inputs at which more than one refusal holds.
func TestWhichRefusalOfDoComesFirst(t *testing.T) {
	full := impl.Sync(fullDisk(t, 60, impl.DkBytes))
	most := doAllOn(t, syncedDisk("a", "1"), slices.Repeat([]impl.DOp{dkAppend("a", "")}, 200)...)
	for what, d := range map[string]impl.Disk{"full": full, "most": most} {
		does(t, what, d, impl.DOp{Kind: 4, Name: "none"}, impl.DkForm)
		does(t, what, d, dkAppend("", "x"), impl.DkForm)
		does(t, what, d, dkAppend(long(101), "x"), impl.DkForm)
		does(t, what, d, impl.DOp{Kind: impl.DkAppend, Name: "b", To: "c", Data: "x"}, impl.DkForm)
		does(t, what, d, impl.DOp{Kind: impl.DkRemove, Name: "none", Data: "x"}, impl.DkForm)
		does(t, what, d, impl.DOp{Kind: impl.DkRename, Name: "none", To: "b", Data: "x"}, impl.DkForm)
		does(t, what, d, dkRename("none", ""), impl.DkForm)
		does(t, what, d, dkRename("none", "b"), impl.DkNone)
		does(t, what, d, dkRemove("none"), impl.DkNone)
		does(t, what, d, dkAppend("none", "x"), impl.DkFull)
	}
	does(t, "most", most, dkAppend("a", ""), impl.DkFull)
	does(t, "most", most, dkRename("a", "a"), impl.DkFull)
	does(t, "most", most, dkRename("a", "b"), impl.DkFull)
	does(t, "most", most, dkRemove("a"), impl.DkFull)
	does(t, "full", full, dkAppend("f10", ""), impl.DkOk)
	does(t, "full", full, dkAppend("f10", "x"), impl.DkFull)
	does(t, "full", full, dkAppend("none", ""), impl.DkFull)
	does(t, "full", full, dkRename("f10", "none"), impl.DkOk)
	does(t, "full", full, dkRename("f10", "f11"), impl.DkOk)
	does(t, "full", full, dkRemove("f69"), impl.DkOk)
}

func TestDkFilesAndDkBytesAndDkMost(t *testing.T) {
	d := impl.Sync(fullDisk(t, 59, 59))
	does(t, "one more file", d, dkAppend("a", "x"), impl.DkOk)
	d = doAllOn(t, d, dkAppend("a", "x"))
	does(t, "one too many", d, dkAppend("b", ""), impl.DkFull)
	d = doAllOn(t, d, dkRename("a", "f10"))
	does(t, "one fewer", d, dkAppend("b", ""), impl.DkOk)

	d = syncedDisk("a", strings.Repeat("x", 150000))
	does(t, "all bytes", d, dkAppend("a", strings.Repeat("y", 50000)), impl.DkOk)
	does(t, "all bytes", d, dkAppend("b", strings.Repeat("y", 50000)), impl.DkOk)
	does(t, "one too many", d, dkAppend("a", strings.Repeat("y", 50001)), impl.DkFull)
	does(t, "one too many", d, dkAppend("b", strings.Repeat("y", 50001)), impl.DkFull)
	does(t, "far too many", d, dkAppend("b", strings.Repeat("y", 1000000)), impl.DkFull)
	does(t, "all at once", impl.Disk{}, dkAppend("b", strings.Repeat("y", 200000)), impl.DkOk)
	does(t, "one too many at once", impl.Disk{}, dkAppend("b", strings.Repeat("y", 200001)), impl.DkFull)

	d = doAllOn(t, impl.Disk{}, slices.Repeat([]impl.DOp{dkAppend("a", strings.Repeat("z", 1000))}, 199)...)
	does(t, "the last op", d, dkAppend("a", strings.Repeat("z", 1000)), impl.DkOk)
	does(t, "the last op", d, dkAppend("a", strings.Repeat("z", 1001)), impl.DkFull)
	d = doAllOn(t, d, dkAppend("a", strings.Repeat("z", 1000)))
	does(t, "one too many", d, dkAppend("a", ""), impl.DkFull)
	checkPromise8(t, d)
	does(t, "synced", impl.Sync(d), dkAppend("a", ""), impl.DkOk)
}

func TestSync(t *testing.T) {
	d := doAllOn(t, syncedDisk("a", "1"), dkAppend("b", "2"), dkRename("a", "c"))
	e := impl.Sync(d)
	if !sameDisk(e, syncedDisk("b", "2", "c", "1")) {
		t.Errorf("%+v", e)
	}
	if f := impl.Sync(e); !sameDisk(f, e) {
		t.Errorf("%+v", f)
	}
	if f := impl.Sync(impl.Disk{}); !sameDisk(f, impl.Disk{}) {
		t.Errorf("%+v", f)
	}
}

func TestReadFile(t *testing.T) {
	d := doAllOn(t, syncedDisk("a", "1", "gone", "2"), dkAppend("a", "\x00"), dkAppend("empty", ""), dkRemove("gone"), dkAppend(long(100), "x"))
	for name, want := range map[string]string{"a": "1\x00", "empty": "", long(100): "x"} {
		if s, ok := impl.ReadFile(d, name); !ok || s != want {
			t.Errorf("%q: %q %v", name, s, ok)
		}
	}
	for _, name := range []string{"", "gone", "A", "b", "a ", "emptyy", long(99), long(101)} {
		if s, ok := impl.ReadFile(d, name); ok || s != "" {
			t.Errorf("%q: %q %v", name, s, ok)
		}
	}
}

func TestCrash(t *testing.T) {
	d := doAllOn(t, syncedDisk("a", "12", "b", "3"), dkAppend("a", "456"), dkRename("a", "c"), dkAppend("c", "78"), dkRemove("b"), dkAppend("n", "90"))
	for _, c := range []struct {
		keep []int64
		torn int64
		want []impl.File
	}{
		{nil, 0, fs("a", "12", "b", "3")},
		{nil, 9, fs("a", "12", "b", "3")},
		{[]int64{}, math.MaxInt64, fs("a", "12", "b", "3")},
		{[]int64{0}, 0, fs("a", "12", "b", "3")},
		{[]int64{0}, 1, fs("a", "124", "b", "3")},
		{[]int64{0}, 3, fs("a", "12456", "b", "3")},
		{[]int64{0}, 4, fs("a", "12456", "b", "3")},
		{[]int64{0}, math.MaxInt64, fs("a", "12456", "b", "3")},
		{[]int64{1}, 0, fs("b", "3", "c", "12")},
		{[]int64{0, 1}, 0, fs("b", "3", "c", "12456")},
		{[]int64{2}, 0, fs("a", "12", "b", "3", "c", "")},
		{[]int64{2}, 1, fs("a", "12", "b", "3", "c", "7")},
		{[]int64{0, 2}, 0, fs("a", "12456", "b", "3", "c", "")},
		{[]int64{1, 2}, 2, fs("b", "3", "c", "1278")},
		{[]int64{3}, 0, fs("a", "12")},
		{[]int64{2, 3}, 0, fs("a", "12", "c", "78")},
		{[]int64{4}, 0, fs("a", "12", "b", "3", "n", "")},
		{[]int64{0, 4}, 1, fs("a", "12456", "b", "3", "n", "9")},
		{[]int64{0, 1, 2, 3, 4}, 1, fs("c", "1245678", "n", "9")},
		{[]int64{0, 1, 2, 3, 4}, 2, fs("c", "1245678", "n", "90")},
	} {
		e, ok := impl.Crash(d, c.keep, c.torn)
		if !ok || !sameDisk(e, impl.Disk{Live: c.want, Safe: c.want}) {
			t.Errorf("%v %d: %+v %v", c.keep, c.torn, e, ok)
		}
		checkCrash(t, d, c.keep, c.torn)
	}
	for _, keep := range [][]int64{{5}, {-1}, {0, 0}, {1, 0}, {0, 1, 1}, {0, 1, 2, 3, 4, 5}, {4, 3}, {0, 2, 1}, {math.MinInt64}, {math.MaxInt64}, {-1, 0}, {0, math.MaxInt64}, {0, math.MinInt64}, {math.MaxInt64, math.MinInt64}, {1 << 32}} {
		if e, ok := impl.Crash(d, keep, 0); ok || !reflect.DeepEqual(e, impl.Disk{}) {
			t.Errorf("%v: %+v %v", keep, e, ok)
		}
	}
	for _, torn := range []int64{-1, math.MinInt64, math.MinInt64 + 1} {
		for _, keep := range [][]int64{nil, {0}, {1}, allPlaces(5)} {
			if e, ok := impl.Crash(d, keep, torn); ok || !reflect.DeepEqual(e, impl.Disk{}) {
				t.Errorf("%v %d: %+v %v", keep, torn, e, ok)
			}
		}
	}
	if e, ok := impl.Crash(impl.Disk{}, []int64{0}, 0); ok || !reflect.DeepEqual(e, impl.Disk{}) {
		t.Errorf("a place of no ops: %+v %v", e, ok)
	}
	if e, ok := impl.Crash(impl.Disk{}, nil, 0); !ok || !sameDisk(e, impl.Disk{}) {
		t.Errorf("a disk of nothing: %+v %v", e, ok)
	}
}

// Ops that find no file do nothing: what was there ahead of them is there behind.
func TestCrashFindsNoFile(t *testing.T) {
	d := doAllOn(t, syncedDisk("z", "9"), dkAppend("a", "1"), dkRename("a", "z"), dkAppend("a", "2"), dkRemove("a"), dkRename("z", "y"), dkRemove("y"))
	for _, c := range []struct {
		keep []int64
		want []impl.File
	}{
		{[]int64{1}, fs("z", "9")},
		{[]int64{3}, fs("z", "9")},
		{[]int64{5}, fs("z", "9")},
		{[]int64{1, 3, 5}, fs("z", "9")},
		{[]int64{1, 2}, fs("a", "2", "z", "9")},
		{[]int64{1, 4}, fs("y", "9")},
		{[]int64{1, 4, 5}, nil},
		{[]int64{0, 1}, fs("z", "1")},
		{[]int64{0, 3}, fs("z", "9")},
		{[]int64{0, 2}, fs("a", "12", "z", "9")},
	} {
		e, ok := impl.Crash(d, c.keep, 9)
		if !ok || !sameDisk(e, impl.Disk{Live: c.want, Safe: c.want}) {
			t.Errorf("%v: %+v %v", c.keep, e, ok)
		}
	}
}

// Too much in between is no matter, too much at the end is.
func TestCrashesWithTooMuch(t *testing.T) {
	files := doAllOn(t, impl.Sync(fullDisk(t, 60, 60)), dkRemove("f10"), dkAppend("a", "xy"), dkRemove("f11"), dkAppend("b", ""), dkRename("b", "f12"))
	bytes := doAllOn(t, syncedDisk("a", strings.Repeat("x", 200000)), dkRemove("a"), dkAppend("b", "1234"), dkRename("b", "c"), dkRemove("c"), dkAppend("d", strings.Repeat("y", 200000)), dkRemove("d"))
	for _, c := range []struct {
		d    impl.Disk
		keep []int64
		torn int64
		ok   bool
	}{
		{files, []int64{1}, 9, false},
		{files, []int64{1}, 0, false},
		{files, []int64{1, 2}, 0, true},
		{files, []int64{1, 3}, 0, false},
		{files, []int64{1, 2, 3}, 0, false},
		{files, []int64{1, 2, 3, 4}, 0, true},
		{files, []int64{3}, 0, false},
		{files, []int64{3, 4}, 0, true},
		{files, []int64{1, 3, 4}, 0, false},
		{files, []int64{0, 1, 2, 3, 4}, 0, true},
		{bytes, []int64{1}, 0, true},
		{bytes, []int64{1}, 1, false},
		{bytes, []int64{1}, 4, false},
		{bytes, []int64{1, 2}, 0, false},
		{bytes, []int64{1, 3}, 0, false},
		{bytes, []int64{1, 2, 3}, 0, true},
		{bytes, []int64{4}, 200000, false},
		{bytes, []int64{4}, 1, false},
		{bytes, []int64{4}, 0, true},
		{bytes, []int64{4, 5}, 0, true},
		{bytes, []int64{1, 2, 3, 4, 5}, 0, true},
		{bytes, []int64{1, 4, 5}, 0, false},
		{bytes, []int64{0, 4}, 200000, true},
		{bytes, []int64{0, 1, 4}, 199996, true},
		{bytes, []int64{0, 1, 4}, 199997, false},
	} {
		if got := checkCrash(t, c.d, c.keep, c.torn); got != c.ok {
			t.Errorf("%v %d: %v", c.keep, c.torn, got)
		}
	}
}

// replaces fails unless Replace has that code, and, if it is refused, the disk is as it was.
func replaces(t *testing.T, what string, d impl.Disk, name string, data string, code int64) impl.Disk {
	t.Helper()
	e, got := impl.Replace(d, name, data)
	want, told := replaceByHand(d, name, data)
	if got != code || told != code || !sameDisk(e, want) {
		t.Errorf("%s: %.50q: %d, by hand %d, want %d: %s", what, name, got, told, code, short(e))
	}
	if got != impl.DkOk && !sameDisk(e, d) {
		t.Errorf("%s: %.50q: refused with %d, but another disk: %s", what, name, got, short(e))
	}
	if s, ok := impl.ReadFile(e, name); got == impl.DkOk && (!ok || s != data) {
		t.Errorf("%s: %.50q: %.50q %v", what, name, s, ok)
	}
	return e
}

func TestReplace(t *testing.T) {
	d := syncedDisk("a", "old", "b", "2", "b.new", "half", "c.new", "3")
	for _, c := range []struct {
		name, data string
		live       []impl.File
		ops        []impl.DOp
	}{
		{"a", "newer", fs("a", "newer", "b", "2", "b.new", "half", "c.new", "3"), []impl.DOp{dkAppend("a.new", "newer"), dkRename("a.new", "a")}},
		{"a", "", fs("a", "", "b", "2", "b.new", "half", "c.new", "3"), []impl.DOp{dkAppend("a.new", ""), dkRename("a.new", "a")}},
		{"x", "1", fs("a", "old", "b", "2", "b.new", "half", "c.new", "3", "x", "1"), []impl.DOp{dkAppend("x.new", "1"), dkRename("x.new", "x")}},
		{"b", "1", fs("a", "old", "b", "1", "c.new", "3"), []impl.DOp{dkRemove("b.new"), dkAppend("b.new", "1"), dkRename("b.new", "b")}},
		{"c", "1", fs("a", "old", "b", "2", "b.new", "half", "c", "1"), []impl.DOp{dkRemove("c.new"), dkAppend("c.new", "1"), dkRename("c.new", "c")}},
		{"b.new", "1", fs("a", "old", "b", "2", "b.new", "1", "c.new", "3"), []impl.DOp{dkAppend("b.new.new", "1"), dkRename("b.new.new", "b.new")}},
		{".new", "1", fs(".new", "1", "a", "old", "b", "2", "b.new", "half", "c.new", "3"), []impl.DOp{dkAppend(".new.new", "1"), dkRename(".new.new", ".new")}},
	} {
		e := replaces(t, "some", d, c.name, c.data, impl.DkOk)
		if !sameDisk(e, impl.Disk{Live: c.live, Safe: d.Safe, Ops: c.ops}) {
			t.Errorf("%q: %+v", c.name, e)
		}
		checkPromise8(t, e)
	}
	// Ops that were done stay ahead of those of Replace.
	d = doAllOn(t, d, dkAppend("a", "er"))
	e := replaces(t, "behind an op", d, "a", "x", impl.DkOk)
	if len(e.Ops) != 3 || e.Ops[0] != d.Ops[0] {
		t.Errorf("%+v", e)
	}
}

func TestReplaceIsRefused(t *testing.T) {
	d := syncedDisk(".new", "1", "a", "old", long(96), "2", long(97), "3")
	replaces(t, "96 bytes", d, long(96), "x", impl.DkOk)
	replaces(t, "1 byte", d, "a", "x", impl.DkOk)
	for _, n := range []int{97, 98, 99, 100, 101, 300000} {
		replaces(t, "a long name", d, long(n), "x", impl.DkForm)
	}
	replaces(t, "no name", d, "", "x", impl.DkForm)
	replaces(t, "no name, no .new", syncedDisk("a", "1"), "", "x", impl.DkForm)
	replaces(t, "no name, nothing", impl.Disk{}, "", "", impl.DkForm)

	bytes := syncedDisk("a", strings.Repeat("x", 150000), "b.new", "1234")
	replaces(t, "all bytes", bytes, "a", strings.Repeat("y", 49996), impl.DkOk)
	replaces(t, "one too many", bytes, "a", strings.Repeat("y", 49997), impl.DkFull)
	replaces(t, "all bytes", bytes, "b", strings.Repeat("y", 50000), impl.DkOk)
	replaces(t, "one too many", bytes, "b", strings.Repeat("y", 50001), impl.DkFull)

	full := impl.Sync(fullDisk(t, 60, 60))
	replaces(t, "no file more", full, "f10", "x", impl.DkFull)
	replaces(t, "no file more", full, "a", "x", impl.DkFull)
	replaces(t, "one is .new", doAllOn(t, full, dkRename("f11", "f10.new")), "f10", "x", impl.DkOk)
	replaces(t, "one is .new", doAllOn(t, full, dkRename("f11", "a.new")), "a", "x", impl.DkOk)
	replaces(t, "one file more", impl.Sync(fullDisk(t, 59, 59)), "a", "x", impl.DkOk)

	for _, c := range []struct {
		ops        int
		name       string
		code, none int64
	}{{197, "b", impl.DkOk, impl.DkForm}, {198, "a", impl.DkOk, impl.DkForm}, {198, "b", impl.DkFull, impl.DkForm}, {199, "a", impl.DkFull, impl.DkForm}, {199, "b", impl.DkFull, impl.DkForm}, {200, "a", impl.DkFull, impl.DkFull}, {200, "b", impl.DkFull, impl.DkFull}} {
		e := doAllOn(t, syncedDisk("a", "1", "b", "2", "b.new", "3"), slices.Repeat([]impl.DOp{dkAppend("a", "")}, c.ops)...)
		replaces(t, fmt.Sprint(c.ops, " ops"), e, c.name, "x", c.code)
		// A long name is no name for the first step; a name of none is none only for the last.
		replaces(t, fmt.Sprint(c.ops, " ops"), e, long(97), "x", impl.DkForm)
		replaces(t, fmt.Sprint(c.ops, " ops"), e, "", "x", c.none)
	}
	replaces(t, "no name, no room", syncedDisk("a", strings.Repeat("x", 200000)), "", "x", impl.DkFull)
	replaces(t, "a long name, no room", syncedDisk("a", strings.Repeat("x", 200000)), long(97), "x", impl.DkForm)
}

// Promise 8: whichever of the ops of Replace are kept, it is the old one or the new one.
func TestReplaceAndCrash(t *testing.T) {
	for _, data := range []string{"", "n", "newer", "old", strings.Repeat("y", 1000)} {
		checkReplaced(t, impl.Disk{}, "a", data)
		checkReplaced(t, syncedDisk("a", "old"), "a", data)
		checkReplaced(t, syncedDisk("a", "", "b", "2", "b.new", "3"), "a", data)
		checkReplaced(t, syncedDisk("b", "2", "b.new", "3"), "b.new", data)
		checkReplaced(t, syncedDisk("a", "1", long(96), "old"), long(96), data)
	}
	checkReplaced(t, syncedDisk("a", strings.Repeat("x", 100000)), "a", strings.Repeat("y", 100000))
	checkReplaced(t, impl.Sync(fullDisk(t, 59, 1000)), "f10", "y")
}

var (
	fileMark = impl.File{Name: "mark", Data: "mark"}
	fileRoom = impl.File{Name: "room", Data: "room"}
	dopMark  = impl.DOp{Kind: 77, Name: "mark"}
	dopRoom  = impl.DOp{Kind: 88, Name: "room"}
)

func diskSpans(name string, d impl.Disk) []span {
	return slices.Concat(spansOf(name+".Live", d.Live), spansOf(name+".Safe", d.Safe), spansOf(name+".Ops", d.Ops))
}

func TestDisksKeepTheirArguments(t *testing.T) {
	for _, c := range append(rightDisks(), wrongDisks()...) {
		live, safe, ops := watch(c.d.Live, fileRoom), watch(c.d.Safe, fileRoom), watch(c.d.Ops, dopRoom)
		keep := watch(allPlaces(len(c.d.Ops)), 7)
		d := impl.Disk{Live: live.list, Safe: safe.list, Ops: ops.list}
		answers := [][]span{diskSpans("the argument", d), spansOf("keep", keep.list)}
		var got []impl.Disk
		take := func(what string, e impl.Disk) {
			answers = append(answers, diskSpans(what, e))
			got = append(got, e)
		}
		for _, op := range []impl.DOp{dkAppend("a", "x"), dkAppend("new", "x"), dkRename("a", "b"), dkRemove("a"), dkRemove("none"), {}} {
			e, _ := impl.Do(d, op)
			take(fmt.Sprint("Do ", op), e)
		}
		take("Sync", impl.Sync(d))
		e, _ := impl.Crash(d, keep.list, 1)
		take("Crash", e)
		e, _ = impl.Crash(d, nil, 1)
		take("Crash of none", e)
		for _, name := range []string{"a", "b", "", long(97)} {
			e, _ = impl.Replace(d, name, "y")
			take("Replace "+name, e)
		}
		impl.DiskOk(d)
		impl.ReadFile(d, "a")
		checkApart(t, c.name, answers...)
		for _, e := range got {
			fill(e.Live[:cap(e.Live)], fileMark)
			fill(e.Safe[:cap(e.Safe)], fileMark)
			fill(e.Ops[:cap(e.Ops)], dopMark)
		}
		live.check(t, c.name+" Live")
		safe.check(t, c.name+" Safe")
		ops.check(t, c.name+" Ops")
		keep.check(t, c.name+" keep")
	}
}

func TestSameDisksSameAnswers(t *testing.T) {
	for _, c := range append(rightDisks(), wrongDisks()...) {
		op := dkAppend("a", "x")
		first, code := impl.Do(c.d, op)
		replaced, said := impl.Replace(c.d, "a", "y")
		kept := [2]impl.Disk{clonedDisk(first), clonedDisk(replaced)}
		fill(first.Live, fileMark)
		fill(replaced.Ops, dopMark)
		again, codeAgain := impl.Do(c.d, op)
		replacedAgain, saidAgain := impl.Replace(c.d, "a", "y")
		if code != codeAgain || said != saidAgain || !sameDisk(again, kept[0]) || !sameDisk(replacedAgain, kept[1]) {
			t.Errorf("%s: another answer", c.name)
		}
	}
}
