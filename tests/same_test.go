package tests

import (
	"fmt"
	"go/ast"
	"go/parser"
	"go/token"
	"maps"
	"math/rand"
	"path/filepath"
	"reflect"
	"slices"
	"strings"
	"testing"

	"loop.example/g00336/impl"
)

// everyFunction are those of chapters 1 to 10.
func everyFunction() map[string]any {
	return map[string]any{
		"SpaceOk": impl.SpaceOk, "RoomOf": impl.RoomOf, "GapsOf": impl.GapsOf, "Placed": impl.Placed, "Lifted": impl.Lifted,
		"PartsOk": impl.PartsOk, "LenOf": impl.LenOf, "Slice": impl.Slice, "Joined": impl.Joined, "Laid": impl.Laid, "Content": impl.Content,
		"OwnerAhead": impl.OwnerAhead, "RefsOk": impl.RefsOk, "LateOk": impl.LateOk, "Merged": impl.Merged, "Flushed": impl.Flushed,
		"NameOk": impl.NameOk, "PoolOk": impl.PoolOk, "Walked": impl.Walked, "PoolNew": impl.PoolNew,
		"ReadAt": impl.ReadAt, "SizeOf": impl.SizeOf, "FilesOf": impl.FilesOf, "OwnersOf": impl.OwnersOf, "OnlyOf": impl.OnlyOf,
		"OpOk": impl.OpOk, "Done": impl.Done, "DoneAll": impl.DoneAll,
		"PoolText": impl.PoolText, "ReadPool": impl.ReadPool,
		"DiskOk": impl.DiskOk, "Do": impl.Do, "Sync": impl.Sync, "Crash": impl.Crash, "ReadFile": impl.ReadFile, "Replace": impl.Replace,
		"SuperText": impl.SuperText, "ReadSuper": impl.ReadSuper, "Committed": impl.Committed, "StoreNew": impl.StoreNew, "StoreOk": impl.StoreOk, "StoreDo": impl.StoreDo, "StorePlay": impl.StorePlay,
		"RunScript": impl.RunScript,
	}
}

func TestEveryFunctionIsAskedTwice(t *testing.T) {
	files, _ := filepath.Glob("../impl/*.go")
	var names []string
	for _, name := range files {
		f, err := parser.ParseFile(token.NewFileSet(), name, nil, 0)
		if err != nil {
			t.Fatal(err)
		}
		for _, d := range f.Decls {
			if x, ok := d.(*ast.FuncDecl); ok && x.Recv == nil && x.Name.IsExported() {
				names = append(names, x.Name.Name)
			}
		}
	}
	asked := slices.Sorted(maps.Keys(everyFunction()))
	if slices.Sort(names); !slices.Equal(names, asked) {
		t.Errorf("there are %q, asked twice are %q", names, asked)
	}
	called := map[string]int{}
	for _, c := range everyCall(t) {
		called[c.name]++
	}
	for _, name := range asked {
		if called[name] < 4 {
			t.Errorf("%s is called only %d times", name, called[name])
		}
	}
}

// call is one of everyFunction with its arguments.
type call struct {
	name string
	args []any
}

func everyCall(t *testing.T) []call {
	return slices.Concat(spaceCalls(), partCalls(), countCalls(), poolCalls(), opCalls(), diskCalls(t), storeCalls(t), scriptCalls())
}

func spaceCalls() []call {
	var l []call
	for _, c := range append(rightSpaces(), wrongSpaces()...) {
		l = append(l, call{"SpaceOk", []any{c.size, c.l}}, call{"RoomOf", []any{c.size, c.l}}, call{"GapsOf", []any{c.size, c.l}})
		for _, data := range []string{"x", "twelve bytes", "", "\x00"} {
			l = append(l, call{"Placed", []any{c.size, c.l, data}})
		}
		for _, addr := range []int64{0, 1, 3, 400} {
			l = append(l, call{"Lifted", []any{c.size, c.l, addr}})
		}
	}
	return l
}

func partCalls() []call {
	var l []call
	extents := []impl.Extent{ex(1, "abcde"), ex(6, "fghijklmnopqrstuvwxy"), ex(30, "z")}
	own := [][]impl.Part{nil, {pt(1, 0, 5)}, {pt(1, 0, 2), hole(3), pt(6, 2, 9)}, {pt(6, 0, 20), pt(1, 1, 1), pt(30, 0, 1)}, {pt(6, 0, 9), pt(6, 9, 2)}}
	for _, c := range append(rightLists(), wrongLists()...) {
		own = append(own, c.l)
	}
	for _, a := range own {
		l = append(l, call{"PartsOk", []any{a}}, call{"LenOf", []any{a}}, call{"Content", []any{a, extents}}, call{"Slice", []any{a, int64(1), int64(4)}}, call{"Slice", []any{a, int64(0), sumOf(a)}})
		for _, b := range own[:7] {
			l = append(l, call{"Joined", []any{a, b}}, call{"Laid", []any{a, int64(2), b}}, call{"Laid", []any{b, int64(7), a}})
		}
	}
	return l
}

func countCalls() []call {
	var all [][]impl.Counted
	for _, c := range slices.Concat(rightEachWay(), wrongEachWay(), wrongRefs()) {
		all = append(all, c.l)
	}
	var l []call
	r := rand.New(rand.NewSource(61))
	for range 40 {
		late := makeLate(r, 60, 3)
		all = append(all, late)
		l = append(l, call{"Flushed", []any{makeRefs(r, late, 3), late}})
	}
	for i, a := range all {
		l = append(l, call{"RefsOk", []any{a}}, call{"LateOk", []any{a}}, call{"Merged", []any{a}}, call{"Flushed", []any{a, all[(i*7+3)%len(all)]}}, call{"Flushed", []any{summed(a), a}})
		if len(a) > 1 {
			l = append(l, call{"OwnerAhead", []any{a[0].Owner, a[1].Owner}}, call{"OwnerAhead", []any{a[1].Owner, a[0].Owner}})
		}
	}
	return l
}

// somePools are right and wrong ones, with much in them.
func somePools() []impl.Pool {
	all := []impl.Pool{somePool(), widePool(), greatPool(), {}}
	for _, c := range append(rightPools(), wrongPools()...) {
		all = append(all, c.p)
	}
	r := rand.New(rand.NewSource(62))
	for range 20 {
		all = append(all, makePool(r))
	}
	return all
}

func poolCalls() []call {
	var l []call
	for _, p := range somePools() {
		l = append(l, call{"PoolOk", []any{p}}, call{"Walked", []any{p}}, call{"PoolText", []any{p}}, call{"SuperText", []any{int64(7), p}}, call{"SuperText", []any{int64(-1), p}})
		for _, addr := range []int64{0, 1, 4, 5} {
			l = append(l, call{"OwnersOf", []any{p, addr}})
		}
		l = append(l, call{"FilesOf", []any{p, "none"}}, call{"OnlyOf", []any{p, "none"}}, call{"SizeOf", []any{p, "none", "a"}})
		for _, v := range p.Vols {
			l = append(l, call{"FilesOf", []any{p, v.Name}}, call{"OnlyOf", []any{p, v.Name}}, call{"SizeOf", []any{p, v.Name, "none"}})
			for _, x := range v.Items {
				l = append(l, call{"SizeOf", []any{p, v.Name, x.Name}}, call{"ReadAt", []any{p, v.Name, x.Name, int64(0), sumOf(x.Parts)}}, call{"ReadAt", []any{p, v.Name, x.Name, int64(2), int64(1)}})
			}
		}
	}
	for _, s := range append(wrongNames(), "a", "abcdefgh", "z") {
		l = append(l, call{"NameOk", []any{s}})
	}
	for _, n := range odd {
		l = append(l, call{"PoolNew", []any{n}}, call{"StoreNew", []any{n}})
	}
	for s := range rightTexts() {
		l = append(l, call{"ReadPool", []any{s}}, call{"ReadPool", []any{s + "\n"}}, call{"ReadSuper", []any{framed("7\n" + s)}}, call{"ReadSuper", []any{framed("7\n" + s)[1:]}})
	}
	return l
}

func opCalls() []call {
	var l []call
	for _, o := range append(rightOps(), wrongOps()...) {
		l = append(l, call{"OpOk", []any{o}}, call{"Done", []any{somePool(), o}})
	}
	r := rand.New(rand.NewSource(63))
	for _, p := range somePools() {
		var row []impl.Op
		for range 8 {
			o := makeOp(r, p)
			row = append(row, o)
			l = append(l, call{"Done", []any{p, o}})
		}
		l = append(l, call{"Done", []any{p, opFlush}}, call{"DoneAll", []any{p, row}}, call{"DoneAll", []any{p, row[:0]}}, call{"DoneAll", []any{p, slices.Repeat(row, 13)}})
	}
	return l
}

func diskCalls(t *testing.T) []call {
	var l []call
	all := append(rightDisks(), wrongDisks()...)
	for i := range 4 {
		all = append(all, diskCase{"of a store", storeOf(t, i).Disk})
	}
	for _, c := range all {
		d := c.d
		l = append(l, call{"DiskOk", []any{d}}, call{"Sync", []any{d}}, call{"Committed", []any{d}}, call{"ReadFile", []any{d, "none"}}, call{"Replace", []any{d, "a", "new"}}, call{"Replace", []any{d, "", "new"}})
		for _, op := range []impl.DOp{dkAppend("a", "more"), dkAppend("new", ""), dkRename("a", "b"), dkRename("a", "a"), dkRemove("a"), dkRemove("none"), {}} {
			l = append(l, call{"Do", []any{d, op}})
		}
		for _, keep := range [][]int64{nil, {0}, {0, 1}, {1}, allPlaces(len(d.Ops)), {1, 0}, {-1}} {
			l = append(l, call{"Crash", []any{d, keep, int64(2)}}, call{"Crash", []any{d, keep, int64(9999)}})
		}
		for _, f := range d.Live {
			if len(f.Name) < 9 {
				l = append(l, call{"ReadFile", []any{d, f.Name}}, call{"Replace", []any{d, f.Name, "new"}})
			}
		}
	}
	return l
}

func storeCalls(t *testing.T) []call {
	var l []call
	all := slices.Concat(rightStores(), downStores(), wrongStores()[:40])
	for i := range 5 {
		s := storeOf(t, i)
		lost, _ := impl.StoreDo(s, acSync(1))
		all = append(all, storeCase{"of ops", s}, storeCase{"lost", lost})
	}
	acts := append(everyAct(), acSync(2), acSync(3), acOp(opWrite("u", "a", 3, "XY")), acOp(opSnap("u", "new")), acOp(opDrop("u")), acCrash(7, 0, 1))
	for _, c := range all {
		l = append(l, call{"StoreOk", []any{c.s}}, call{"StorePlay", []any{c.s, acts}}, call{"StorePlay", []any{c.s, acts[:0]}}, call{"StorePlay", []any{c.s, slices.Repeat(acts, 6)}})
		for _, a := range acts {
			l = append(l, call{"StoreDo", []any{c.s, a}})
		}
	}
	return l
}

func scriptCalls() []call {
	var l []call
	r := rand.New(rand.NewSource(64))
	for i := range 25 {
		l = append(l, call{"RunScript", []any{script(makeScript(r, 2*i)...)}})
	}
	for _, s := range []string{"", "\n", "vols", "vols\n", strings.Repeat("room\n", 41)} {
		l = append(l, call{"RunScript", []any{s}})
	}
	return l
}

// markOf is a value with nothing zero in it.
func markOf(t reflect.Type) reflect.Value {
	v := reflect.New(t).Elem()
	switch t.Kind() {
	case reflect.Int64:
		v.SetInt(77)
	case reflect.String:
		v.SetString("mark")
	case reflect.Bool:
		v.SetBool(true)
	case reflect.Slice:
		v.Set(reflect.Append(v, markOf(t.Elem())))
	case reflect.Struct:
		for i := range t.NumField() {
			v.Field(i).Set(markOf(t.Field(i).Type))
		}
	}
	return v
}

// laidOut is a copy of a value in memory of its own. Behind each list is that much room, full of marks; an empty one without room is nil.
func laidOut(v reflect.Value, spare int) reflect.Value {
	n := reflect.New(v.Type()).Elem()
	switch v.Kind() {
	case reflect.Slice:
		if v.Len()+spare == 0 {
			return n
		}
		whole := reflect.MakeSlice(v.Type(), v.Len()+spare, v.Len()+spare)
		for i := range whole.Len() {
			if i < v.Len() {
				whole.Index(i).Set(laidOut(v.Index(i), spare))
			} else {
				whole.Index(i).Set(markOf(v.Type().Elem()))
			}
		}
		n.Set(whole.Slice(0, v.Len()))
	case reflect.Struct:
		for i := range v.NumField() {
			n.Field(i).Set(laidOut(v.Field(i), spare))
		}
	default:
		n.Set(v)
	}
	return n
}

// wide is the value with each list as long as its room is.
func wide(v reflect.Value) reflect.Value {
	n := reflect.New(v.Type()).Elem()
	switch v.Kind() {
	case reflect.Slice:
		whole := v.Slice(0, v.Cap())
		for i := range whole.Len() {
			n = reflect.Append(n, wide(whole.Index(i)))
		}
	case reflect.Struct:
		for i := range v.NumField() {
			n.Field(i).Set(wide(v.Field(i)))
		}
	default:
		n.Set(v)
	}
	return n
}

func allOf(l []reflect.Value, each func(reflect.Value) reflect.Value) []any {
	var all []any
	for _, v := range l {
		all = append(all, each(v).Interface())
	}
	return all
}

// lists calls each with each list of a value, the innermost first.
func lists(v reflect.Value, each func(reflect.Value)) {
	switch v.Kind() {
	case reflect.Slice:
		for i := range v.Len() {
			lists(v.Index(i), each)
		}
		each(v)
	case reflect.Struct:
		for i := range v.NumField() {
			lists(v.Field(i), each)
		}
	}
}

func valueSpans(name string, l []reflect.Value) []span {
	var all []span
	for i, v := range l {
		lists(v, func(v reflect.Value) {
			if v.Cap() > 0 {
				from := v.Pointer()
				all = append(all, span{fmt.Sprint(name, " ", i), from, from + uintptr(v.Cap())*v.Type().Elem().Size()})
			}
		})
	}
	return all
}

// smearAll writes over all that an answer has, with the room behind it.
func smearAll(l []reflect.Value) {
	for _, v := range l {
		lists(v, func(v reflect.Value) {
			whole := v.Slice(0, v.Cap())
			for i := range whole.Len() {
				whole.Index(i).Set(markOf(v.Type().Elem()))
			}
		})
	}
}

// answered calls it, checks that nothing was written into the arguments, with the room behind them, and that the answer is new memory, and tells the answer.
func (c call) answered(t *testing.T, spare int) []any {
	t.Helper()
	var args []reflect.Value
	for _, a := range c.args {
		args = append(args, laidOut(reflect.ValueOf(a), spare))
	}
	was := allOf(args, wide)
	f := reflect.ValueOf(everyFunction()[c.name])
	first := f.Call(args)
	told := allOf(first, func(v reflect.Value) reflect.Value { return laidOut(v, 0) })
	checkApart(t, c.name, valueSpans("argument", args), valueSpans("answer", first))
	smearAll(first)
	again := allOf(f.Call(args), func(v reflect.Value) reflect.Value { return laidOut(v, 0) })
	if !reflect.DeepEqual(told, again) {
		t.Fatalf("%s: %.900s, then %.900s", c.short(), fmt.Sprintf("%+v", told), fmt.Sprintf("%+v", again))
	}
	if !reflect.DeepEqual(allOf(args, wide), was) {
		t.Fatalf("%s: an argument or the room behind it was written into", c.short())
	}
	return told
}

func (c call) short() string { return fmt.Sprintf("%s of %.600s", c.name, fmt.Sprintf("%+v", c.args)) }

// Promise 11, for every function.
func TestSameArgumentsGiveTheSameAnswers(t *testing.T) {
	calls := everyCall(t)
	told := make([][]any, len(calls))
	for i, c := range calls {
		told[i] = c.answered(t, 3)
	}
	// Whatever was called in between, and whatever room the lists have.
	for _, i := range rand.New(rand.NewSource(65)).Perm(len(calls)) {
		if again := calls[i].answered(t, 0); !reflect.DeepEqual(again, told[i]) {
			t.Fatalf("%s: %.900s, then %.900s", calls[i].short(), fmt.Sprintf("%+v", told[i]), fmt.Sprintf("%+v", again))
		}
	}
}
