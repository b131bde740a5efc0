package tests

import (
	"fmt"
	"math"
	"math/rand"
	"reflect"
	"slices"
	"strings"
	"testing"

	"loop.example/g00336/impl"
)

func wrongNames() []string {
	l := []string{"", "abcdefghi", strings.Repeat("a", 1000), "ABC", "aB", "a1", "a b", " a", "a ", "a\n", "é", "a\x00", "\xff"}
	for _, b := range []byte{0, 10, 32, '0', 'A', 'Z', 'a' - 1, 'z' + 1, 127, 128, 255} {
		l = append(l, string([]byte{b}), string([]byte{'a', b}), string([]byte{b, 'z'}), string([]byte{'a', 'b', 'c', b, 'e', 'f', 'g', 'h'}))
	}
	return l
}

func TestNameOk(t *testing.T) {
	for _, s := range []string{"a", "z", "az", "zzzzzzz", "abcdefgh", "stuvwxyz", "aaaaaaaa"} {
		if !impl.NameOk(s) {
			t.Errorf("%q: refused", s)
		}
	}
	for _, s := range wrongNames() {
		if impl.NameOk(s) {
			t.Errorf("%q: accepted", s)
		}
	}
	for b := range 256 {
		if got := impl.NameOk(string([]byte{byte(b)})); got != (b >= 'a' && b <= 'z') {
			t.Errorf("byte %d: %v", b, got)
		}
	}
}

func TestPoolNew(t *testing.T) {
	for _, size := range odd {
		p, ok := impl.PoolNew(size)
		if size < 1 || size > impl.MaxSize {
			if ok || !reflect.DeepEqual(p, impl.Pool{}) {
				t.Errorf("%d: %v %v", size, p, ok)
			}
			continue
		}
		if !ok || p.Size != size || p.Next != 1 || len(p.Extents)+len(p.Vols)+len(p.Refs)+len(p.Late) != 0 || !impl.PoolOk(p) || len(impl.Walked(p)) != 0 {
			t.Errorf("%d: %v %v", size, p, ok)
		}
	}
}

func vol(id int64, name string, items ...impl.Item) impl.Volume {
	return impl.Volume{Id: id, Name: name, Items: items}
}

func item(name string, parts ...impl.Part) impl.Item {
	return impl.Item{Name: name, Parts: parts}
}

// somePool is a right pool with something of all that a pool may have. It is new memory at each call.
func somePool() impl.Pool {
	return impl.Pool{
		Size: 60, Next: 8,
		Extents: []impl.Extent{ex(1, "hello"), ex(6, "world!"), ex(20, "late"), ex(60, "~")},
		Vols: []impl.Volume{
			vol(2, "u", item("a", pt(1, 0, 2), hole(3), pt(1, 3, 2), pt(6, 0, 6)), item("ab", hole(100)), item("b")),
			{Id: 3, Name: "fixed", Fixed: true, Items: []impl.Item{item("a", pt(60, 0, 1))}},
			vol(7, "a", item("z", pt(6, 5, 1), pt(1, 0, 5))),
		},
		Refs: []impl.Counted{ct(1, 2, "a", 3), ct(6, 7, "z", 1), ct(20, 1, "old", 2)},
		Late: []impl.Counted{
			ct(60, 3, "a", 1), ct(20, 1, "old", -1), ct(6, 2, "a", 2), ct(6, 2, "a", -1),
			ct(1, 2, "a", -1), ct(20, 1, "old", -1), ct(1, 7, "z", 1), ct(20, 8, "a", 1), ct(20, 8, "a", -1),
		},
	}
}

func someWalk() []impl.Counted {
	return []impl.Counted{ct(1, 2, "a", 2), ct(1, 7, "z", 1), ct(6, 2, "a", 1), ct(6, 7, "z", 1), ct(60, 3, "a", 1)}
}

// widePool is right: 25 files each name 8 extents, so that Refs are MaxRefs.
func widePool() impl.Pool {
	p := impl.Pool{Size: impl.MaxSize, Next: 6}
	var parts []impl.Part
	for i := range int64(8) {
		p.Extents = append(p.Extents, ex(1+2*i, "ab"))
		parts = append(parts, pt(1+2*i, 0, 1))
	}
	for id := range int64(5) {
		v := vol(id+1, string(rune('a'+id)))
		for f := range 5 {
			v.Items = append(v.Items, item(string(rune('p'+f)), slices.Clone(parts)...))
		}
		p.Vols = append(p.Vols, v)
	}
	p.Refs = walkedByHand(p)
	return p
}

// walkedByHand asks of each Owner that there might be how many parts it has.
func walkedByHand(p impl.Pool) []impl.Counted {
	var all []impl.Counted
	for _, v := range p.Vols {
		for _, x := range v.Items {
			for addr := range int64(impl.MaxSize + 1) {
				n := int64(0)
				for _, q := range x.Parts {
					if addr > 0 && q.Addr == addr {
						n++
					}
				}
				if n > 0 {
					all = append(all, ct(addr, v.Id, x.Name, n))
				}
			}
		}
	}
	return sorted(all)
}

// recounted is p with all that is found in Refs, nothing late.
func recounted(p impl.Pool) impl.Pool {
	p.Refs, p.Late = walkedByHand(p), nil
	return p
}

type poolCase struct {
	name string
	p    impl.Pool
}

func changed(f func(*impl.Pool)) impl.Pool {
	p := somePool()
	f(&p)
	return p
}

func rightPools() []poolCase {
	return []poolCase{
		{"least", impl.Pool{Size: 1, Next: 1}},
		{"greatest, empty", impl.Pool{Size: impl.MaxSize, Next: impl.MaxId}},
		{"empty lists", impl.Pool{Size: 9, Next: 1, Extents: []impl.Extent{}, Vols: []impl.Volume{}, Refs: []impl.Counted{}, Late: []impl.Counted{}}},
		{"an empty volume", impl.Pool{Size: 9, Next: 2, Vols: []impl.Volume{{Id: 1, Name: "v", Items: []impl.Item{}}}}},
		{"an empty file", impl.Pool{Size: 9, Next: 2, Vols: []impl.Volume{vol(1, "v", impl.Item{Name: "f", Parts: []impl.Part{}})}}},
		{"some", somePool()},
		{"some, all in Refs and what nobody names late", changed(func(p *impl.Pool) {
			p.Refs, p.Late = someWalk(), []impl.Counted{ct(20, 5, "x", 9), ct(20, 5, "x", -9)}
		})},
		{"some, all late", changed(func(p *impl.Pool) {
			p.Refs, p.Late = nil, append(someWalk(), ct(20, 5, "x", 9), ct(20, 5, "x", -9))
		})},
		{"an Owner with the greatest Vol", changed(func(p *impl.Pool) {
			p.Late = append(p.Late, ct(20, impl.MaxId, "x", 1000), ct(20, impl.MaxId, "x", -1000))
		})},
		{"least size for its extents", changed(func(p *impl.Pool) { p.Size = 60 })},
		{"greatest size", changed(func(p *impl.Pool) { p.Size = impl.MaxSize })},
		{"greatest Next", changed(func(p *impl.Pool) { p.Next = impl.MaxId })},
		{"greatest Id", changed(func(p *impl.Pool) {
			p.Next, p.Vols[2].Id = impl.MaxId, impl.MaxId-1
			*p = recounted(*p)
			p.Late = []impl.Counted{ct(20, 5, "x", 9), ct(20, 5, "x", -9)}
		})},
		{"Id 1", impl.Pool{Size: 1, Next: 2, Vols: []impl.Volume{vol(1, "v")}}},
		{"names of 1 and of MaxName letters", impl.Pool{Size: 1, Next: 3, Vols: []impl.Volume{vol(1, "abcdefgh", item("a"), item("abcdefgh")), vol(2, "z")}}},
		{"a volume named as a file", impl.Pool{Size: 1, Next: 3, Vols: []impl.Volume{vol(1, "b", item("a")), vol(2, "a", item("b"))}}},
		{"names that fall", impl.Pool{Size: 1, Next: 3, Vols: []impl.Volume{vol(1, "b"), vol(2, "a")}}},
		{"MaxVols, MaxFiles", manyVols(6, 5)},
		{"MaxRefs", widePool()},
		{"MaxLate", changed(func(p *impl.Pool) {
			for len(p.Late) < 199 {
				p.Late = append(p.Late, ct(20, 1, "x", 7), ct(20, 1, "x", -7))
			}
			p.Late = append(p.Late, ct(1, 2, "a", -1))
			p.Refs[0].N++
		})},
		{"MaxExtents", manyExtents(impl.MaxExtents)},
		{"the last byte of an extent", impl.Pool{Size: 2, Next: 2, Extents: []impl.Extent{ex(1, "ab")}, Vols: []impl.Volume{vol(1, "v", item("f", pt(1, 1, 1)))}, Refs: []impl.Counted{ct(1, 1, "f", 1)}}},
		{"MaxParts of one extent", recounted(impl.Pool{Size: 20, Next: 2, Extents: []impl.Extent{ex(5, "abcd")}, Vols: []impl.Volume{vol(1, "v", item("f", strips(16, 4)...))}})},
	}
}

func manyVols(vols int, files int) impl.Pool {
	p := impl.Pool{Size: 1, Next: 100}
	for i := range vols {
		v := vol(int64(i+1), string(rune('a'+i)))
		for k := range files {
			v.Items = append(v.Items, item(string(rune('a'+k)), hole(1)))
		}
		p.Vols = append(p.Vols, v)
	}
	return p
}

func manyExtents(n int) impl.Pool {
	p := impl.Pool{Size: impl.MaxSize, Next: 1, Extents: ones(n, 2)}
	for _, e := range p.Extents {
		p.Late = append(p.Late, ct(e.Addr, 1, "x", 1), ct(e.Addr, 1, "x", -1))
	}
	return p
}

// wrongPools are right but for one thing, which their names tell.
func wrongPools() []poolCase {
	l := []poolCase{
		{"the zero value", impl.Pool{}},
		{"Size less than the extents", changed(func(p *impl.Pool) { p.Size = 59 })},
		{"extents not in order", changed(func(p *impl.Pool) { p.Extents[0], p.Extents[1] = p.Extents[1], p.Extents[0] })},
		{"extents that share a byte", changed(func(p *impl.Pool) { p.Extents[0].Data += "x" })},
		{"an extent without a byte", changed(func(p *impl.Pool) { p.Extents[2].Data = "" })},
		{"an extent with a byte 127", changed(func(p *impl.Pool) { p.Extents[0].Data = "hell\x7f" })},
		{"an extent of too many bytes", changed(func(p *impl.Pool) { p.Extents[2].Data = strings.Repeat("x", 21) })},
		{"one more than MaxExtents", manyExtents(impl.MaxExtents + 1)},
		{"Next as an Id", changed(func(p *impl.Pool) { p.Next = 7 })},
		{"one more than MaxVols", manyVols(7, 5)},
		{"one more than MaxFiles", manyVols(6, 6)},
		{"Ids that fall", manyVolsBut(func(p *impl.Pool) { p.Vols[1].Id, p.Vols[2].Id = 3, 2 })},
		{"Ids alike", manyVolsBut(func(p *impl.Pool) { p.Vols[2].Id = 2 })},
		{"the last Ids alike", manyVolsBut(func(p *impl.Pool) { p.Vols[5].Id = 5 })},
		{"Id 0", manyVolsBut(func(p *impl.Pool) { p.Vols[0].Id = 0 })},
		{"Id Next", manyVolsBut(func(p *impl.Pool) { p.Vols[5].Id = 100 })},
		{"names of volumes alike", manyVolsBut(func(p *impl.Pool) { p.Vols[1].Name = "a" })},
		{"names of volumes far apart alike", manyVolsBut(func(p *impl.Pool) { p.Vols[5].Name = "a" })},
		{"names of files alike", manyVolsBut(func(p *impl.Pool) { p.Vols[5].Items[1].Name = "a" })},
		{"the last names of files alike", manyVolsBut(func(p *impl.Pool) { p.Vols[0].Items[4].Name = "d" })},
		{"names of files that fall", manyVolsBut(func(p *impl.Pool) { p.Vols[3].Items[0].Name = "ba" })},
		{"the beginning of a name behind it", manyVolsBut(func(p *impl.Pool) { p.Vols[3].Items[0].Name = "bb" })},
		{"a part with nothing", changed(func(p *impl.Pool) { p.Vols[0].Items[0].Parts[1].Len = 0 })},
		{"a hole with a From", changed(func(p *impl.Pool) { p.Vols[0].Items[0].Parts[1].From = 1 })},
		{"a part that goes on", changed(func(p *impl.Pool) {
			p.Vols[0].Items[0].Parts = slices.Insert(p.Vols[0].Items[0].Parts, 1, hole(1))
		})},
		{"too many parts", manyVolsBut(func(p *impl.Pool) {
			p.Extents = []impl.Extent{ex(1, "x")}
			p.Vols[0].Items[0].Parts = slices.Repeat([]impl.Part{pt(1, 0, 1), hole(1)}, 9)[:17]
			p.Refs = []impl.Counted{ct(1, 1, "a", 9)}
		})},
		{"too many bytes", changed(func(p *impl.Pool) { p.Vols[0].Items[1].Parts[0].Len = 101 })},
		{"a part of more bytes than the extent has", changed(func(p *impl.Pool) { p.Vols[1].Items[0].Parts[0].Len = 2 })},
		{"a part behind the bytes of the extent", changed(func(p *impl.Pool) { p.Vols[1].Items[0].Parts[0].From = 1 })},
		{"a part of the last file past its extent", changed(func(p *impl.Pool) { p.Vols[2].Items[0].Parts[1].Len = 6 })},
		{"a part of no extent", recounted(changed(func(p *impl.Pool) {
			p.Extents = slices.Delete(p.Extents, 2, 3)
			p.Vols[1].Items[0].Parts[0].Addr = 59
		}))},
		{"Refs not by rising Owner", changed(func(p *impl.Pool) { p.Refs[0], p.Refs[1] = p.Refs[1], p.Refs[0] })},
		{"Refs with one Owner twice", changed(func(p *impl.Pool) { p.Refs = append([]impl.Counted{ct(1, 2, "a", 1), ct(1, 2, "a", 2)}, p.Refs[1:]...) })},
		{"Refs with N 0", changed(func(p *impl.Pool) { p.Refs = append(p.Refs, ct(60, 1, "a", 0)) })},
		{"Refs with N below 0", changed(func(p *impl.Pool) {
			p.Refs = append(p.Refs, ct(60, 1, "a", -1))
			p.Late = append(p.Late, ct(60, 1, "a", 1))
		})},
		{"Refs with N over MaxCount", changed(func(p *impl.Pool) {
			p.Refs[2].N += 1000
			p.Late = append(p.Late, ct(20, 1, "old", -1000))
		})},
		{"Refs with a Vol that is none", changed(func(p *impl.Pool) {
			p.Refs = append(p.Refs, ct(60, impl.MaxId+1, "a", 1))
			p.Late = append(p.Late, ct(60, impl.MaxId+1, "a", -1))
		})},
		{"Refs with a File that is no name", changed(func(p *impl.Pool) {
			p.Refs = append(p.Refs, ct(60, 1, "A", 1))
			p.Late = append(p.Late, ct(60, 1, "A", -1))
		})},
		{"Late with N 0", changed(func(p *impl.Pool) { p.Late = append(p.Late, ct(60, 3, "a", 0)) })},
		{"Late with N over MaxCount", changed(func(p *impl.Pool) {
			p.Late = append(p.Late, ct(60, 3, "a", 1001), ct(60, 3, "a", -1000), ct(60, 3, "a", -1))
		})},
		{"Late with N below -MaxCount", changed(func(p *impl.Pool) {
			p.Late = append(p.Late, ct(60, 3, "a", -1001), ct(60, 3, "a", 1000), ct(60, 3, "a", 1))
		})},
		{"Late with a Vol that is none", changed(func(p *impl.Pool) { p.Late = append(p.Late, ct(60, 0, "a", 1), ct(60, 0, "a", -1)) })},
		{"Late with a File that is no name", changed(func(p *impl.Pool) { p.Late = append(p.Late, ct(60, 1, "", 1), ct(60, 1, "", -1)) })},
		{"one more than MaxLate", changed(func(p *impl.Pool) {
			for len(p.Late) < 201 {
				p.Late = append(p.Late, ct(20, 1, "x", 7), ct(20, 1, "x", -7))
			}
		})},
		{"one Owner more than MaxRefs is found", func() impl.Pool {
			p := widePool()
			p.Vols[4].Items[4].Parts = append(p.Vols[4].Items[4].Parts, pt(17, 0, 1))
			p.Extents = append(p.Extents, ex(17, "x"))
			p.Late = []impl.Counted{ct(17, 5, "t", 1)}
			return p
		}()},
		{"one is counted that is not found", changed(func(p *impl.Pool) { p.Late = append(p.Late, ct(60, 2, "a", 1)) })},
		{"one is counted of a volume that is not there", changed(func(p *impl.Pool) { p.Late = append(p.Late, ct(60, 5, "a", 1)) })},
		{"one is found that is not counted", changed(func(p *impl.Pool) { p.Vols[2].Items[0].Parts = append(p.Vols[2].Items[0].Parts, pt(60, 0, 1)) })},
		{"one more is found than is counted", changed(func(p *impl.Pool) { p.Vols[1].Items[0].Parts = append(p.Vols[1].Items[0].Parts, pt(60, 0, 1)) })},
		{"counts below 0", changed(func(p *impl.Pool) { p.Late = append(p.Late, ct(20, 8, "a", -1)) })},
		{"an extent that no Owner names", changed(func(p *impl.Pool) { p.Extents = slices.Insert(p.Extents, 2, ex(19, "x")) })},
		{"an Owner in Refs and Late that names no extent", changed(func(p *impl.Pool) {
			p.Refs = append(p.Refs, ct(20, 1, "x", 1))
			p.Refs = append(p.Refs, ct(50, 1, "x", 1))
			p.Late = append(p.Late, ct(20, 1, "x", -1), ct(50, 1, "x", -1))
		})},
		{"an Owner in Late that names no extent", changed(func(p *impl.Pool) { p.Late = append(p.Late, ct(50, 1, "x", 1), ct(50, 1, "x", -1)) })},
		{"an Owner that names a byte inside an extent", changed(func(p *impl.Pool) { p.Late = append(p.Late, ct(7, 1, "x", 1), ct(7, 1, "x", -1)) })},
		{"as many Owners' Addrs as extents, but others", changed(func(p *impl.Pool) { p.Extents[2].Addr = 21 })},
	}
	for _, n := range []int64{math.MinInt64, -1, 0, impl.MaxSize + 1, math.MaxInt64} {
		l = append(l, poolCase{fmt.Sprint("Size ", n), changed(func(p *impl.Pool) { p.Size = n })})
		l = append(l, poolCase{fmt.Sprint("Size ", n, " alone"), impl.Pool{Size: n, Next: 1}})
	}
	for _, n := range []int64{math.MinInt64, -1, 0, impl.MaxId + 1, math.MaxInt64} {
		l = append(l, poolCase{fmt.Sprint("Next ", n), changed(func(p *impl.Pool) { p.Next = n })})
		l = append(l, poolCase{fmt.Sprint("Next ", n, " alone"), impl.Pool{Size: 1, Next: n}})
	}
	for _, n := range []int64{math.MinInt64, -1, 0, impl.MaxId, math.MaxInt64 - 1, math.MaxInt64} {
		l = append(l, poolCase{fmt.Sprint("Id ", n), impl.Pool{Size: 1, Next: impl.MaxId, Vols: []impl.Volume{vol(n, "v")}}})
	}
	for _, n := range []int64{math.MinInt64, -1, 401, math.MaxInt64} {
		l = append(l, poolCase{fmt.Sprint("a part's Addr ", n), changed(func(p *impl.Pool) { p.Vols[1].Items[0].Parts[0].Addr = n })})
		l = append(l, poolCase{fmt.Sprint("a part's From ", n), changed(func(p *impl.Pool) { p.Vols[1].Items[0].Parts[0].From = n })})
		l = append(l, poolCase{fmt.Sprint("a part's Len ", n), changed(func(p *impl.Pool) { p.Vols[1].Items[0].Parts[0].Len = n })})
		l = append(l, poolCase{fmt.Sprint("Addr in Late ", n), changed(func(p *impl.Pool) { p.Late = append(p.Late, ct(n, 1, "a", 1), ct(n, 1, "a", -1)) })})
		l = append(l, poolCase{fmt.Sprint("Addr of an extent ", n), changed(func(p *impl.Pool) { p.Extents[3].Addr = n })})
	}
	for _, s := range wrongNames() {
		l = append(l, poolCase{fmt.Sprintf("a volume's name %q", s), manyVolsBut(func(p *impl.Pool) { p.Vols[5].Name = s })})
		l = append(l, poolCase{fmt.Sprintf("a file's name %q", s), impl.Pool{Size: 1, Next: 2, Vols: []impl.Volume{vol(1, "v", item(s))}}})
	}
	return l
}

func manyVolsBut(f func(*impl.Pool)) impl.Pool {
	p := manyVols(6, 5)
	f(&p)
	return p
}

func TestPoolOk(t *testing.T) {
	for _, c := range rightPools() {
		if !impl.PoolOk(c.p) {
			t.Errorf("%s: refused", c.name)
		}
		if w := impl.Walked(c.p); !slices.Equal(w, walkedByHand(c.p)) {
			t.Errorf("%s: walked %v, want %v", c.name, w, walkedByHand(c.p))
		}
	}
	for _, c := range wrongPools() {
		if impl.PoolOk(c.p) {
			t.Errorf("%s: accepted", c.name)
		}
		if w := impl.Walked(c.p); len(w) != 0 {
			t.Errorf("%s: walked %v", c.name, w)
		}
	}
	if w := impl.Walked(somePool()); !slices.Equal(w, someWalk()) {
		t.Errorf("walked %v, want %v", w, someWalk())
	}
}

// Promise 4: what is found is what is counted, so that no count can be another one by itself.
func TestNoCountCanChangeByItself(t *testing.T) {
	for _, c := range rightPools() {
		f, ok := impl.Flushed(c.p.Refs, c.p.Late)
		if !ok || !slices.Equal(f, impl.Walked(c.p)) {
			t.Errorf("%s: flushed %v %v, walked %v", c.name, f, ok, impl.Walked(c.p))
		}
		for _, by := range []int64{-1, 1} {
			for i := range c.p.Refs {
				p := cloned(c.p)
				p.Refs[i].N += by
				if impl.PoolOk(p) {
					t.Errorf("%s: accepted with %d more in Refs %d", c.name, by, i)
				}
			}
			for i := range c.p.Late {
				p := cloned(c.p)
				p.Late[i].N += by
				if impl.PoolOk(p) {
					t.Errorf("%s: accepted with %d more in Late %d", c.name, by, i)
				}
			}
		}
		p := cloned(c.p)
		slices.Reverse(p.Late)
		if !impl.PoolOk(p) || !slices.Equal(impl.Walked(p), f) {
			t.Errorf("%s: refused with Late the other way round", c.name)
		}
	}
}

// opened is a deep copy in which each list goes as far as its room does.
func opened(p impl.Pool) impl.Pool { return copied(p, 0, true) }

// cloned is a deep copy.
func cloned(p impl.Pool) impl.Pool { return copied(p, 0, false) }

// roomy is a deep copy with spare room behind each list, with something in it.
func roomy(p impl.Pool) impl.Pool { return copied(p, 5, false) }

func copied(p impl.Pool, spare int, open bool) impl.Pool {
	p.Extents = copiedList(p.Extents, spare, open, extentRoom)
	p.Refs = copiedList(p.Refs, spare, open, countRoom)
	p.Late = copiedList(p.Late, spare, open, countRoom)
	p.Vols = copiedList(p.Vols, spare, open, vol(88, "room"))
	for i := range p.Vols {
		v := &p.Vols[i]
		v.Items = copiedList(v.Items, spare, open, item("room"))
		for k := range v.Items {
			v.Items[k].Parts = copiedList(v.Items[k].Parts, spare, open, partRoom)
		}
	}
	return p
}

func copiedList[T any](l []T, spare int, open bool, mark T) []T {
	if open {
		l = l[:cap(l)]
	}
	whole := make([]T, len(l)+spare)
	copy(whole, l)
	fill(whole[len(l):], mark)
	return whole[:len(l)]
}

func TestPoolsKeepTheirArguments(t *testing.T) {
	for _, c := range append(rightPools(), wrongPools()...) {
		p := roomy(c.p)
		was := opened(p)
		impl.PoolOk(p)
		w := impl.Walked(p)
		if !reflect.DeepEqual(opened(p), was) {
			t.Errorf("%s: the pool or the room behind its lists was written into", c.name)
		}
		kept := slices.Clone(w)
		fill(p.Refs[:cap(p.Refs)], countMark)
		fill(p.Late[:cap(p.Late)], countMark)
		if !slices.Equal(w, kept) {
			t.Errorf("%s: the answer shares memory with the pool", c.name)
		}
		p = roomy(c.p)
		w = impl.Walked(p)
		fill(w[:cap(w)], countMark)
		if !reflect.DeepEqual(opened(p), was) {
			t.Errorf("%s: a write into the answer shows in the pool", c.name)
		}
	}
}

func TestSamePoolSameAnswers(t *testing.T) {
	p, wide := somePool(), widePool()
	for range 50 {
		a, b := impl.Walked(p), impl.Walked(wide)
		if !impl.PoolOk(p) || !slices.Equal(a, someWalk()) || !slices.Equal(b, wide.Refs) {
			t.Fatal(a, b)
		}
		fill(a, countMark)
		fill(b, countMark)
	}
}

// poolByHand says of a pool whether it is right, thing by thing.
func poolByHand(p impl.Pool) bool {
	if !rightByBytes(p.Size, p.Extents) || p.Next < 1 || p.Next > 1000000000 || len(p.Vols) > 6 {
		return false
	}
	for i, v := range p.Vols {
		if v.Id < 1 || v.Id >= p.Next || !nameByHand(v.Name) || len(v.Items) > 5 {
			return false
		}
		for _, u := range p.Vols[:i] {
			if u.Name == v.Name || u.Id >= v.Id {
				return false
			}
		}
		for k, x := range v.Items {
			if !nameByHand(x.Name) || !partsByBytes(x.Parts) || k > 0 && v.Items[k-1].Name >= x.Name {
				return false
			}
			for _, b := range spread(x.Parts) {
				if b.addr != 0 && b.at >= int64(len(dataOf(p.Extents, b.addr))) {
					return false
				}
			}
		}
	}
	return countsByHand(p)
}

func nameByHand(s string) bool {
	return len(s) > 0 && len(s) < 9 && strings.Trim(s, "abcdefghijklmnopqrstuvwxyz") == ""
}

func countsByHand(p impl.Pool) bool {
	both := slices.Concat(p.Refs, p.Late)
	if len(p.Refs) > 200 || len(p.Late) > 200 {
		return false
	}
	for i, c := range both {
		least := int64(-1000)
		if i < len(p.Refs) {
			least = 1
		}
		if c.N == 0 || c.N < least || c.N > 1000 || c.Owner.Vol < 1 || c.Owner.Vol > 1000000000 || !nameByHand(c.Owner.File) || dataOf(p.Extents, c.Owner.Addr) == "" {
			return false
		}
		if i > 0 && i < len(p.Refs) && !slices.Equal(sorted(both[i-1:i+1]), both[i-1:i+1]) || i < len(p.Refs) && slices.ContainsFunc(p.Refs[:i], func(d impl.Counted) bool { return d.Owner == c.Owner }) {
			return false
		}
	}
	for _, e := range p.Extents {
		if !slices.ContainsFunc(both, func(c impl.Counted) bool { return c.Owner.Addr == e.Addr }) {
			return false
		}
	}
	all := walkedByHand(p)
	return len(all) <= 200 && slices.Equal(all, summed(both))
}

// makePool tells a pool that is right, but where too much is found or late.
func makePool(r *rand.Rand) impl.Pool {
	p := impl.Pool{Size: []int64{60, 150, 400}[r.Intn(3)], Next: 30 + r.Int63n(9)}
	for range r.Intn(10) {
		if l, _, ok := impl.Placed(p.Size, p.Extents, strings.Repeat("x", 1+r.Intn(20))); ok {
			p.Extents = l
		}
	}
	id := int64(0)
	for range r.Intn(7) {
		id += 1 + r.Int63n(4)
		v := vol(id, string(rune('a'+id)))
		for f := range r.Intn(6) {
			x := item([]string{"a", "ab", "b", "ba", "c"}[f], hole(1))
			if len(p.Extents) > 0 {
				x.Parts = makeParts(r, p.Extents, 16, []int{2, 9, 20}[r.Intn(3)])
			}
			v.Items = append(v.Items, x)
		}
		p.Vols = append(p.Vols, v)
	}
	split(r, &p)
	return p
}

// split puts what is found into Refs and Late, in one of many ways, with some more that comes to 0.
func split(r *rand.Rand, p *impl.Pool) {
	all := walkedByHand(*p)
	for _, e := range p.Extents {
		all = append(all, ct(e.Addr, 1+r.Int63n(20), "gone", 0))
	}
	for _, c := range all {
		late := c.N
		if n := r.Int63n(3) * r.Int63n(4); n > 0 {
			p.Refs = append(p.Refs, impl.Counted{Owner: c.Owner, N: n})
			late -= n
		} else if r.Intn(3) > 0 && c.N > 0 {
			p.Refs = append(p.Refs, c)
			late = 0
		}
		if late != 0 {
			p.Late = append(p.Late, impl.Counted{Owner: c.Owner, N: late})
		} else if c.N == 0 {
			p.Late = append(p.Late, impl.Counted{Owner: c.Owner, N: 3}, impl.Counted{Owner: c.Owner, N: -3})
		}
	}
	p.Refs = sorted(p.Refs)
	p.Late = shuffled(r, p.Late)
}

func oneOf[T any](r *rand.Rand, l []T, f func(*T)) {
	if len(l) > 0 {
		f(&l[r.Intn(len(l))])
	}
}

// spoil changes one thing, which may leave the pool right.
func spoil(r *rand.Rand, p *impl.Pool) {
	n := odd[r.Intn(len(odd))]
	if r.Intn(2) == 0 {
		n = r.Int63n(8)
	}
	switch r.Intn(14) {
	case 0:
		p.Size = n
	case 1:
		p.Next = n
	case 2:
		oneOf(r, p.Extents, func(e *impl.Extent) { e.Addr = n })
	case 3:
		oneOf(r, p.Extents, func(e *impl.Extent) { e.Data = strings.Repeat("y", int(n&31)) })
	case 4:
		oneOf(r, p.Vols, func(v *impl.Volume) { v.Id = n })
	case 5:
		oneOf(r, p.Vols, func(v *impl.Volume) { v.Name = []string{"a", "b", "A", ""}[r.Intn(4)] })
	case 6, 7:
		oneOf(r, p.Vols, func(v *impl.Volume) {
			oneOf(r, v.Items, func(x *impl.Item) { x.Name = []string{"a", "b", "ab", "B"}[r.Intn(4)] })
		})
	case 8, 9:
		oneOf(r, p.Vols, func(v *impl.Volume) {
			oneOf(r, v.Items, func(x *impl.Item) {
				oneOf(r, x.Parts, func(q *impl.Part) { *[]*int64{&q.Addr, &q.From, &q.Len, &q.Len}[r.Intn(4)] = n })
			})
		})
	case 10, 11:
		oneOf(r, [][]impl.Counted{p.Refs, p.Late}, func(l *[]impl.Counted) {
			oneOf(r, *l, func(c *impl.Counted) { *[]*int64{&c.Owner.Addr, &c.Owner.Vol, &c.N}[r.Intn(3)] = n })
		})
	case 12:
		oneOf(r, p.Refs, func(c *impl.Counted) { p.Late = append(p.Late, impl.Counted{Owner: c.Owner, N: n}) })
	case 13:
		oneOf(r, p.Vols, func(v *impl.Volume) { v.Fixed = !v.Fixed })
	}
}

// Promise 4 over many pools, right ones and such as are spoilt, against a walk and a check by hand.
func TestPoolsAgainstThoseByHand(t *testing.T) {
	r := rand.New(rand.NewSource(8))
	said := map[bool]int{}
	for i := range 4000 {
		p := makePool(r)
		for range i % 3 {
			spoil(r, &p)
		}
		want := poolByHand(p)
		if got := impl.PoolOk(p); got != want {
			t.Fatalf("%+v: %v, want %v", p, got, want)
		}
		w := impl.Walked(p)
		if want && !slices.Equal(w, walkedByHand(p)) || !want && len(w) != 0 {
			t.Fatalf("%+v: walked %v", p, w)
		}
		said[want]++
	}
	if said[true] < 1000 || said[false] < 1000 {
		t.Errorf("too few of one kind: %v", said)
	}
}
