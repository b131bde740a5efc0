package tests

import (
	"fmt"
	"math/rand"
	"reflect"
	"regexp"
	"slices"
	"strconv"
	"strings"
	"testing"

	"loop.example/g00336/impl"
)

const someText = "pool 60 8\n" +
	"extent 1 hello\nextent 6 world!\nextent 20 late\nextent 60 ~\n" +
	"volume 2 u 0\nfile a\npart 1 0 2\npart 0 0 3\npart 1 3 2\npart 6 0 6\nfile ab\npart 0 0 100\nfile b\n" +
	"volume 3 fixed 1\nfile a\npart 60 0 1\n" +
	"volume 7 a 0\nfile z\npart 6 5 1\npart 1 0 5\n" +
	"ref 1 2 a 3\nref 6 7 z 1\nref 20 1 old 2\n" +
	"late 60 3 a 1\nlate 20 1 old -1\nlate 6 2 a 2\nlate 6 2 a -1\nlate 1 2 a -1\n" +
	"late 20 1 old -1\nlate 1 7 z 1\nlate 20 8 a 1\nlate 20 8 a -1\n"

// withData is a pool of one file that is one extent with that data.
func withData(data string) impl.Pool {
	return impl.Pool{
		Size: 30, Next: 2, Extents: []impl.Extent{ex(9, data)},
		Vols: []impl.Volume{vol(1, "v", item("f", pt(9, 0, int64(len(data)))))},
		Refs: []impl.Counted{ct(9, 1, "f", 1)},
	}
}

// greatPool has about the longest text: as many of all as there may be, with long names and numbers.
func greatPool() impl.Pool {
	p := impl.Pool{Size: impl.MaxSize, Next: impl.MaxId}
	for i := range int64(impl.MaxExtents) {
		p.Extents = append(p.Extents, ex(101+5*i, "     "))
	}
	for id := range int64(impl.MaxVols) {
		v := vol(impl.MaxId-impl.MaxVols+id, "volumes"+string(rune('a'+id)))
		for f := range int64(impl.MaxFiles) {
			x := item("filefil" + string(rune('a'+f)))
			for k := range int64(impl.MaxParts) {
				x.Parts = append(x.Parts, pt(101+5*(k%6+6*f), k%5, 1))
			}
			v.Items = append(v.Items, x)
		}
		p.Vols = append(p.Vols, v)
	}
	p = recounted(p)
	for _, e := range p.Extents {
		p.Late = append(p.Late, ct(e.Addr, impl.MaxId, "filefile", -1000), ct(e.Addr, impl.MaxId, "filefile", 1000))
	}
	for len(p.Late) < impl.MaxLate {
		p.Late = append(p.Late, ct(396, impl.MaxId, "filefile", -1000), ct(396, impl.MaxId, "filefile", 1000))
	}
	return p
}

func rightTexts() map[string]impl.Pool {
	all := map[string]impl.Pool{
		"pool 1 1\n":               {Size: 1, Next: 1},
		"pool 400 1000000000\n":    {Size: impl.MaxSize, Next: impl.MaxId},
		"pool 9 2\nvolume 1 v 0\n": {Size: 9, Next: 2, Vols: []impl.Volume{vol(1, "v")}},
		"pool 9 2\nvolume 1 abcdefgh 1\nfile a\nfile abcdefgh\n": {Size: 9, Next: 2, Vols: []impl.Volume{
			{Id: 1, Name: "abcdefgh", Fixed: true, Items: []impl.Item{item("a"), item("abcdefgh")}}}},
		"pool 9 1000000000\nvolume 999999999 pool 0\nfile part\npart 0 0 1\nfile volume\n": {Size: 9, Next: impl.MaxId, Vols: []impl.Volume{
			vol(impl.MaxId-1, "pool", item("part", hole(1)), item("volume"))}},
		"pool 9 1\nextent 3 x\nlate 3 1000000000 late -1000\nlate 3 1000000000 late 1000\n": {Size: 9, Next: 1, Extents: []impl.Extent{ex(3, "x")},
			Late: []impl.Counted{ct(3, impl.MaxId, "late", -1000), ct(3, impl.MaxId, "late", 1000)}},
		"pool 9 1\nextent 3 x\nref 3 7 ref 1000\nlate 3 7 ref -1000\n": {Size: 9, Next: 1, Extents: []impl.Extent{ex(3, "x")},
			Refs: []impl.Counted{ct(3, 7, "ref", 1000)}, Late: []impl.Counted{ct(3, 7, "ref", -1000)}},
		someText: somePool(),
	}
	for _, data := range oddData() {
		all[fmt.Sprintf("pool 30 2\nextent 9 %s\nvolume 1 v 0\nfile f\npart 9 0 %d\nref 9 1 f 1\n", data, len(data))] = withData(data)
	}
	return all
}

// oddData are right data of extents which a reader of words might take for something else.
func oddData() []string {
	return []string{
		" ", "  ", strings.Repeat(" ", impl.MaxData), " x", "x ", " x ", "  x", "x  ", "a b", "a  b", "hi you", " a b  c ",
		"0", "7", "00", "+1", "-1", "extent 1 a", "part 9 0 1", "pool 30 2", "~", "\\n", "\"", "%d", strings.Repeat("x", impl.MaxData),
	}
}

func comesBack(t *testing.T, what string, p impl.Pool) {
	t.Helper()
	s := impl.PoolText(p)
	if want := textByHand(p); s != want {
		t.Fatalf("%s: %q, want %q", what, s, want)
	}
	q, ok := impl.ReadPool(s)
	if !ok || !samePool(p, q) {
		t.Fatalf("%s: %+v comes back as %+v %v", what, p, q, ok)
	}
	if again := impl.PoolText(q); again != s {
		t.Fatalf("%s: %q, written again %q", what, s, again)
	}
}

func textByHand(p impl.Pool) string {
	if !poolByHand(p) {
		return ""
	}
	s := fmt.Sprintf("pool %d %d\n", p.Size, p.Next)
	for _, e := range p.Extents {
		s += fmt.Sprintf("extent %d %s\n", e.Addr, e.Data)
	}
	for _, v := range p.Vols {
		s += fmt.Sprintf("volume %d %s %d\n", v.Id, v.Name, map[bool]int{true: 1}[v.Fixed])
		for _, x := range v.Items {
			s += fmt.Sprintf("file %s\n", x.Name)
			for _, q := range x.Parts {
				s += fmt.Sprintf("part %d %d %d\n", q.Addr, q.From, q.Len)
			}
		}
	}
	for _, c := range p.Refs {
		s += fmt.Sprintf("ref %d %d %s %d\n", c.Owner.Addr, c.Owner.Vol, c.Owner.File, c.N)
	}
	for _, c := range p.Late {
		s += fmt.Sprintf("late %d %d %s %d\n", c.Owner.Addr, c.Owner.Vol, c.Owner.File, c.N)
	}
	return s
}

// poolForm is the form of a pool's text as a whole.
var poolForm = regexp.MustCompile(strings.NewReplacer("NUM", "(0|-?[1-9][0-9]{0,9})", "NAME", "[a-z]{1,8}", "DATA", "[ -~]{1,20}").Replace(
	`\Apool NUM NUM\n(extent NUM DATA\n)*(volume NUM NAME [01]\n(file NAME\n(part NUM NUM NUM\n)*)*)*(ref NUM NUM NAME NUM\n)*(late NUM NUM NAME NUM\n)*\z`))

func readByHand(s string) (impl.Pool, bool) {
	if len(s) > 60000 || !poolForm.MatchString(s) {
		return impl.Pool{}, false
	}
	var p impl.Pool
	for _, line := range strings.Split(strings.TrimSuffix(s, "\n"), "\n") {
		w := append(strings.Split(line, " "), "", "", "", "")
		n := func(i int) int64 { k, _ := strconv.ParseInt(w[i], 10, 64); return k }
		switch w[0] {
		case "pool":
			p.Size, p.Next = n(1), n(2)
		case "extent":
			p.Extents = append(p.Extents, ex(n(1), line[len("extent ")+len(w[1])+1:]))
		case "volume":
			p.Vols = append(p.Vols, impl.Volume{Id: n(1), Name: w[2], Fixed: w[3] == "1"})
		case "file":
			v := &p.Vols[len(p.Vols)-1]
			v.Items = append(v.Items, item(w[1]))
		case "part":
			l := p.Vols[len(p.Vols)-1].Items
			l[len(l)-1].Parts = append(l[len(l)-1].Parts, pt(n(1), n(2), n(3)))
		case "ref":
			p.Refs = append(p.Refs, ct(n(1), n(2), w[3], n(4)))
		case "late":
			p.Late = append(p.Late, ct(n(1), n(2), w[3], n(4)))
		}
	}
	if !poolByHand(p) {
		return impl.Pool{}, false
	}
	return p, true
}

// notRead fails unless the text is refused, with all else zero.
func notRead(t *testing.T, what string, s string) {
	t.Helper()
	if p, ok := impl.ReadPool(s); ok || !reflect.DeepEqual(p, impl.Pool{}) {
		t.Errorf("%s: %q: %+v %v", what, s, p, ok)
	}
}

// readAsByHand says whether the text is one of a pool, by the one and the other reader.
func readAsByHand(t *testing.T, what string, s string) bool {
	t.Helper()
	p, ok := impl.ReadPool(s)
	want, right := readByHand(s)
	if ok != right || ok && !samePool(p, want) || !ok && !reflect.DeepEqual(p, impl.Pool{}) {
		t.Fatalf("%s: %q: %+v %v, want %+v %v", what, s, p, ok, want, right)
	}
	if ok && impl.PoolText(p) != s {
		t.Fatalf("%s: %q, written again %q", what, s, impl.PoolText(p))
	}
	return ok
}

func TestPoolText(t *testing.T) {
	for s, p := range rightTexts() {
		if got := impl.PoolText(p); got != s {
			t.Errorf("%+v: %q, want %q", p, got, s)
		}
		if q, ok := impl.ReadPool(s); !ok || !samePool(p, q) {
			t.Errorf("%q: %+v %v", s, q, ok)
		}
	}
	for _, c := range wrongPools() {
		if s := impl.PoolText(c.p); s != "" {
			t.Errorf("%s: %q", c.name, s)
		}
	}
}

// Promise 7, with the edges of what a pool may have.
func TestRightPoolsComeBack(t *testing.T) {
	for _, c := range rightPools() {
		comesBack(t, c.name, c.p)
	}
	comesBack(t, "great", greatPool())
	if n := len(impl.PoolText(greatPool())); n < 15000 || n > impl.MaxText {
		t.Errorf("a text of %d bytes", n)
	}
}

// Promise 7 over pools that ops have made.
func TestPoolsOfOpsComeBack(t *testing.T) {
	r := rand.New(rand.NewSource(21))
	for row := range 40 {
		p, _ := impl.PoolNew([]int64{400, 150, 40, 400}[row%4])
		for range 60 {
			p, _ = impl.Done(p, makeOp(r, p))
			comesBack(t, fmt.Sprint("row ", row), p)
		}
	}
}

// Promise 7 over pools that ops alone would not make, and such as are not right.
func TestAnyPoolComesBack(t *testing.T) {
	r := rand.New(rand.NewSource(22))
	said := map[bool]int{}
	for i := range 1500 {
		p := makePool(r)
		for k := range p.Extents {
			p.Extents[k].Data = randomText(r, len(p.Extents[k].Data))
		}
		for range i % 3 {
			spoil(r, &p)
		}
		said[poolByHand(p)]++
		if poolByHand(p) {
			comesBack(t, "any", p)
		} else if s := impl.PoolText(p); s != "" {
			t.Fatalf("%+v: %q", p, s)
		}
	}
	if said[true] < 300 || said[false] < 300 {
		t.Errorf("too few of one kind: %v", said)
	}
}

func TestMaxText(t *testing.T) {
	longest := impl.PoolText(greatPool())
	for _, n := range []int{impl.MaxText - 1, impl.MaxText, impl.MaxText + 1, 3000000} {
		notRead(t, "blanks behind", longest+strings.Repeat(" ", n-len(longest)))
		notRead(t, "lines behind", longest+strings.Repeat("\n", n-len(longest)))
		notRead(t, "a long line", "pool 60 "+strings.Repeat("1", n-9)+"\n")
		notRead(t, "a long extent", "pool 60 1\nextent 1 "+strings.Repeat("x", n-20)+"\n")
		notRead(t, "one line again and again", "pool 60 1\n"+strings.Repeat("late 1 1 a 1\n", n/13))
	}
}

// changedTexts are texts near to s: one byte turned, left out or put in, at each place.
func changedTexts(s string, put []byte, each func(what string, near string)) {
	for i := range len(s) + 1 {
		for _, b := range put {
			each(fmt.Sprintf("byte %d put in at %d", b, i), s[:i]+string([]byte{b})+s[i:])
			if i < len(s) && s[i] != b {
				each(fmt.Sprintf("byte %d at %d", b, i), s[:i]+string([]byte{b})+s[i+1:])
			}
		}
		if i < len(s) {
			each(fmt.Sprintf("byte %d left out", i), s[:i]+s[i+1:])
			each(fmt.Sprintf("cut off at %d", i), s[:i])
			each(fmt.Sprintf("byte %d twice", i), s[:i+1]+s[i:])
			each(fmt.Sprintf("begins at %d", i+1), s[i+1:])
		}
	}
}

func TestTextsWithOneByteTurned(t *testing.T) {
	said := map[bool]int{}
	for s := range rightTexts() {
		put := []byte("\n 019-+az_.,~\x00\x0b\r\t\x7f\xff")
		if len(s) > 100 {
			put = []byte("\n 01-+ax\x00")
		}
		changedTexts(s, put, func(what string, near string) { said[readAsByHand(t, what, near)]++ })
	}
	if said[true] < 100 || said[false] < 10000 {
		t.Errorf("too few of one kind: %v", said)
	}
}

// In a pool without a spare byte of room, each other byte makes another thing than this pool, and of its data only a right byte is taken.
func TestEachByteOfATextTurned(t *testing.T) {
	s := "pool 3 2\nextent 1 a b\nvolume 1 u 0\nfile a\npart 1 0 3\nref 1 1 a 1\n"
	data := strings.Index(s, "a b")
	for i := range len(s) {
		for b := range 256 {
			near := s[:i] + string([]byte{byte(b)}) + s[i+1:]
			p, ok := impl.ReadPool(near)
			inside := i >= data && i < data+3 && b >= 32 && b <= 126
			if inside && (!ok || p.Extents[0].Data != near[data:data+3]) {
				t.Fatalf("%q: %+v %v", near, p, ok)
			}
			if ok && impl.PoolText(p) != near || !ok && !reflect.DeepEqual(p, impl.Pool{}) {
				t.Fatalf("%q: %+v %v", near, p, ok)
			}
			readAsByHand(t, "turned", near)
		}
	}
}

func TestTextsWithOtherLines(t *testing.T) {
	for s := range rightTexts() {
		lines := strings.SplitAfter(s, "\n")
		lines = lines[:len(lines)-1]
		for i, line := range lines {
			readAsByHand(t, "left out", strings.Join(slices.Delete(slices.Clone(lines), i, i+1), ""))
			for k := range len(lines) + 1 {
				readAsByHand(t, "once more", strings.Join(slices.Insert(slices.Clone(lines), k, line), ""))
				l := slices.Delete(slices.Clone(lines), i, i+1)
				readAsByHand(t, "elsewhere", strings.Join(slices.Insert(l, min(k, len(l)), line), ""))
			}
		}
	}
}

// tightText has no line that may be left out, stand there twice, or stand elsewhere, but that the last two may change places.
const tightText = "pool 9 4\nextent 1 ab\nextent 3 cd\nvolume 1 u 0\nfile a\npart 1 0 2\nfile b\npart 3 0 2\n" +
	"volume 2 v 1\nfile a\npart 1 1 1\nref 1 1 a 1\nref 1 2 a 1\nlate 3 1 b 2\nlate 3 1 b -1\n"

func TestTextsWithLinesInAnotherOrder(t *testing.T) {
	lines := strings.SplitAfter(tightText, "\n")
	lines = lines[:len(lines)-1]
	last := len(lines) - 1
	for i, line := range lines {
		left := slices.Delete(slices.Clone(lines), i, i+1)
		notRead(t, "left out", strings.Join(left, ""))
		notRead(t, "twice", strings.Join(slices.Insert(slices.Clone(lines), i, line), ""))
		for k := range lines {
			if k != i && min(i, k) != last-1 {
				notRead(t, "elsewhere", strings.Join(slices.Insert(slices.Clone(left), k, line), ""))
			}
		}
	}
	p, ok := impl.ReadPool(tightText)
	if !ok || impl.PoolText(p) != tightText {
		t.Fatalf("%+v %v", p, ok)
	}
	lines[last-1], lines[last] = lines[last], lines[last-1]
	slices.Reverse(p.Late)
	if q, ok := impl.ReadPool(strings.Join(lines, "")); !ok || !samePool(q, p) {
		t.Errorf("what is late the other way round: %+v %v", q, ok)
	}
}

var numbers = regexp.MustCompile(`[ ](-?[0-9]+)`)

// Each number of the text in each of the ways in which no number is written.
func TestNumbersInTexts(t *testing.T) {
	s := strings.Replace(someText, "late\n", "data\n", 1)
	for _, at := range numbers.FindAllStringSubmatchIndex(s, -1) {
		n := s[at[2]:at[3]]
		minus := strings.HasPrefix(n, "-")
		digits := strings.TrimPrefix(n, "-")
		ways := []string{
			"0" + n, "00" + n, "+" + n, " " + n, "--" + n, n + ".0", n + "e0", "0x" + n, n + "_0", "_" + n, n + "a", n + "\r", "\t" + n, "", "-", "+", "x",
			strings.Repeat("0", 10) + digits, "0000000000" + n, "1000000000" + digits, "99999999999", "-99999999999", "9223372036854775807", "9223372036854775808", "-9223372036854775808",
			"18446744073709551616", "18446744073709551617", "4294967296", "340282366920938463463374607431768211457", strings.Repeat("9", 400), "٣", "１",
		}
		if minus {
			ways = append(ways, "-0"+digits, "- "+digits, "-+"+digits)
		}
		if n == "0" {
			ways = append(ways, "-0", "+0", "00")
		}
		// A blank behind the Addr of an extent is its data's.
		if !strings.HasPrefix(s[strings.LastIndex(s[:at[2]], "\n")+1:], "extent") {
			ways = append(ways, n+" ")
		}
		for _, way := range ways {
			notRead(t, fmt.Sprintf("%s at %d", n, at[2]), s[:at[2]]+way+s[at[3]:])
		}
	}
}

func TestWrongTexts(t *testing.T) {
	for what, s := range map[string]string{
		"nothing":                          "",
		"an empty line":                    "\n",
		"two empty lines":                  "\n\n",
		"a line that is not ended":         "pool 60 2",
		"an empty line ahead":              "\npool 60 2\n",
		"an empty line behind":             "pool 60 2\n\n",
		"a word too few":                   "pool 60\n",
		"no words":                         "pool\n",
		"a word and a blank":               "pool \n",
		"two blanks at the end":            "pool  \n",
		"a word too many":                  "pool 60 2 1\n",
		"a blank ahead":                    " pool 60 2\n",
		"a blank behind":                   "pool 60 2 \n",
		"two blanks":                       "pool 60  2\n",
		"a tabulator":                      "pool\t60 2\n",
		"a carriage return":                "pool 60 2\r\n",
		"another word":                     "pools 60 2\n",
		"great letters":                    "POOL 60 2\n",
		"no word":                          "60 2\n",
		"two pools":                        "pool 60 2\npool 60 2\n",
		"an extent ahead":                  "extent 1 a\npool 60 2\nlate 1 1 a 1\nlate 1 1 a -1\n",
		"Size 0":                           "pool 0 1\n",
		"Size 401":                         "pool 401 1\n",
		"Size below 0":                     "pool -1 1\n",
		"Next 0":                           "pool 1 0\n",
		"Next over MaxId":                  "pool 1 1000000001\n",
		"an extent without data":           "pool 9 1\nextent 1 \nlate 1 1 a 1\nlate 1 1 a -1\n",
		"an extent without data and blank": "pool 9 1\nextent 1\nlate 1 1 a 1\nlate 1 1 a -1\n",
		"an extent of 21 bytes":            "pool 60 1\nextent 1 " + strings.Repeat("x", 21) + "\nlate 1 1 a 1\nlate 1 1 a -1\n",
		"an extent of 21 blanks":           "pool 60 1\nextent 1 " + strings.Repeat(" ", 21) + "\nlate 1 1 a 1\nlate 1 1 a -1\n",
		"an extent with a byte 127":        "pool 60 1\nextent 1 a\x7f\nlate 1 1 a 1\nlate 1 1 a -1\n",
		"an extent with a byte 31":         "pool 60 1\nextent 1 a\x1f\nlate 1 1 a 1\nlate 1 1 a -1\n",
		"an extent that nobody names":      "pool 9 1\nextent 1 a\n",
		"a file ahead of a volume":         "pool 9 2\nfile a\nvolume 1 u 0\n",
		"a part ahead of a file":           "pool 9 2\nvolume 1 u 0\npart 0 0 1\nfile a\n",
		"a volume without a flag":          "pool 9 2\nvolume 1 u\n",
		"a flag 2":                         "pool 9 2\nvolume 1 u 2\n",
		"a flag -1":                        "pool 9 2\nvolume 1 u -1\n",
		"a flag 01":                        "pool 9 2\nvolume 1 u 01\n",
		"a flag 00":                        "pool 9 2\nvolume 1 u 00\n",
		"a flag true":                      "pool 9 2\nvolume 1 u true\n",
		"a flag and a blank":               "pool 9 2\nvolume 1 u 0 \n",
		"no flag, a blank":                 "pool 9 2\nvolume 1 u \n",
		"a name of none":                   "pool 9 2\nvolume 1  0\n",
		"a name of 9 letters":              "pool 9 2\nvolume 1 abcdefghi 0\n",
		"a name with a blank":              "pool 9 2\nvolume 1 u 0\nfile a b\n",
		"a name and a blank":               "pool 9 2\nvolume 1 u 0\nfile a \n",
		"a file without a name":            "pool 9 2\nvolume 1 u 0\nfile \n",
		"a file without a name and blank":  "pool 9 2\nvolume 1 u 0\nfile\n",
		"a file's name of 9 letters":       "pool 9 2\nvolume 1 u 0\nfile abcdefghi\n",
		"files that fall":                  "pool 9 2\nvolume 1 u 0\nfile b\nfile a\n",
		"a volume with the Id Next":        "pool 9 1\nvolume 1 u 0\n",
		"a late one ahead of a ref":        "pool 9 1\nextent 3 x\nlate 3 7 a -1\nref 3 7 a 1\n",
		"a ref ahead of a volume":          "pool 9 2\nextent 3 x\nref 3 7 a 1\nvolume 1 u 0\nlate 3 7 a -1\n",
		"an extent behind a volume":        "pool 9 2\nvolume 1 u 0\nextent 3 x\nref 3 7 a 1\nlate 3 7 a -1\n",
		"a ref below 0":                    "pool 9 1\nextent 3 x\nref 3 7 a -1\nlate 3 7 a 1\n",
		"a late one of 0":                  "pool 9 1\nextent 3 x\nlate 3 7 a 0\n",
		"a late one of -0":                 "pool 9 1\nextent 3 x\nlate 3 7 a -0\n",
		"counts that are not found":        someText + "late 1 1 a 1\n",
		"another line behind":              someText + "x\n",
		"no line feed behind":              strings.TrimSuffix(someText, "\n"),
		"a byte 0 behind":                  someText + "\x00",
	} {
		notRead(t, what, s)
		if _, ok := readByHand(s); ok {
			t.Errorf("%s: %q: right by hand", what, s)
		}
	}
}

// Many changes at once, where the readers must agree, too.
func TestTextsAgainstThoseByHand(t *testing.T) {
	r := rand.New(rand.NewSource(23))
	said := map[bool]int{}
	words := []string{"pool", "extent", "volume", "file", "part", "ref", "late", "0", "1", "2", "-1", "400", "1000000000", "a", "b", "", " ", "\n", "01", "+1"}
	for range 6000 {
		p := makePool(r)
		if !poolByHand(p) {
			continue
		}
		s := impl.PoolText(p)
		for range r.Intn(3) {
			l := strings.SplitAfter(s, "\n")
			i := r.Intn(len(l))
			w := strings.SplitAfter(l[i], " ")
			k := r.Intn(len(w))
			w[k] = words[r.Intn(len(words))] + w[k][max(len(w[k])-1, 0):]
			l[i] = strings.Join(w, "")
			s = strings.Join(l, "")
		}
		said[readAsByHand(t, "changed", s)]++
	}
	if said[true] < 200 || said[false] < 200 {
		t.Errorf("too few of one kind: %v", said)
	}
}

func TestTextsKeepTheirArguments(t *testing.T) {
	for _, c := range append(append(rightPools(), wrongPools()...), poolCase{"great", greatPool()}) {
		p := roomy(c.p)
		was := opened(p)
		s := impl.PoolText(p)
		if !reflect.DeepEqual(opened(p), was) {
			t.Errorf("%s: the pool or the room behind its lists was written into", c.name)
		}
		a, _ := impl.ReadPool(s)
		b, _ := impl.ReadPool(s)
		checkApart(t, c.name, poolSpans("one", a), poolSpans("two", b), poolSpans("the pool", p))
		if impl.PoolText(p) != s || impl.PoolText(a) != s || !reflect.DeepEqual(a, b) {
			t.Errorf("%s: another answer at the same pool", c.name)
		}
	}
}

func FuzzReadPool(f *testing.F) {
	for s := range rightTexts() {
		f.Add(s)
	}
	f.Fuzz(func(t *testing.T, s string) { readAsByHand(t, "fuzz", s) })
}
