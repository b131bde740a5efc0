package tests

import (
	"fmt"
	"math/rand"
	"regexp"
	"slices"
	"strconv"
	"strings"
	"testing"

	"loop.example/g00336/impl"
)

// lineForms are the lines of the chapter's table: W a word, N a number, T any text.
var lineForms = formsOf("make W", "drop W", "fix W", "flush", "snap W W", "write W W N T", "cut W W N", "unlink W W", "punch W W N N", "copy W W N N W W N", "sync", "sync N", "crash N N",
	"read W W", "files W", "vols", "room", "only W", "owners N")

func formsOf(forms ...string) map[string]*regexp.Regexp {
	all := map[string]*regexp.Regexp{}
	for _, f := range forms {
		s := strings.NewReplacer("W", `([^ ]+)`, "N", `(0|[1-9][0-9]{0,9})`, "T", `(.*)`).Replace(f)
		all[f] = regexp.MustCompile(`(?s)\A` + s + `\z`)
	}
	return all
}

// formOf is the form of a line and what stands in it; "" where it has none.
func formOf(line string) (string, []string) {
	for form, e := range lineForms {
		if m := e.FindStringSubmatch(line); m != nil {
			return form, m[1:]
		}
	}
	return "", nil
}

// actOfLine is nil for lines that are no acts.
func actOfLine(s impl.Store, form string, w []string) *impl.Act {
	n := func(i int) int64 {
		n, _ := strconv.ParseInt(w[i], 10, 64)
		return n
	}
	var a impl.Act
	switch word, _, _ := strings.Cut(form, " "); word {
	case "make":
		a = acOp(opMake(w[0]))
	case "drop":
		a = acOp(opDrop(w[0]))
	case "fix":
		a = acOp(opFix(w[0]))
	case "flush":
		a = acOp(opFlush)
	case "snap":
		a = acOp(opSnap(w[0], w[1]))
	case "write":
		a = acOp(opWrite(w[0], w[1], n(2), w[3]))
	case "cut":
		a = acOp(opCut(w[0], w[1], n(2)))
	case "unlink":
		a = acOp(opUnlink(w[0], w[1]))
	case "punch":
		a = acOp(opPunch(w[0], w[1], n(2), n(3)))
	case "copy":
		a = acOp(opCopy(w[0], w[1], n(2), n(3), w[4], w[5], n(6)))
	case "sync":
		a = acSync(-1)
		if len(w) > 0 {
			a.Power = n(0)
		}
	case "crash":
		a = acCrash(n(1), allPlaces(int(min(n(0), int64(len(s.Disk.Ops)))))...)
	default:
		return nil
	}
	return &a
}

// askedByHand is what a line that asks says of a store that is up.
func askedByHand(s impl.Store, form string, w []string) string {
	p := s.Pool
	says, _, _ := strings.Cut(form, " ")
	var v *impl.Volume
	if len(w) > 0 {
		v = volAt(&p, w[0])
	}
	if v == nil && (says == "read" || says == "files" || says == "only") {
		return "no"
	}
	switch says {
	case "read":
		x := itemAt(v, w[1])
		if x == nil {
			return "no"
		}
		return "read " + strings.ReplaceAll(textOfParts(p, x.Parts), "\x00", ".")
	case "files":
		for _, x := range v.Items {
			says += " " + x.Name
		}
	case "vols":
		for _, u := range p.Vols {
			says += " " + u.Name
		}
	case "room":
		room := p.Size
		for _, e := range p.Extents {
			room -= int64(len(e.Data))
		}
		return fmt.Sprintf("room %d %d", room, s.Num)
	case "only":
		return fmt.Sprintf("only %d", onlyByHand(p, v.Name))
	case "owners":
		for _, c := range walkedByHand(p) {
			if fmt.Sprint(c.Owner.Addr) == w[0] {
				says += fmt.Sprintf(" %d:%s:%d", c.Owner.Vol, c.Owner.File, c.N)
			}
		}
	default:
		return "what"
	}
	return says
}

// scriptByHand is what a script says, and the store behind its last line.
func scriptByHand(text string) (string, impl.Store) {
	p := impl.Pool{Size: 400, Next: 1}
	s := impl.Store{Disk: syncedDisk("s0", superByHand(0, p)), Pool: p}
	if len(text) > 4000 || strings.Count(text, "\n") > 40 || text != "" && !strings.HasSuffix(text, "\n") {
		return "too long\n", s
	}
	said := ""
	for line := range strings.Lines(text) {
		line = strings.TrimSuffix(line, "\n")
		if strings.Trim(line, " ") == "" {
			continue
		}
		form, words := formOf(line)
		a := actOfLine(s, form, words)
		switch {
		case a == nil && downByHand(s):
			said += "down\n"
		case a == nil:
			said += askedByHand(s, form, words) + "\n"
		default:
			n, code := actByHand(s, *a)
			switch code {
			case 0:
				said += "ok\n"
			case 3:
				_, why := doneByHand(s.Pool, a.Op)
				said += fmt.Sprintf("not %d\n", why)
			default:
				said += fmt.Sprintf("no %d\n", code)
			}
			s = n
		}
	}
	return said, s
}

// runsAsByHand holds one script against that by hand, and tells what it said.
func runsAsByHand(t *testing.T, text string) string {
	t.Helper()
	got := impl.RunScript(text)
	if want, _ := scriptByHand(text); got != want {
		t.Fatalf("%.2000q says\n%.2000q, want\n%.2000q", text, got, want)
	}
	return got
}

// lineOf is the line that asks for an op.
func lineOf(o impl.Op) string {
	switch o.Kind {
	case impl.OpMake:
		return "make " + o.Vol
	case impl.OpDrop:
		return "drop " + o.Vol
	case impl.OpFix:
		return "fix " + o.Vol
	case impl.OpFlush:
		return "flush"
	case impl.OpSnap:
		return "snap " + o.Vol + " " + o.To
	case impl.OpWrite:
		return fmt.Sprintf("write %s %s %d %s", o.Vol, o.File, o.At, o.Data)
	case impl.OpCut:
		return fmt.Sprintf("cut %s %s %d", o.Vol, o.File, o.Len)
	case impl.OpUnlink:
		return "unlink " + o.Vol + " " + o.File
	case impl.OpPunch:
		return fmt.Sprintf("punch %s %s %d %d", o.Vol, o.File, o.At, o.Len)
	case impl.OpCopy:
		return fmt.Sprintf("copy %s %s %d %d %s %s %d", o.Vol, o.File, o.From, o.Len, o.To, o.Into, o.At)
	}
	return "fly"
}

// makeLine is mostly a line of the table that is not refused by a store that is so.
func makeLine(r *rand.Rand, s impl.Store) string {
	line := ""
	vol := someVol(r, s.Pool, false)
	if s.Pool.Size == 0 && r.Intn(2) == 0 {
		return fmt.Sprint("crash ", r.Intn(4), " ", []int{0, r.Intn(60), 5000}[r.Intn(3)])
	}
	switch r.Intn(12) {
	case 0, 1, 2, 3, 4:
		line = lineOf(makeOp(r, s.Pool))
	case 5:
		line = []string{"sync", "sync", "sync 3", "sync 9", fmt.Sprint("sync ", r.Intn(4))}[r.Intn(5)]
	case 6:
		line = lineOf(opWrite(vol, someFile(r, s.Pool, vol), r.Int63n(101), randomText(r, 20)))
		if r.Intn(3) > 0 {
			break
		}
		line = fmt.Sprint("crash ", r.Intn(4), " ", []int{0, r.Intn(60), 5000, 9999999999}[r.Intn(4)])
	case 7, 8:
		line = "read " + vol + " " + someFile(r, s.Pool, vol)
	case 9:
		line = []string{"vols", "room"}[r.Intn(2)]
	case 10:
		line = []string{"files ", "only "}[r.Intn(2)] + vol
	case 11:
		line = fmt.Sprint("owners ", []int{1, 1 + r.Intn(40), r.Intn(400)}[r.Intn(3)])
	}
	if r.Intn(12) == 0 {
		line = spoilLine(r, line)
	}
	return line
}

// spoilLine changes a byte or two, which may leave a right line.
func spoilLine(r *rand.Rand, line string) string {
	at := r.Intn(len(line) + 1)
	put := []string{" ", " ", "  ", "0", "9", "-", "a", "A", "\x00", "\t", "\xff", "."}[r.Intn(12)]
	switch r.Intn(5) {
	case 0:
		return line[:at] + put + line[at:]
	case 1:
		return line[:at] + put + line[min(at+1, len(line)):]
	case 2:
		return line[:at] + line[min(at+1, len(line)):]
	case 3:
		return line[:at]
	}
	return strings.Repeat(" ", r.Intn(5)) + line[at:]
}

// makeScript is a script of that many lines, mostly of such as find what they name.
func makeScript(r *rand.Rand, count int) []string {
	lines := []string{"make u", "write u a 0 hello", "snap u v"}[:min(count, 1+r.Intn(3))]
	for len(lines) < count {
		_, s := scriptByHand(script(lines...))
		for range min(1+r.Intn(3), count-len(lines)) {
			lines = append(lines, makeLine(r, s))
		}
	}
	return lines
}

// Long scripts against what they say by hand, and promise 10 of them.
func TestScriptsAgainstThoseByHand(t *testing.T) {
	r := rand.New(rand.NewSource(51))
	said := map[string]int{}
	for row := range 300 {
		lines := makeScript(r, []int{40, 40, 30, 20, 9, 41}[row%6])
		whole := runsAsByHand(t, script(lines...))
		for _, s := range strings.Split(whole, "\n") {
			if word, _, found := strings.Cut(s, " "); found && word != "no" && word != "not" {
				s = word
			}
			said[s]++
		}
		if len(lines) > impl.MaxScript {
			continue
		}
		for cut := range lines {
			if begun := impl.RunScript(script(lines[:cut]...)); !strings.HasPrefix(whole, begun) {
				t.Fatalf("%q: cut behind %d: %q, which is not how %q begins", lines, cut, begun, whole)
			}
		}
	}
	for _, want := range []string{"ok", "not 2", "not 3", "not 4", "not 5", "not 6", "no", "no 5", "no 6", "down", "what", "read", "files", "vols", "room", "only", "owners", "too"} {
		if said[want] < 10 {
			t.Errorf("%q was said only %d times: %v", want, said[want], said)
		}
	}
}

// Lines that ask, put in anywhere, change nothing of what the others say (promise 10).
func TestLinesThatAskChangeNothing(t *testing.T) {
	r := rand.New(rand.NewSource(52))
	for range 100 {
		lines := makeScript(r, 1+r.Intn(30))
		want := strings.Split(impl.RunScript(script(lines...)), "\n")
		all, asked := slices.Clone(lines), make([]bool, len(lines))
		for len(all) < impl.MaxScript {
			at := r.Intn(len(all) + 1)
			ask := append(everyAsk(), "fly", "make", "read", "owners x", "room ")[r.Intn(len(everyAsk())+5)]
			all, asked = slices.Insert(all, at, ask), slices.Insert(asked, at, true)
		}
		got := strings.Split(impl.RunScript(script(all...)), "\n")
		var others []string
		place := 0
		for i, l := range all {
			if strings.Trim(l, " ") == "" {
				continue
			}
			if !asked[i] {
				others = append(others, got[place])
			}
			place++
		}
		if others = append(others, ""); !slices.Equal(others, want) || place != len(got)-1 {
			t.Fatalf("%q\nsays %q, want\n%q", all, others, want)
		}
	}
}

// Each line of the table with one byte turned, left out or put in, at each place, up and down.
func TestLinesNearToThoseOfTheTable(t *testing.T) {
	lines := append(append(everyAsk(), everyActLine()...), "crash 0 0", "crash 1 20", "sync 2")
	for _, ahead := range []string{script("make u", "write u a 0 xyz", "sync"), script("make u", "write u a 0 xyz", "sync 1")} {
		for _, l := range lines {
			changedTexts(l, []byte(" 09-+aA.\x00\xff\t\n"), func(what string, near string) {
				runsAsByHand(t, ahead+near+"\n"+script("vols", "room", "read u a"))
			})
		}
	}
}

// Words in any order, as many as there may be.
func TestAnyLines(t *testing.T) {
	r := rand.New(rand.NewSource(53))
	words := []string{"make", "drop", "fix", "flush", "snap", "write", "cut", "unlink", "punch", "copy", "sync", "crash", "read", "files", "vols", "room", "only", "owners", "u", "v", "a", "b", "0", "1", "2", "3", "20", "9999999999", "", "-1", "x y", "U"}
	forms := make([]string, 0, len(lineForms))
	for f := range lineForms {
		forms = append(forms, f)
	}
	slices.Sort(forms)
	for range 700 {
		lines := []string{"make u", "write u a 0 xyz"}
		for range r.Intn(39) {
			var l []string
			for range r.Intn(9) {
				l = append(l, words[r.Intn(len(words))])
			}
			if r.Intn(2) == 0 {
				l = strings.Fields(forms[r.Intn(len(forms))])
				for i := 1; i < len(l); i++ {
					some := map[string][]string{"W": {"u", "u", "v", "a", "a", "b", "U"}, "N": {"0", "1", "2", "3", "4", "20"}, "T": {"x", "", " x y "}}[l[i]]
					l[i] = some[r.Intn(len(some))]
				}
			}
			lines = append(lines, strings.Join(l, " "))
		}
		runsAsByHand(t, script(lines...))
	}
}

func FuzzRunScript(f *testing.F) {
	r := rand.New(rand.NewSource(54))
	for range 9 {
		f.Add(script(makeScript(r, 12)...))
	}
	for _, l := range slices.Concat(everyAsk(), everyActLine(), noLines()) {
		f.Add(script("make u", "write u a 0 xyz", l, "sync 1", l, "crash 1 99", l))
	}
	f.Fuzz(func(t *testing.T, s string) {
		runsAsByHand(t, s)
		runsAsByHand(t, script("make u", "sync 1")+s+"\nvols\n")
	})
}
