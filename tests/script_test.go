package tests

import (
	"fmt"
	"slices"
	"strconv"
	"strings"
	"testing"

	"loop.example/g00336/impl"
)

// tooLong is all that is said by a script that is none.
const tooLong = "too long\n"

// script is the lines, each ended.
func script(lines ...string) string {
	var b strings.Builder
	for _, l := range lines {
		b.WriteString(l + "\n")
	}
	return b.String()
}

// runs fails unless the script says just that.
func runs(t *testing.T, what string, text string, want string) {
	t.Helper()
	if got := impl.RunScript(text); got != want {
		t.Errorf("%s: %.1500q says\n%.1500q, want\n%.1500q", what, text, got, want)
	}
}

// answer is what the lines say, "" being a line that says nothing.
func answer(says []string) string {
	var b strings.Builder
	for _, s := range says {
		if s != "" {
			b.WriteString(s + "\n")
		}
	}
	return b.String()
}

// parted takes lines, each with what it says behind it.
func parted(pairs []string) (lines []string, says []string) {
	for i := 0; i < len(pairs); i += 2 {
		lines, says = append(lines, pairs[i]), append(says, pairs[i+1])
	}
	return lines, says
}

// plays takes lines, each with what it says behind it. It fails unless they say so, and promise 10 holds of them.
func plays(t *testing.T, what string, pairs ...string) {
	t.Helper()
	lines, says := parted(pairs)
	runs(t, what, script(lines...), answer(says))
	for i := range lines {
		runs(t, fmt.Sprint(what, ", cut behind ", i), script(lines[:i]...), answer(says[:i]))
	}
	withBlanks(t, what, lines, says)
	withAsks(t, what, lines, says)
}

// windows calls each with lists of what stands behind each line: more, behind as many lines as there is room for, then behind the next ones.
func windows(lines []string, more []string, each func(where string, behind [][]string)) {
	count := (impl.MaxScript - len(lines)) / len(more)
	if count == 0 || len(lines) == 0 {
		return
	}
	for from := 0; from < len(lines); from += count {
		behind := make([][]string, len(lines))
		for i := from; i < min(from+count, len(lines)); i++ {
			behind[i] = more
		}
		each(fmt.Sprintf("%q behind each from %d on", more, from), behind)
	}
}

func withBlanks(t *testing.T, what string, lines []string, says []string) {
	t.Helper()
	for _, blanks := range []string{"", " ", "     "} {
		windows(lines, []string{blanks}, func(where string, behind [][]string) {
			t.Helper()
			var ahead, all []string
			for i, l := range lines {
				all = append(append(all, l), behind[i]...)
				ahead = append(append(ahead, behind[i]...), l)
			}
			runs(t, what+", "+where, script(all...), answer(says))
			runs(t, what+", ahead, "+where, script(ahead...), answer(says))
		})
	}
}

// withAsks: behind lines that ask, the others say what they said.
func withAsks(t *testing.T, what string, lines []string, says []string) {
	t.Helper()
	for _, asks := range [][]string{{"read u a"}, {"files u"}, {"vols"}, {"room"}, {"only u"}, {"owners 1"}, {"read none a"}, {"files none"}, {"owners 0"}, {"read u a", "files u", "vols", "room", "only u", "owners 1"}} {
		windows(lines, asks, func(where string, behind [][]string) {
			t.Helper()
			var all []string
			asked := map[int]bool{}
			said := 0
			for i, l := range lines {
				all = append(append(all, l), behind[i]...)
				if says[i] != "" {
					said++
				}
				for range behind[i] {
					asked[said] = true
					said++
				}
			}
			var others []string
			for i, s := range strings.Split(impl.RunScript(script(all...)), "\n") {
				if !asked[i] {
					others = append(others, s)
				}
			}
			if got := strings.Join(others, "\n"); got != answer(says) {
				t.Errorf("%s, %s: the others say\n%.1500q, want\n%.1500q", what, where, got, answer(says))
			}
		})
	}
}

// Every line of the chapter's table.
func TestEveryLine(t *testing.T) {
	plays(t, "the first half",
		"vols", "vols",
		"room", "room 400 0",
		"make u", "ok",
		"vols", "vols u",
		"files u", "files",
		"only u", "only 0",
		"write u a 0 hello you", "ok",
		"read u a", "read hello you",
		"write u a 11 x", "ok",
		"read u a", "read hello you..x",
		"files u", "files a",
		"room", "room 390 0",
		"owners 1", "owners 1:a:1",
		"owners 10", "owners 1:a:1",
		"punch u a 2 3", "ok",
		"read u a", "read he... you..x",
		"owners 1", "owners 1:a:2",
		"cut u a 7", "ok",
		"read u a", "read he... y",
		"owners 10", "owners",
		"room", "room 390 0",
		"flush", "ok",
		"room", "room 391 0",
		"copy u a 1 5 u b 1", "ok",
		"read u b", "read .e... ",
		"owners 1", "owners 1:a:2 1:b:2",
		"files u", "files a b",
		"only u", "only 9",
		"snap u v", "ok",
		"vols", "vols u v",
		"files v", "files a b",
		"only u", "only 0",
		"owners 1", "owners 1:a:2 1:b:2 2:a:2 2:b:2",
		"write v c 3 Z", "ok",
		"only v", "only 1",
		"only u", "only 0",
		"owners 10", "owners 2:c:1",
	)
	plays(t, "the second half",
		"make u", "ok",
		"write u a 0 one", "ok",
		"snap u v", "ok",
		"fix u", "ok",
		"write u a 0 two", "not 6",
		"fix u", "not 6",
		"sync", "ok",
		"room", "room 397 1",
		"copy u a 0 2 v b 0", "ok",
		"unlink v a", "ok",
		"files v", "files b",
		"read v b", "read on",
		"read v a", "no",
		"owners 1", "owners 1:a:1 2:b:1",
		"crash 0 0", "ok",
		"room", "room 397 1",
		"files v", "files a",
		"read v a", "read one",
		"drop u", "ok",
		"vols", "vols v",
		"only v", "only 3",
		"read u a", "no",
		"sync 2", "ok",
		"room", "room 397 2",
		"unlink v a", "ok",
		"files v", "files",
		"room", "room 397 2",
		"sync 3", "ok",
		"room", "room 400 3",
		"make w", "ok",
		"sync 1", "no 5",
		"room", "down",
		"crash 1 9", "ok",
		"vols", "vols v",
		"room", "room 400 3",
		"sync 9", "ok",
		"drop v", "ok",
		"vols", "vols",
		"sync", "ok",
		"room", "room 400 5",
	)
}

// All limits of a pool that a script can meet stand in the way here, and every op meets each code of its own.
func TestEachCodeOfDone(t *testing.T) {
	plays(t, "make",
		"make U", "not 2", "make abcdefghi", "not 2", "make abcdefgh", "ok", "make abcdefgh", "not 4", "make b", "ok", "make c", "ok", "make d", "ok", "make e", "ok", "make f", "ok",
		"make g", "not 5", "make f", "not 4", "make F", "not 2", "vols", "vols abcdefgh b c d e f", "snap b g", "not 5", "snap b c", "not 4", "drop b", "ok", "make b", "ok", "vols", "vols abcdefgh c d e f b")
	plays(t, "drop and fix",
		"drop U", "not 2", "drop u", "not 3", "fix U", "not 2", "fix u", "not 3", "make u", "ok", "fix u", "ok", "fix u", "not 6", "drop u", "ok", "drop u", "not 3", "fix u", "not 3")
	plays(t, "snap",
		"snap U v", "not 2", "snap u V", "not 2", "snap u v", "not 3", "make v", "ok", "snap u v", "not 3", "make u", "ok", "snap u v", "not 4", "snap u u", "not 4", "fix u", "ok", "snap u w", "ok", "write w a 0 x", "ok", "files u", "files")
	plays(t, "write",
		"write U a 0 x", "not 2", "write u A 0 x", "not 2", "write u a 101 x", "not 2", "write u a 0 123456789012345678901", "not 2", "write u a 0 \x1f", "not 2", "write u a 0 \x7f", "not 2",
		"write u a 0 x", "not 3", "make u", "ok", "write u a 0 12345678901234567890", "ok", "write u a 100 x", "not 5", "write u a 99 x", "ok", "write u a 99 xy", "not 5",
		"fix u", "ok", "write u a 0 x", "not 6", "write u a 100 x", "not 6", "write u A 0 x", "not 2", "write v a 0 x", "not 3")
	plays(t, "cut",
		"cut U a 0", "not 2", "cut u A 0", "not 2", "cut u a 101", "not 2", "cut u a 0", "not 3", "make u", "ok", "cut u a 0", "not 3", "write u a 0 x", "ok", "cut u b 0", "not 3",
		"cut u a 100", "ok", "cut u a 101", "not 2", "cut u a 0", "ok", "read u a", "read ", "fix u", "ok", "cut u a 0", "not 6", "cut u b 0", "not 6", "cut u a 101", "not 2")
	plays(t, "unlink",
		"unlink U a", "not 2", "unlink u A", "not 2", "unlink u a", "not 3", "make u", "ok", "unlink u a", "not 3", "write u a 0 x", "ok", "unlink u a", "ok", "unlink u a", "not 3",
		"write u b 0 x", "ok", "fix u", "ok", "unlink u b", "not 6", "unlink u a", "not 6", "unlink u A", "not 2")
	plays(t, "punch",
		"punch U a 0 1", "not 2", "punch u A 0 1", "not 2", "punch u a 101 1", "not 2", "punch u a 0 0", "not 2", "punch u a 0 101", "not 2", "punch u a 0 1", "not 3", "make u", "ok", "punch u a 0 1", "not 3",
		"write u a 0 xyz", "ok", "punch u a 1 1", "ok", "read u a", "read x.z", "punch u a 100 1", "not 5", "punch u a 99 1", "ok", "punch u a 1 100", "not 5", "punch u a 0 100", "ok",
		"fix u", "ok", "punch u a 0 1", "not 6", "punch u b 0 1", "not 6", "punch u a 0 0", "not 2")
}

func TestEachCodeOfCopies(t *testing.T) {
	plays(t, "their form",
		"copy U a 0 1 v b 0", "not 2", "copy u A 0 1 v b 0", "not 2", "copy u a 101 1 v b 0", "not 2", "copy u a 0 0 v b 0", "not 2", "copy u a 0 101 v b 0", "not 2",
		"copy u a 0 1 V b 0", "not 2", "copy u a 0 1 v B 0", "not 2", "copy u a 0 1 v b 101", "not 2", "copy u a 0 1 v b 0", "not 3")
	plays(t, "what is there",
		"make v", "ok", "copy u a 0 1 v b 0", "not 3", "make u", "ok", "copy u a 0 1 v b 0", "not 3", "write u a 0 xyz", "ok", "copy u a 0 4 v b 0", "not 3", "copy u a 3 1 v b 0", "not 3", "copy u a 1 2 v b 1", "ok",
		"read v b", "read .yz", "copy u a 0 1 w b 0", "not 3", "copy u b 0 1 v b 0", "not 3", "copy u a 0 3 v b 98", "not 5", "copy u a 0 3 v b 97", "ok", "fix v", "ok", "copy u a 0 1 v b 0", "not 6",
		"copy w a 0 1 v b 0", "not 6", "copy u a 0 4 v b 98", "not 6", "copy v b 0 2 u a 3", "ok", "read u a", "read xyz.y")
}

// Three limits more: the files of a volume, the parts of a file, the bytes of the space.
func TestFullPools(t *testing.T) {
	plays(t, "files", "make u", "ok", "write u a 0 x", "ok", "write u b 0 x", "ok", "write u c 0 x", "ok", "write u d 0 x", "ok", "write u e 0 x", "ok", "write u f 0 x", "not 5", "copy u a 0 1 u f 0", "not 5", "write u e 1 x", "ok",
		"files u", "files a b c d e", "room", "room 394 0", "unlink u c", "ok", "write u f 0 y", "ok", "files u", "files a b d e f")
	parts := []string{"make u", "ok"}
	for i := range impl.MaxParts {
		parts = append(parts, fmt.Sprint("write u a ", i, " x"), "ok")
	}
	plays(t, "parts", append(parts, "write u a 16 x", "not 5", "punch u a 1 1", "ok", "write u a 15 y", "ok", "punch u a 99 1", "not 5", "read u a", "read x.xxxxxxxxxxxxxy")...)
	full := []string{"make u", "ok"}
	for i := range 20 {
		full = append(full, fmt.Sprint("write u a ", i%5*20, " 12345678901234567890"), "ok")
	}
	plays(t, "bytes", append(full, "room", "room 0 0", "write u a 0 x", "not 5", "flush", "ok", "room", "room 300 0", "write u a 0 x", "ok", "room", "room 299 0", "only u", "only 101", "read u a", "read x"+strings.Repeat("12345678901234567890", 5)[1:])...)
}

// downCase are lines behind which the store is down. The disk has ops then; when all of them are kept, whole, next is asked behind the crash, else old.
type downCase struct {
	name      string
	pairs     []string
	ops       int
	old, next []string
}

func atDown() []downCase {
	made := []string{"make u", "ok", "write u a 0 old", "ok"}
	three := slices.Concat(made, []string{"sync", "ok", "sync", "ok", "write u a 0 new", "ok"})
	none := []string{"room", "room 400 0", "vols", "vols", "read u a", "no", "make u", "ok"}
	empty := []string{"room", "room 400 1", "vols", "vols", "read u a", "no", "make u", "ok"}
	first := []string{"room", "room 397 1", "vols", "vols u", "read u a", "read old", "make u", "not 4"}
	second := []string{"room", "room 397 2", "vols", "vols u", "read u a", "read old", "make u", "not 4"}
	third := []string{"room", "room 397 3", "vols", "vols u", "read u a", "read new", "make u", "not 4"}
	down := func(l []string, power string) []string { return slices.Concat(l, []string{"sync " + power, "no 5"}) }
	return []downCase{
		{"new, nothing done", down(nil, "0"), 0, none, none},
		{"new, written", down(nil, "1"), 1, none, empty},
		{"nothing done", down(made, "0"), 0, none, none},
		{"written", down(made, "1"), 1, none, first},
		{"a slot there, nothing done", down(three, "0"), 0, second, second},
		{"a slot there, removed", down(three, "1"), 1, second, second},
		{"a slot there, written", down(three, "2"), 2, second, third},
	}
}

// everyAsk are lines of the table that are no acts, everyActLine such as are.
func everyAsk() []string {
	return []string{"read u a", "read none a", "read u none", "read U A", "files u", "files none", "vols", "room", "only u", "only none", "owners 1", "owners 0", "owners 9999999999"}
}

func everyActLine() []string {
	return []string{"make new", "make u", "make U", "drop u", "drop none", "fix u", "flush", "snap u new", "snap u u", "write u a 0 x", "write u a 0 ", "write U a 999 ~", "cut u a 1", "unlink u a", "punch u a 0 1", "punch u a 0 0", "copy u a 0 1 u b 0", "sync", "sync 0", "sync 1", "sync 3"}
}

// noLines are none of the table's.
func noLines() []string {
	return []string{
		"fly", "make", "make ", "make  u", " make u", "make u ", "make u v", "MAKE u", "Make u", "makeu", "mak u", "makes u", "make\tu", "make\x00", "\tmake u", ".", "\x00", "\xff", "\t", "é", "make\xc2\xa0u", "\xc2\xa0make u", "#", "ok", "not", "no", "what", "down",
		"drop", "drop ", "drop u u", "drop u ", "DROP u", "fix", "fix ", "fix u u", "Fix u", "flush ", "flush u", "flush 0", "Flush", "flus", "flush\t", "snap", "snap u", "snap u ", "snap u  v", "snap  u v", "snap u v ", "snap u v w", "Snap u v",
		"write", "write ", "write u", "write u ", "write u a", "write u a ", "write u a 0", "write  u a 0 x", "write u  a 0 x", "write u a  0 x", " write u a 0 x", "write u a x 0", "write u a -1 x", "write u a -0 x", "write u a +0 x", "write u a 00 x", "write u a 01 x", "write u a  x", "write u a 0x x", "write u a 0.0 x", "write u a 0\tx", "Write u a 0 x",
		"cut", "cut u", "cut u a", "cut u a ", "cut u a x", "cut u a -1", "cut u a 1 ", "cut u a 1 1", "cut u  a 1", "cut u a  1", "Cut u a 1", "unlink", "unlink u", "unlink u ", "unlink u a ", "unlink u a b", "unlink  u a", "unlink u  a", "Unlink u a",
		"punch", "punch u", "punch u a", "punch u a 1", "punch u a 1 ", "punch u a 1 1 ", "punch u a 1 1 1", "punch u a  1 1", "punch u a 1  1", "punch u a x 1", "punch u a 1 x", "punch u a -1 1", "punch u a 1 -1", "Punch u a 1 1",
		"copy", "copy u", "copy u a", "copy u a 0", "copy u a 0 1", "copy u a 0 1 v", "copy u a 0 1 v b", "copy u a 0 1 v b ", "copy u a 0 1 v b 0 ", "copy u a 0 1 v b 0 0", "copy u a 0 1 v  b 0", "copy u a 0  1 v b 0", "copy  u a 0 1 v b 0", "copy u a x 1 v b 0", "copy u a 0 x v b 0", "copy u a 0 1 v b x", "copy u a -1 1 v b 0", "copy u a 0 -1 v b 0", "copy u a 0 1 v b -1", "Copy u a 0 1 v b 0", "copy u a v b 0 1 0",
		"sync ", "sync  1", "sync 1 ", "sync 1 1", "sync x", "sync -1", "sync -0", "sync +1", "sync 01", "sync 00", "Sync", "SYNC 1", "syncs", "sync1", "sync 10000000000", "sync 9223372036854775807", "sync 9223372036854775808", "sync 18446744073709551616",
		"crash", "crash ", "crash 1", "crash 1 ", "crash  1 1", "crash 1  1", "crash 1 1 ", "crash 1 1 1", "crash x 1", "crash 1 x", "crash -1 1", "crash 1 -1", "crash +1 1", "crash 1 +1", "crash 01 1", "crash 1 01", "crash 10000000000 1", "crash 1 10000000000", "crash 9223372036854775807 0", "crash 0 9223372036854775807", "crash 9223372036854775808 0", "crash 0 18446744073709551616", "Crash 1 1",
		"read", "read ", "read u", "read u ", "read  u a", "read u  a", "read u a ", "read u a b", " read u a", "Read u a", "READ u a", "files", "files ", "files  u", "files u ", "files u a", " files u", "Files u", "file u",
		"vols ", "vols u", " vols", "Vols", "vol", "room ", "room 1", " room", "Room", "only", "only ", "only  u", "only u ", "only u u", "Only u", "owners", "owners ", "owners  1", "owners 1 ", "owners 1 1", "owners x", "owners -1", "owners -0", "owners +1", "owners 01", "owners 1x", "owners 0x1", "owners 1_0", "owners 1.0", "owners 1e1", "owners ٣", "owners １", "owners 10000000000", "owners 9223372036854775807", "owners 9223372036854775808", "owners 00000000001", "Owners 1", "owner 1",
	}
}

// Behind a loss of power lines that ask, and such as are none, say "down"; the acts say why not; lines of blanks nothing.
func TestWhatIsAskedWhileItIsDown(t *testing.T) {
	for _, c := range atDown() {
		for said, lines := range map[string][]string{"down": append(everyAsk(), noLines()...), "no 6": everyActLine(), "": {"", " ", "   ", strings.Repeat(" ", 900)}} {
			for len(lines) > 0 {
				some := lines[:min(20, len(lines))]
				lines = lines[len(some):]
				pairs := slices.Clone(c.pairs)
				for _, l := range some {
					pairs = append(pairs, l, said)
				}
				pairs = append(pairs, "room", "down", "make new", "no 6", "crash 0 0", "ok", "files new", "no")
				all, says := parted(pairs)
				runs(t, c.name, script(all...), answer(says))
			}
		}
	}
}

// A crash brings the store back, and what is asked then is what was committed last, or what was to be.
func TestWhatIsAskedBehindACrash(t *testing.T) {
	for _, c := range atDown() {
		for keep := range c.ops + 3 {
			for _, torn := range []int{0, 1, 20, 5000, 9999999999} {
				left := c.old
				if keep >= c.ops && torn >= 5000 {
					left = c.next
				}
				crash := fmt.Sprint("crash ", keep, " ", torn)
				plays(t, c.name+", "+crash, slices.Concat(c.pairs, []string{"room", "down", "fly", "down", crash, "ok", "fly", "what"}, left)...)
			}
		}
	}
}

// Lines near to those of the table say "what", and change nothing.
func TestLinesThatAreNone(t *testing.T) {
	lines := noLines()
	for len(lines) > 0 {
		some := lines[:min(30, len(lines))]
		lines = lines[len(some):]
		pairs := []string{"make u", "ok", "write u a 0 xyz", "ok", "sync", "ok"}
		for _, l := range some {
			pairs = append(pairs, l, "what")
		}
		plays(t, "none", append(pairs, "vols", "vols u", "files u", "files a", "read u a", "read xyz", "room", "room 397 1")...)
	}
}

// A number may have ten digits, no sign and no nought ahead.
func TestNumbersInLines(t *testing.T) {
	forms := []string{"write u a % x", "cut u a %", "punch u a % 1", "punch u a 1 %", "copy u a % 1 u b 0", "copy u a 0 % u b 0", "copy u a 0 1 u b %", "sync %", "crash % 0", "crash 0 %", "owners %"}
	for _, form := range forms {
		for _, number := range []string{"", "-", "+", "-0", "-1", "-10", "+0", "+1", "00", "01", "001", "0000000000", "0x1", "1x", "x1", "x", "1.0", "1.", ".1", "1e1", "1,0", "1_0", "_1", "1\t", "\t1", "1\r", "1\x00", "\x00", "٣", "１", "\xff",
			"10000000000", "99999999999", "100000000000", "9223372036854775806", "9223372036854775807", "9223372036854775808", "18446744073709551615", "18446744073709551616", "18446744073709551617", "-9223372036854775808", strings.Repeat("9", 400), strings.Repeat("0", 400), "1" + strings.Repeat("0", 400)} {
			l := strings.ReplaceAll(form, "%", number)
			runs(t, "no number", script("make u", "write u a 0 xyz", l, "vols", "read u a", "room"), script("ok", "ok", "what", "vols u", "read xyz", "room 397 0"))
		}
		for _, number := range []string{"0", "1", "9", "10", "100", "101", "999", "4294967296", "9999999999"} {
			l := strings.ReplaceAll(form, "%", number)
			n, _ := strconv.ParseInt(number, 10, 64)
			runs(t, "a number", script("make u", "write u a 0 xyz", l), script("ok", "ok", saidOfNumber(form, n)))
		}
	}
}

// saidOfNumber is what each form of TestNumbersInLines says to that number.
func saidOfNumber(form string, n int64) string {
	switch {
	case strings.HasPrefix(form, "sync"):
		if n < 2 {
			return "no 5"
		}
		return "ok"
	case strings.HasPrefix(form, "crash"):
		return "ok"
	case strings.HasPrefix(form, "owners"):
		if n == 1 {
			return "owners 1:a:1"
		}
		return "owners"
	}
	zero := form == "punch u a 1 %" || form == "copy u a 0 % u b 0"
	switch {
	case n > 100, zero && n == 0:
		return "not 2"
	case form == "punch u a % 1" && n == 100, form == "punch u a 1 %" && n == 100, form == "write u a % x" && n == 100, form == "copy u a 0 1 u b %" && n == 100:
		return "not 5"
	case form == "copy u a % 1 u b 0" && n > 2, form == "copy u a 0 % u b 0" && n > 3:
		return "not 3"
	}
	return "ok"
}

// TEXT is all behind the fourth blank, whatever it is.
func TestTextsOfWrites(t *testing.T) {
	for text, read := range map[string]string{
		"x": "x", " ": " ", "  ": "  ", " x": " x", "x ": "x ", "  x  y  ": "  x  y  ", "0": "0", "write u a 0 x": "write u a 0 x", ".": ".", "...": "...", "~!\"#$%&'()": "~!\"#$%&'()", strings.Repeat(" ", 20): strings.Repeat(" ", 20),
		"12345678901234567890": "12345678901234567890", "A Z": "A Z", "\\n": "\\n",
	} {
		plays(t, "a text", "make u", "ok", "write u a 0 "+text, "ok", "read u a", "read "+read, "write u b 2 "+text, "ok", "read u b", "read .."+read, "room", fmt.Sprint("room ", 400-2*len(text), " 0"))
	}
	for _, text := range []string{"", strings.Repeat(" ", 21), "123456789012345678901", strings.Repeat("x", 999), "\x00", "x\x00", "\x1f", "\x7f", "\x80", "\xff", "é", "\t", "x\r", "\r", "x\ty", "\x0b", "\u2028", "\u00a0"} {
		plays(t, "a wrong text", "make u", "ok", "write u a 0 "+text, "not 2", "read u a", "no", "files u", "files", "room", "room 400 0", "write v a 0 "+text, "not 2", "fix u", "ok", "write u a 0 "+text, "not 2")
	}
	runs(t, "no fourth blank", script("make u", "write u a 0", "write u a", "read u a"), script("ok", "what", "what", "no"))
	runs(t, "a line feed ends it", "make u\nwrite u a 0 x\ny\nread u a\n", script("ok", "ok", "what", "read x"))
}

// Any word may stand for a name. One that is none is refused by the op, and there is nothing of it.
func TestAnyWords(t *testing.T) {
	for _, w := range []string{"\x00", "\x01", "\t", "\r", "\x7f", "\x80", "\xff", "é", "\u00a0", "\u2028", "U", "aB", "a1", "1", "0", "-1", ".", "a.b", "a:b", "a-b", "abcdefghi", strings.Repeat("a", 300), "u\x00", "\x00u", "u\r", "{", "`", "@", "["} {
		for _, form := range []string{"make %", "drop %", "fix %", "snap % v", "snap u %", "write % a 0 x", "write u % 0 x", "cut % a 0", "cut u % 0", "unlink % a", "unlink u %", "punch % a 0 1", "punch u % 0 1", "copy % a 0 1 u b 0", "copy u % 0 1 u b 0", "copy u a 0 1 % b 0", "copy u a 0 1 u % 0"} {
			l := strings.ReplaceAll(form, "%", w)
			runs(t, "a word", script("make u", "write u a 0 xyz", l, "vols", "files u"), script("ok", "ok", "not 2", "vols u", "files a"))
		}
		for _, form := range []string{"read % a", "read u %", "files %", "only %"} {
			l := strings.ReplaceAll(form, "%", w)
			runs(t, "a word that is asked for", script("make u", "write u a 0 xyz", l), script("ok", "ok", "no"))
		}
		runs(t, "a word alone", script("make u", w, w+" u", "vols"+w, "vols "+w, "room"+w), script("ok", "what", "what", "what", "what", "what"))
	}
	plays(t, "words of the table as names", "make make", "ok", "make vols", "ok", "write make write 0 read", "ok", "read make write", "read read", "files make", "files write", "vols", "vols make vols", "drop make", "ok", "vols", "vols vols", "files files", "no")
}

func TestAskingByLines(t *testing.T) {
	plays(t, "nothing there", "vols", "vols", "room", "room 400 0", "files u", "no", "read u a", "no", "only u", "no", "owners 0", "owners", "owners 1", "owners", "owners 400", "owners", "owners 401", "owners", "owners 9999999999", "owners")
	plays(t, "a volume without files", "make u", "ok", "files u", "files", "only u", "only 0", "read u a", "no", "read u u", "no", "vols", "vols u", "files v", "no", "only v", "no", "sync", "ok", "files u", "files", "room", "room 400 1")
	plays(t, "an empty file", "make u", "ok", "write u a 0 x", "ok", "cut u a 0", "ok", "read u a", "read ", "files u", "files a", "owners 1", "owners", "room", "room 399 0", "only u", "only 0", "sync", "ok", "read u a", "read ", "room", "room 400 1", "unlink u a", "ok", "read u a", "no", "files u", "files")
	plays(t, "bytes that are 0", "make u", "ok", "write u a 3 x.y", "ok", "read u a", "read ...x.y", "punch u a 4 1", "ok", "read u a", "read ...x.y", "cut u a 9", "ok", "read u a", "read ...x.y...", "punch u a 0 100", "ok", "read u a", "read "+strings.Repeat(".", 100), "owners 1", "owners", "write u b 99 z", "ok", "read u b", "read "+strings.Repeat(".", 99)+"z", "cut u b 50", "ok", "read u b", "read "+strings.Repeat(".", 50))
	plays(t, "nobody names it", "make u", "ok", "write u a 0 abc", "ok", "write u b 0 de", "ok", "unlink u a", "ok", "owners 1", "owners", "owners 2", "owners", "owners 4", "owners 1:b:1", "room", "room 395 0", "flush", "ok", "owners 1", "owners", "room", "room 398 0", "owners 4", "owners 1:b:1")
	plays(t, "many owners", "make v", "ok", "make u", "ok", "write u b 0 abc", "ok", "copy u b 0 1 u a 0", "ok", "copy u b 2 1 u a 5", "ok", "copy u b 0 2 v c 0", "ok", "snap u w", "ok", "owners 1", "owners 1:c:1 2:a:2 2:b:1 3:a:2 3:b:1", "drop v", "ok", "owners 1", "owners 2:a:2 2:b:1 3:a:2 3:b:1", "vols", "vols u w", "make v", "ok", "vols", "vols u w v", "copy w a 0 1 v z 0", "ok", "owners 1", "owners 2:a:2 2:b:1 3:a:2 3:b:1 4:z:1")
	plays(t, "only", "make u", "ok", "write u a 0 abc", "ok", "write u b 0 de", "ok", "only u", "only 5", "snap u v", "ok", "only u", "only 0", "only v", "only 0", "unlink v a", "ok", "only u", "only 3", "write v b 1 X", "ok", "only v", "only 1", "only u", "only 3", "drop v", "ok", "only u", "only 5", "only v", "no", "room", "room 394 0")
	plays(t, "files in order", "make u", "ok", "write u b 0 x", "ok", "write u ab 0 x", "ok", "write u a 0 x", "ok", "write u z 0 x", "ok", "files u", "files a ab b z", "unlink u ab", "ok", "files u", "files a b z")
}

// How far the power goes, with a slot that is not there yet and with one that is.
func TestSyncsByLines(t *testing.T) {
	for power, said := range map[string][2]string{"0": {"no 5", "no 5"}, "1": {"no 5", "no 5"}, "2": {"ok", "no 5"}, "3": {"ok", "ok"}, "4": {"ok", "ok"}, "9999999999": {"ok", "ok"}} {
		for i, ahead := range [][]string{{"sync", "ok"}, {"sync", "ok", "sync", "ok"}} {
			line := append([]string{"make u", "ok"}, ahead...)
			line = append(line, "make v", "ok", "sync "+power, said[i])
			if said[i] == "ok" {
				line = append(line, "vols", "vols u v", "room", fmt.Sprint("room 400 ", i+2))
			} else {
				line = append(line, "vols", "down", "room", "down", "sync", "no 6", "sync "+power, "no 6", "make w", "no 6", "flush", "no 6")
			}
			plays(t, "sync "+power, append(line, "crash 0 0", "ok")...)
		}
	}
	var many []string
	for i := range 39 {
		many = append(many, []string{"sync", "sync 3", "sync 9"}[i%3], "ok")
	}
	plays(t, "many", append(many, "room", "room 400 39")...)
}

// A crash keeps the first K ops, the last of them torn. Of a store that is up none is left to keep.
func TestCrashesByLines(t *testing.T) {
	commitment := len(superByHand(1, impl.Pool{Size: 400, Next: 2, Vols: []impl.Volume{vol(1, "u")}}))
	for keep, kept := range []bool{false, true, true, true} {
		for _, torn := range []int{0, 1, 4, commitment - 1, commitment, commitment + 1, 9999999999} {
			said := []string{"vols", "vols", "room", "room 400 0"}
			if kept && torn >= commitment {
				said = []string{"vols", "vols u", "room", "room 400 1"}
			}
			crash := fmt.Sprint("crash ", keep, " ", torn)
			plays(t, crash, slices.Concat([]string{"make u", "ok", "sync 1", "no 5", crash, "ok"}, said, []string{crash, "ok"}, said)...)
		}
	}
	for _, crash := range []string{"crash 0 0", "crash 0 9999999999", "crash 1 0", "crash 2 5000", "crash 9999999999 9999999999"} {
		plays(t, "up", crash, "ok", "make u", "ok", "vols", "vols u", crash, "ok", "vols", "vols", "make v", "ok", "sync", "ok", "make w", "ok", crash, "ok", "vols", "vols v", "room", "room 400 1")
	}
	// With a slot that is there, the first op removes it, and only the second one is an append, which may be torn.
	three := []string{"make u", "ok", "sync", "ok", "sync", "ok", "make v", "ok", "sync 2", "no 5"}
	for crash, said := range map[string][2]string{
		"crash 0 0": {"vols u", "room 400 2"}, "crash 0 9999": {"vols u", "room 400 2"}, "crash 1 0": {"vols u", "room 400 2"}, "crash 1 9999": {"vols u", "room 400 2"},
		"crash 2 0": {"vols u", "room 400 2"}, "crash 2 40": {"vols u", "room 400 2"}, "crash 2 9999": {"vols u v", "room 400 3"}, "crash 3 9999": {"vols u v", "room 400 3"}, "crash 9999999999 9999999999": {"vols u v", "room 400 3"},
	} {
		plays(t, crash, append(slices.Clone(three), crash, "ok", "vols", said[0], "room", said[1], "sync", "ok", "vols", said[0])...)
	}
}

// Each way of losing power in four syncs, again and again: there is always a pool, so no crash of a script says that there is none.
func TestNoCrashLeavesNothing(t *testing.T) {
	var ways []string
	for power := range 4 {
		for keep := range 4 {
			for _, torn := range []int{0, 7, 5000} {
				ways = append(ways, script("make v", fmt.Sprint("sync ", power), fmt.Sprint("crash ", keep, " ", torn)))
			}
		}
	}
	for _, one := range ways {
		for _, two := range ways {
			text := script("make u", "sync") + one + two + one + two + script("room")
			last := strings.Split(strings.TrimSuffix(impl.RunScript(text), "\n"), "\n")
			for i := 4; i < len(last); i += 3 {
				if last[i] != "ok" {
					t.Fatalf("%q: %q", text, last)
				}
			}
			if !strings.HasPrefix(last[len(last)-1], "room 400 ") {
				t.Fatalf("%q: %q", text, last)
			}
		}
	}
}

func TestLimitsOfScripts(t *testing.T) {
	runs(t, "an empty one", "", "")
	runs(t, "a line feed", "\n", "")
	runs(t, "a blank", " ", tooLong)
	runs(t, "a blank, ended", " \n", "")
	runs(t, "not ended", "vols", tooLong)
	runs(t, "the last one not ended", "vols\nvols", tooLong)
	runs(t, "the last one of blanks not ended", "vols\n ", tooLong)
	runs(t, "the first one of blanks not ended", "  ", tooLong)
	runs(t, "a carriage return behind the last", "vols\n\r", tooLong)
	runs(t, "a carriage return for a line feed", "vols\r", tooLong)
	runs(t, "both", "vols\r\n", "what\n")
	for _, l := range []string{"", " ", "   ", "vols", "fly", "make u", "crash 0 0", "sync", "sync 0"} {
		for _, n := range []int{39, 40} {
			if got := impl.RunScript(strings.Repeat(l+"\n", n)); got == tooLong || strings.Count(got, "\n") != n*min(1, len(strings.TrimSpace(l))) {
				t.Errorf("%d lines of %q: %q", n, l, got)
			}
		}
		for _, n := range []int{41, 42, 100, 300} {
			runs(t, "too many lines", strings.Repeat(l+"\n", n), tooLong)
		}
		runs(t, "40 and one that is not ended", strings.Repeat(l+"\n", 40)+"vols", tooLong)
		runs(t, "40 and a blank", strings.Repeat(l+"\n", 40)+" ", tooLong)
		runs(t, "39 and one that is not ended", strings.Repeat(l+"\n", 39)+"vols", tooLong)
	}
	runs(t, "40 lines, and blanks in the way", strings.Repeat("\n", 20)+strings.Repeat("vols\n", 20), strings.Repeat("vols\n", 20))
	runs(t, "41 lines, one of which says something", strings.Repeat("\n", 40)+"vols\n", tooLong)
	runs(t, "one that says something, and 40", "vols\n"+strings.Repeat(" \n", 40), tooLong)
}

func TestBytesOfScripts(t *testing.T) {
	full := func(n int, each func(size int) string, said string) {
		t.Helper()
		text := each(n)
		if len(text) != n {
			t.Fatalf("%d bytes, not %d", len(text), n)
		}
		if n > impl.MaxLines {
			said = tooLong
		}
		runs(t, fmt.Sprint(n, " bytes"), text, said)
	}
	for _, n := range []int{3999, 4000, 4001, 4002, 8000, 100000} {
		full(n, func(n int) string { return strings.Repeat(" ", n-1) + "\n" }, "")
		full(n, func(n int) string { return strings.Repeat("x", n-1) + "\n" }, "what\n")
		full(n, func(n int) string { return strings.Repeat("\x00", n-1) + "\n" }, "what\n")
		full(n, func(n int) string { return "make " + strings.Repeat("u", n-6) + "\n" }, "not 2\n")
		full(n, func(n int) string { return "make u\n" + strings.Repeat(" ", n-8) + "\n" }, "ok\n")
		full(n, func(n int) string { return strings.Repeat(" ", n-8) + "\nmake u\n" }, "ok\n")
		full(n, func(n int) string { return "make u\nwrite u a 0 " + strings.Repeat("x", n-20) + "\n" }, "ok\nnot 2\n")
		full(n, func(n int) string { return "read u " + strings.Repeat("\xff", n-8) + "\n" }, "no\n")
		full(n, func(n int) string { return "owners " + strings.Repeat("9", n-8) + "\n" }, "what\n")
		full(n, func(n int) string { return strings.Repeat("vols\n", 39) + strings.Repeat(" ", n-196) + "\n" }, strings.Repeat("vols\n", 39))
	}
	ended := strings.Repeat(strings.Repeat(" ", 99)+"\n", 40)
	runs(t, "40 lines and 4000 bytes", ended, "")
	runs(t, "both passed", ended+"\n", tooLong)
	runs(t, "4000 bytes, the last not ended", ended[:3999]+" ", tooLong)
	// Runes are not what is counted.
	runs(t, "4000 bytes of runes", strings.Repeat("é", 1999)+"x\n", "what\n")
	runs(t, "4001 bytes of runes", strings.Repeat("é", 2000)+"\n", tooLong)
}
