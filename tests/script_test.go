package tests

import (
	"fmt"
	"math"
	"math/rand"
	"regexp"
	"slices"
	"strings"
	"testing"

	"loop.example/g00331/impl"
)

func TestScriptConstants(t *testing.T) {
	if impl.MaxScript != 1200 || impl.MaxLines != 40 {
		t.Error("bounds")
	}
}

func noScript(code int64) impl.ScriptResult { return impl.ScriptResult{Code: code} }

func scripted(f impl.FsWorld, said string) impl.ScriptResult {
	return impl.ScriptResult{FsWorld: f, Said: said}
}

func text(told string) impl.TextResult { return impl.TextResult{Text: told} }

func noText(code int64) impl.TextResult { return impl.TextResult{Code: code} }

func equalScripts(a, b impl.ScriptResult) bool {
	return a.Code == b.Code && a.Said == b.Said && equalFsWorlds(a.FsWorld, b.FsWorld)
}

// checkScript: the code, all of the file system, what is said, and no fault in it; beside a code nothing.
func checkScript(t *testing.T, name string, got, want impl.ScriptResult) {
	t.Helper()
	if !equalScripts(got, want) {
		t.Errorf("%s: %+v, want %+v", name, got, want)
	}
	if fault := wantFsWorldFault(got.FsWorld); got.Code == impl.OK && fault != impl.OK {
		t.Errorf("%s: %+v has the fault %d", name, got.FsWorld, fault)
	}
	if got.Code != impl.OK && !equalScripts(got, noScript(got.Code)) {
		t.Errorf("%s: %+v tells more than its code", name, got)
	}
}

func checkText(t *testing.T, name string, got, want impl.TextResult) {
	t.Helper()
	if got != want {
		t.Errorf("%s: %+v, want %+v", name, got, want)
	}
}

// The chapter's words, how many numbers stand behind each, and of which kind its operation is.
var takesOfWord = map[string]int{"make": 2, "dir": 2, "rm": 2, "read": 2, "look": 2, "move": 4, "link": 4, "write": 3, "step": 1, "leave": 1, "tick": 1, "split": 1, "fall": 0, "drive": 0, "say": 1, "show": 0}

var kindOfWord = map[string]int64{"make": 1, "dir": 2, "rm": 3, "move": 4, "link": 5, "write": 6, "read": 7, "look": 8}

var lineOfWord = linesOfWords()

func linesOfWords() map[string]*regexp.Regexp {
	all := map[string]*regexp.Regexp{"": regexp.MustCompile("^ *$")}
	for word, takes := range takesOfWord {
		all[word] = regexp.MustCompile("^ *" + word + strings.Repeat(" +(0|[1-9][0-9]{0,3})", takes) + " *$")
	}
	return all
}

func wordsInOrder() (words []string) {
	for word := range takesOfWord {
		words = append(words, word)
	}
	slices.Sort(words)
	return words
}

// wantOrder and the others up to wantRunScript say the chapter once more, with its own numbers.
func wantOrder(line string) (word string, n []int64, ok bool) {
	for word, pattern := range lineOfWord {
		found := pattern.FindStringSubmatch(line)
		if found == nil {
			continue
		}
		for _, digits := range found[1:] {
			var number int64
			fmt.Sscan(digits, &number)
			n = append(n, number)
		}
		return word, n, true
	}
	return "", nil, false
}

func wantWords(line string) (words []string) {
	for from := 0; from < len(line); {
		to := from
		for to < len(line) && line[to] != 32 {
			to++
		}
		if to > from {
			words = append(words, line[from:to])
		}
		from = to + 1
	}
	return words
}

func wantTreeText(nodes []impl.TreeNode) (told impl.TextResult) {
	if len(nodes) > 60 {
		return noText(impl.ErrMany)
	}
	for _, n := range nodes {
		if !within(n.Inode, 0, 9999) || !within(n.Depth, 1, 20) || !within(n.Name, 0, 9999) || !within(n.Value, 0, 9999) {
			return noText(impl.ErrRange)
		}
	}
	for _, n := range nodes {
		told.Text += fmt.Sprintf("%*s%d: %d %d\n", 2*n.Depth-2, "", n.Name, n.Inode, n.Value)
	}
	return told
}

func wantRunText(f impl.FsWorld, place int64) impl.TextResult {
	if code := wantFsWorldFault(f); code != impl.OK {
		return noText(code)
	}
	if !within(place, 0, int64(len(f.Runs))-1) {
		return noText(impl.ErrRange)
	}
	run := f.Runs[place]
	switch {
	case !slices.ContainsFunc(wantHistory(f).Dones, func(d impl.Done) bool { return d.Place == place }):
		return text("waits")
	case run.Reply > 0:
		return text(fmt.Sprintf("no %d", run.Reply))
	}
	return text(fmt.Sprintf("ok %d", run.Value))
}

func wantStepScript(f impl.FsWorld, line string) impl.ScriptResult {
	if code := wantFsWorldFault(f); code != impl.OK {
		return noScript(code)
	}
	word, n, ok := wantOrder(line)
	if !ok {
		return noScript(impl.ErrText)
	}
	said := "ok"
	var done impl.FsWorldResult
	switch word {
	case "":
		return scripted(f, "")
	case "say":
		return wantToldOf(f, wantRunText(f, n[0]))
	case "show":
		tree := wantTree(wantViewOf(f).Pairs)
		if tree.Code != impl.OK {
			return noScript(tree.Code)
		}
		return wantToldOf(f, wantTreeText(tree.Nodes))
	case "step":
		if done = wantStepFs(f, n[0]); !done.Moved {
			said = "idle"
		}
	case "leave":
		done = liftedFs(f, wantLeave(f.World, n[0]))
	case "tick":
		done = liftedFs(f, wantTick(f.World, n[0]))
	case "split":
		done = liftedFs(f, wantCut(f.World, n[0]))
	case "fall":
		done = liftedFs(f, wantFall(f.World))
	case "drive":
		done = wantDriveFs(f)
	default:
		done, said = wantStartFs(f, wantOpOf(word, n)), fmt.Sprintf("run %d", len(f.Runs))
	}
	if done.Code != impl.OK {
		return noScript(done.Code)
	}
	return scripted(done.FsWorld, said)
}

func wantToldOf(f impl.FsWorld, told impl.TextResult) impl.ScriptResult {
	if told.Code != impl.OK {
		return noScript(told.Code)
	}
	return scripted(f, told.Text)
}

func wantOpOf(word string, n []int64) impl.FsOp {
	if word == "write" {
		return impl.FsOp{Kind: 6, Dir: n[0], Name: n[1], Value: n[2]}
	}
	n = append(n, 0, 0)
	return impl.FsOp{Kind: kindOfWord[word], Dir: n[0], Name: n[1], ToDir: n[2], ToName: n[3]}
}

// wantLines are a text's lines: what is behind the last line feed is one, if it is not empty.
func wantLines(script string) []string {
	lines := strings.Split(script, "\n")
	if last := len(lines) - 1; lines[last] == "" {
		lines = lines[:last]
	}
	return lines
}

func wantRunScript(f impl.FsWorld, script string) impl.ScriptResult {
	if code := wantFsWorldFault(f); code != impl.OK {
		return noScript(code)
	}
	if len(script) > 1200 || len(wantLines(script)) > 40 {
		return noScript(impl.ErrMany)
	}
	now, said := f, ""
	for _, line := range wantLines(script) {
		switch step := wantStepScript(now, line); {
		case step.Code != impl.OK:
			said += fmt.Sprintf("! %d\n", step.Code)
		case step.Said == "" || step.Said[len(step.Said)-1] == 10:
			now, said = step.FsWorld, said+step.Said
		default:
			now, said = step.FsWorld, said+step.Said+"\n"
		}
	}
	return scripted(now, said)
}

// checkLine asks for one line of f alone, and as a script of one line; f stays as it was.
func checkLine(t *testing.T, name string, f impl.FsWorld, line string) impl.ScriptResult {
	t.Helper()
	kept := copyFs(f)
	got, want := impl.StepScript(f, line), wantStepScript(f, line)
	checkScript(t, fmt.Sprintf("%s, %q", name, line), got, want)
	if !strings.Contains(line, "\n") && len(line) < 1200 {
		checkScript(t, fmt.Sprintf("%s, %q as a script", name, line), impl.RunScript(f, line), wantRunScript(f, line))
	}
	if !equalFsWorlds(kept, f) {
		t.Errorf("%s: %q changed its file system", name, line)
	}
	return got
}

// checkRuns asks for what is said of each run, and around them.
func checkRuns(t *testing.T, name string, f impl.FsWorld) {
	t.Helper()
	for place := int64(-1); place <= int64(len(f.Runs)); place++ {
		checkText(t, fmt.Sprintf("%s: the run %d", name, place), impl.RunText(f, place), wantRunText(f, place))
	}
}

func TestWordsOf(t *testing.T) {
	for _, c := range []struct {
		line string
		want []string
	}{
		{"", nil}, {" ", nil}, {"  ", nil}, {strings.Repeat(" ", 1201), nil}, {"a", []string{"a"}}, {"make 0 1", []string{"make", "0", "1"}}, {" make 0 1", []string{"make", "0", "1"}}, {"make 0 1 ", []string{"make", "0", "1"}},
		{"   a", []string{"a"}}, {"a   ", []string{"a"}}, {"   a   ", []string{"a"}}, {"a   b", []string{"a", "b"}}, {" a  b ", []string{"a", "b"}}, {"  a b   c d  ", []string{"a", "b", "c", "d"}}, {"a a a", []string{"a", "a", "a"}},
		{"a\tb", []string{"a\tb"}}, {"\t", []string{"\t"}}, {" \t a", []string{"\t", "a"}}, {"a\nb", []string{"a\nb"}}, {"\n", []string{"\n"}}, {"a \n b", []string{"a", "\n", "b"}}, {"a b\n", []string{"a", "b\n"}}, {"\na b", []string{"\na", "b"}},
		{"a\x00b", []string{"a\x00b"}}, {"\x00", []string{"\x00"}}, {" \x00 \x00", []string{"\x00", "\x00"}}, {"a\xffb", []string{"a\xffb"}}, {"\xff \xff\xff", []string{"\xff", "\xff\xff"}}, {"\xff", []string{"\xff"}}, {"a\r", []string{"a\r"}}, {"\v\f b", []string{"\v\f", "b"}},
		{"a\u00a0b", []string{"a\u00a0b"}}, {"a\u2003b \u3000", []string{"a\u2003b", "\u3000"}}, {"\xc2 \xa0", []string{"\xc2", "\xa0"}}, {"\xe2\x80 \x83", []string{"\xe2\x80", "\x83"}}, {"ü é", []string{"ü", "é"}}, {"A b", []string{"A", "b"}},
		{strings.Repeat("x", 5000) + " y", []string{strings.Repeat("x", 5000), "y"}}, {strings.Repeat("x ", 3000), strings.Split(strings.Repeat("x ", 2999)+"x", " ")},
	} {
		if got := impl.WordsOf(c.line); got.Code != impl.OK || !slices.Equal(got.Words, c.want) || !slices.Equal(wantWords(c.line), c.want) {
			t.Errorf("%q: %q, want %q", c.line, got.Words, c.want)
		}
	}
	for b := range 256 {
		line := "a" + string([]byte{byte(b)}) + "b"
		want := []string{line}
		if b == 32 {
			want = []string{"a", "b"}
		}
		if got := impl.WordsOf(line); got.Code != impl.OK || !slices.Equal(got.Words, want) {
			t.Errorf("the byte %d: %q, want %q", b, got.Words, want)
		}
	}
	r := rand.New(rand.NewSource(501))
	for range 5000 {
		line := make([]byte, r.Intn(20))
		for i := range line {
			line[i] = byte(pick(r, 32, 32, 32, 9, 10, 0, 255, 'a', '0', 0xc2, 0xa0, 0xe2, 0x80, 0x83, r.Int63n(256)))
		}
		if got := impl.WordsOf(string(line)); got.Code != impl.OK || !slices.Equal(got.Words, wantWords(string(line))) {
			t.Errorf("%q: %q, want %q", line, got.Words, wantWords(string(line)))
		}
	}
}

// A line's words, with one blank between, have the same words: none is lost, none is cut.
func TestWordsAreReadBack(t *testing.T) {
	r := rand.New(rand.NewSource(502))
	for range 2000 {
		line := strings.Repeat(" ", r.Intn(3))
		for range r.Intn(6) {
			line += strings.Repeat(string(rune(33+r.Intn(90))), 1+r.Intn(3)) + strings.Repeat(" ", r.Intn(3))
		}
		words := impl.WordsOf(line).Words
		if again := impl.WordsOf(strings.Join(words, " ")).Words; !slices.Equal(words, again) || strings.Join(words, "") != strings.ReplaceAll(line, " ", "") {
			t.Errorf("%q: %q, and then %q", line, words, again)
		}
	}
}

func TestTreeText(t *testing.T) {
	for _, c := range []struct {
		name  string
		nodes []impl.TreeNode
		want  string
	}{
		{"none", nil, ""}, {"an empty list", []impl.TreeNode{}, ""}, {"one", []impl.TreeNode{node(1, 1, 2, 2001)}, "2: 1 2001\n"}, {"zeros", []impl.TreeNode{node(0, 1, 0, 0)}, "0: 0 0\n"},
		{"one in another", []impl.TreeNode{node(1, 1, 1, 1000), node(2, 2, 2, 2001)}, "1: 1 1000\n  2: 2 2001\n"}, {"greatest", []impl.TreeNode{node(9999, 1, 9999, 9999)}, "9999: 9999 9999\n"},
		{"a Depth of 3", []impl.TreeNode{node(7, 3, 5, 6)}, "    5: 7 6\n"}, {"a Depth of 20", []impl.TreeNode{node(7, 20, 5, 6)}, strings.Repeat(" ", 38) + "5: 7 6\n"},
		{"in their order, whatever they are", []impl.TreeNode{node(3, 2, 4, 5), node(3, 2, 4, 5), node(1, 1, 0, 0), node(9, 4, 8, 7)}, "  4: 3 5\n  4: 3 5\n0: 1 0\n      8: 9 7\n"},
		{"up and down", []impl.TreeNode{node(1, 1, 0, 1000), node(2, 2, 1, 1000), node(3, 3, 2, 2001), node(4, 1, 3, 2001)}, "0: 1 1000\n  1: 2 1000\n    2: 3 2001\n3: 4 2001\n"},
	} {
		kept := slices.Clone(c.nodes)
		checkText(t, c.name, impl.TreeText(c.nodes), text(c.want))
		checkText(t, c.name+", by the tests", wantTreeText(c.nodes), text(c.want))
		if !slices.Equal(kept, c.nodes) {
			t.Errorf("%s: the nodes changed", c.name)
		}
	}
	for _, n := range []int{0, 1, 2, 59, 60, 61, 62, 1000} {
		nodes := slices.Repeat([]impl.TreeNode{node(4, 2, 3, 2001)}, n)
		want := text(strings.Repeat("  3: 4 2001\n", n))
		if n > 60 {
			want = noText(impl.ErrMany)
		}
		checkText(t, fmt.Sprintf("%d nodes", n), impl.TreeText(nodes), want)
		if n > 60 {
			for _, at := range []int{0, 60, n - 1} {
				bent := slices.Clone(nodes)
				bent[at] = node(-1, 0, -1, 10000)
				checkText(t, fmt.Sprintf("%d nodes, and %d is none", n, at), impl.TreeText(bent), noText(impl.ErrMany))
			}
		}
	}
}

// Each number of a node, in the first one and in the last one, around its bounds.
func TestTreeTextOfEachNumber(t *testing.T) {
	list := append([]int64{998, 999, 1000, 9998, 9999, 10000, 10001}, oddNumbers()...)
	for _, many := range []int{1, 2, 60} {
		for _, at := range []int{0, many / 2, many - 1} {
			for field := range 4 {
				for _, n := range list {
					nodes := slices.Repeat([]impl.TreeNode{node(4, 2, 3, 2001)}, many)
					*[]*int64{&nodes[at].Inode, &nodes[at].Depth, &nodes[at].Name, &nodes[at].Value}[field] = n
					least, most := int64(0), int64(9999)
					if field == 1 {
						least, most = 1, 20
					}
					got := impl.TreeText(nodes)
					checkText(t, fmt.Sprintf("%d in the number %d of %d of %d", n, field, at, many), got, wantTreeText(nodes))
					if (got.Code == impl.OK) != within(n, least, most) || got.Code != impl.OK && got != noText(impl.ErrRange) {
						t.Errorf("%d in the number %d of %d of %d: %+v", n, field, at, many, got)
					}
				}
			}
		}
	}
}

func TestRunText(t *testing.T) {
	used := usedFs()
	for place, want := range []string{"ok 1", "ok 2", "ok 0", "ok 55", "no 6", "ok 3", "waits", "waits", "ok 4", "waits"} {
		checkText(t, fmt.Sprintf("the run %d", place), impl.RunText(used, int64(place)), text(want))
	}
	for _, place := range []int64{math.MinInt64, math.MinInt64 + 1, -2, -1, 10, 11, 29, 30, 31, math.MaxInt64 - 1, math.MaxInt64} {
		checkText(t, fmt.Sprintf("the run %d", place), impl.RunText(used, place), noText(impl.ErrRange))
	}
	for _, place := range numbers(-1, 0, 1) {
		checkText(t, "no runs", impl.RunText(newFs(), place), noText(impl.ErrRange))
	}
	many := readingFs(used, 20)
	checkText(t, "the last of 30 runs", impl.RunText(many, 29), text("no 4"))
	checkText(t, "behind 30 runs", impl.RunText(many, 30), noText(impl.ErrRange))
	for _, c := range rightFsWorlds() {
		checkRuns(t, c.name, c.f)
	}
	for _, c := range wrongFsWorlds() {
		for _, place := range numbers(math.MinInt64, -1, 0, 9, 10, math.MaxInt64) {
			checkText(t, c.name, impl.RunText(c.f, place), noText(c.code))
		}
	}
}

// The Reply is said where there is one, whatever the Value is; where it waits, neither is.
func TestRunTextOfEachReply(t *testing.T) {
	for reply := int64(0); reply <= 10; reply++ {
		for _, value := range numbers(0, 1, 9, 10, 2001, 9998, 9999) {
			for _, place := range numbers(-1, 0, 3, 4) {
				f := started(madeFs(), fsOp(1, 2, 0))
				f.Runs = append(f.Runs, impl.Run{Op: fsOp(8, 0, 0), Place: place, Ts: 3, Reply: reply, Value: value})
				want := fmt.Sprintf("no %d", reply)
				if reply == 0 {
					want = fmt.Sprintf("ok %d", value)
				}
				if place == 4 {
					want = "waits"
				}
				checkText(t, fmt.Sprintf("%+v", f.Runs[4]), impl.RunText(f, 4), text(want))
			}
		}
	}
}

// rightLines have a line of each command that is done to madeFs without a code, and what is said then.
func rightLines() []struct {
	line, said string
	do         func(f impl.FsWorld) impl.FsWorldResult
} {
	type right = struct {
		line, said string
		do         func(f impl.FsWorld) impl.FsWorldResult
	}
	start := func(line string, o impl.FsOp) right {
		return right{line, "run 3", func(f impl.FsWorld) impl.FsWorldResult { return impl.StartFs(f, o) }}
	}
	lifted := func(line string, do func(w impl.World) impl.WorldResult) right {
		return right{line, "ok", func(f impl.FsWorld) impl.FsWorldResult { return liftedFs(f, do(f.World)) }}
	}
	tick := func(n int64) func(w impl.World) impl.WorldResult {
		return func(w impl.World) impl.WorldResult { return impl.TickWorld(w, n) }
	}
	cut := func(at int64) func(w impl.World) impl.WorldResult {
		return func(w impl.World) impl.WorldResult { return impl.CutWorld(w, at) }
	}
	return []right{
		start("make 2 0", fsOp(1, 2, 0)), start("make 0 1", fsOp(1, 0, 1)), start("make 9 5", fsOp(1, 9, 5)), start("dir 0 3", fsOp(2, 0, 3)), start("dir 2 5", fsOp(2, 2, 5)), start("rm 0 1", fsOp(3, 0, 1)), start("rm 2 1", fsOp(3, 2, 1)),
		start("read 0 1", fsOp(7, 0, 1)), start("read 0 2", fsOp(7, 0, 2)), start("look 0 2", fsOp(8, 0, 2)), start("look 1 2", fsOp(8, 1, 2)), start("move 0 1 2 3", fsOp(4, 0, 1, 2, 3)), start("move 0 2 0 1", fsOp(4, 0, 2, 0, 1)), start("link 0 1 2 3", fsOp(5, 0, 1, 2, 3)), start("link 0 1 9 5", fsOp(5, 0, 1, 9, 5)),
		start("write 0 1 7", fsOp(6, 0, 1, 7)), start("write 0 1 0", fsOp(6, 0, 1, 0)), start("write 0 1 9999", fsOp(6, 0, 1, 9999)), start("write 0 2 1", fsOp(6, 0, 2, 1)),
		{"step 0", "idle", func(f impl.FsWorld) impl.FsWorldResult { return impl.StepFs(f, 0) }}, {"step 3", "idle", func(f impl.FsWorld) impl.FsWorldResult { return impl.StepFs(f, 3) }},
		lifted("tick 0", tick(0)), lifted("tick 1", tick(1)), lifted("tick 21", tick(21)), lifted("tick 1000", tick(1000)), lifted("split 1", cut(1)), lifted("split 20", cut(20)), lifted("split 43", cut(43)), lifted("split 199", cut(199)),
		lifted("fall", impl.FallWorld), {"drive", "ok", impl.DriveFs}, {"say 0", "ok 1", fsStayed}, {"say 1", "ok 2", fsStayed}, {"say 2", "ok 0", fsStayed},
		{"show", "1: 1 2001\n2: 2 1000\n", fsStayed}, {"", "", fsStayed}, {" ", "", fsStayed}, {"     ", "", fsStayed},
	}
}

func TestStepScript(t *testing.T) {
	made := madeFs()
	for _, c := range rightLines() {
		done := c.do(made)
		got := checkLine(t, "made", made, c.line)
		checkScript(t, c.line, got, scripted(done.FsWorld, c.said))
		if done.Code != impl.OK {
			t.Errorf("%q: the code %d", c.line, done.Code)
		}
		for _, with := range []func(line string) string{
			func(line string) string { return " " + line }, func(line string) string { return line + " " }, func(line string) string { return "   " + line + "    " }, func(line string) string { return strings.ReplaceAll(line, " ", "  ") },
			func(line string) string {
				return strings.Repeat(" ", 2000) + strings.ReplaceAll(line, " ", "          ")
			},
		} {
			checkScript(t, "blanks: "+c.line, checkLine(t, "blanks", made, with(c.line)), scripted(done.FsWorld, c.said))
		}
	}
	live := started(made, fsOp(1, 2, 0), fsOp(6, 0, 1, 7))
	for _, c := range []struct {
		name, line, said string
		f, want          impl.FsWorld
	}{
		{"it moves", "step 4", "ok", live, stepped(live, 4, 1)}, {"it moves as well", "step 5", "ok", live, stepped(live, 5, 1)}, {"it is over", "step 1", "idle", live, live}, {"it was left", "step 4", "idle", leftFs(live, 4), leftFs(live, 4)},
		{"it waits", "step 5", "idle", stepped(started(made, fsOp(6, 0, 1, 66), fsOp(6, 0, 1, 77)), 4, 1), stepped(started(made, fsOp(6, 0, 1, 66), fsOp(6, 0, 1, 77)), 4, 1)},
		{"it leaves", "leave 4", "ok", live, leftFs(live, 4)}, {"another one leaves", "leave 5", "ok", stepped(live, 5, 3), leftFs(stepped(live, 5, 3), 5)}, {"all are driven", "drive", "ok", live, mustFs(impl.DriveFs(live))},
		{"a run that waits", "say 3", "waits", live, live}, {"the next run", "make 0 0", "run 5", live, started(live, fsOp(1, 0, 0))}, {"a run of two digits", "look 0 0", "run 29", readingFs(made, 26), started(readingFs(made, 26), fsOp(8, 0, 0))}, {"the first run", "look 0 0", "run 0", newFs(), started(newFs(), fsOp(8, 0, 0))},
		{"the first two are one again", "split 0", "ok", changedFs(made, worldOf(impl.CutWorld(made.World, 20))), changedFs(made, func(f *impl.FsWorld) { f.World.Groups = cutStore(wantUnionOf(made.World.Groups), 3) })},
		{"the oracle fell already", "fall", "ok", withNext(made, 11, 11), withNext(made, 11, 11)}, {"a tree of nothing", "show", "", newFs(), newFs()}, {"a tree of more", "show", "1: 1 2001\n2: 2 1000\n  0: 3 2001\n  4: 4 2001\n", usedFs(), usedFs()},
	} {
		checkScript(t, c.name, checkLine(t, c.name, c.f, c.line), scripted(c.want, c.said))
	}
}

// lineWith is a word with n numbers, which are 1, but the one at at.
func lineWith(word string, n, at int, number string) string {
	for i := range n {
		if i == at {
			word += " " + number
		} else {
			word += " 1"
		}
	}
	return word
}

// Each command with its numbers, around their form: 1 to 4 digits, no 0 ahead.
func TestStepScriptNumbers(t *testing.T) {
	f := usedFs()
	for _, word := range wordsInOrder() {
		takes := takesOfWord[word]
		for n := range 7 {
			got := checkLine(t, "how many", f, lineWith(word, n, -1, ""))
			if (got.Code == impl.ErrText) != (n != takes) {
				t.Errorf("%s with %d numbers: %+v", word, n, got)
			}
		}
		for at := range takes {
			for _, wrong := range []string{"10000", "99999", "12345", "00000", "00", "01", "007", "0001", "0000", "+1", "-1", "-0", "+0", "--1", "1-", "1.0", "1e3", "0x1", "1_0", "1,", "a", "1a", "a1", "one", "١", "１", "1\t", "\t1", "1\x00", "\x001", "1\xff", "\xff", "1\r", "/", ":", "''", "18446744073709551617", "9223372036854775808", "-9223372036854775808", strings.Repeat("1", 1000)} {
				if got := checkLine(t, "a number", f, lineWith(word, takes, at, wrong)); got.Code != impl.ErrText {
					t.Errorf("%s with %q at %d: %+v", word, wrong, at, got)
				}
			}
			for _, right := range []string{"0", "1", "9", "10", "99", "100", "999", "1000", "9998", "9999"} {
				if got := checkLine(t, "a number", f, lineWith(word, takes, at, right)); got.Code == impl.ErrText {
					t.Errorf("%s with %q at %d: %+v", word, right, at, got)
				}
			}
		}
		for _, number := range []string{"0", "9999"} {
			line := word + strings.Repeat(" "+number, takes)
			for _, f := range []impl.FsWorld{f, newFs(), madeFs(), laterFs(usedFs(), 21)} {
				checkLine(t, "all of one number", f, line)
			}
		}
	}
}

// What is no command is none: each letter is asked, also whether it is a capital one; and nothing but blanks stands between.
func TestStepScriptWords(t *testing.T) {
	f := usedFs()
	lines := []string{"wink", "0", "12", "0 make 1", "1 1 make", "ok", "idle", "waits", "run 0", "no 1", "!", "! 5", "rmdir 0 1", "mkdir 0 1", "cut 20", "merge 0", "begin", "quit", "make,0 1", "make 0,1", "make(0 1)", "#", "# make 0 1", "// show", "show;", "show show", "fall drive", "drive\x00", "\x00", "\xff", "\t", "\t\t", "\r", "fall\r", "\tfall", "fall\t", "\v", "make\t0\t1", "make\u00a00 1", "\u00a0", "\ufefffall", "ｆａｌｌ", "faſll", "ſhow", "ſay 0", "\u212a", "linK 0 1 0 2"}
	for _, word := range wordsInOrder() {
		right := lineWith(word, takesOfWord[word], -1, "")
		if got := checkLine(t, "right", f, right); got.Code == impl.ErrText {
			t.Errorf("%q: %+v", right, got)
		}
		behind := right[len(word):]
		lines = append(lines, strings.ToUpper(word)+behind, strings.ToUpper(word[:1])+word[1:]+behind, word[:len(word)-1]+strings.ToUpper(word[len(word)-1:])+behind, word[1:]+behind, word[:len(word)-1]+behind, word+word+behind, word+"s"+behind, "x"+word+behind, word[:1]+" "+word[1:]+behind, word+"."+behind, "\""+word+"\""+behind, word+" "+right, right+" "+word, right+";", right+" ;", right+"\t", "\t"+right, right+"\x00", "\xff"+right)
		if takesOfWord[word] > 0 {
			lines = append(lines, word+strings.TrimPrefix(behind, " "), strings.TrimPrefix(behind, " ")+" "+word)
		}
		for at := range len(right) + 1 {
			lines = append(lines, right[:at]+"\n"+right[at:])
		}
		lines = append(lines, "\n"+right+"\n", right+" \n ", right+"\n\n", right+"\r\n")
	}
	for _, line := range append(lines, "\n", " \n", "\n ", "  \n  ", "\n\n", "\x00\n", "wink\n", "make 0 10000\n") {
		checkScript(t, fmt.Sprintf("%q", line), checkLine(t, "wrong", f, line), noScript(impl.ErrText))
	}
	for b := range 256 {
		for _, line := range []string{string([]byte{byte(b)}), string([]byte{byte(b)}) + "fall", "fall" + string([]byte{byte(b)}), "make" + string([]byte{byte(b)}) + "0 1", "make 0 1" + string([]byte{byte(b)})} {
			checkLine(t, "a byte", f, line)
		}
	}
}

// Each code that a line can meet, of each call.
func TestStepScriptCodes(t *testing.T) {
	made, used, locked, many := madeFs(), usedFs(), lockedFs(), manyFs(16)
	atEnd := withNext(made, 100000, 100000)
	six := changedFs(made, func(f *impl.FsWorld) {
		f.World.Groups = cutStore(wantUnionOf(f.World.Groups), 3, 10, 20, 30, 40, 50)
	})
	lastEpoch := changedFs(made, func(f *impl.FsWorld) { f.World.Groups = cutStore(wantUnionOf(f.World.Groups), 9998, 20) })
	late := changedFs(made, func(f *impl.FsWorld) { f.World.Now = 99990 })
	taken := changedFs(withStore(lockedAt(181, 30, impl.WritePut, 181, 7), func(s impl.Store) impl.Store { return wrote(s, 181, 30, 29, impl.WriteLock) }), func(f *impl.FsWorld) { f.World.Now = 8 })
	full := changedFs(withStore(lockedAt(181, 30, impl.WritePut, 181, 7), func(s impl.Store) impl.Store { return crowded(s, 200) }), func(f *impl.FsWorld) { f.World.Now = 8 })
	noTree := doneOf(items(putItem(20, 1)))
	for _, c := range []struct {
		name, line string
		f          impl.FsWorld
		code       int64
	}{
		{"no such Dir", "make 10 0", made, impl.ErrRange}, {"no such Name", "make 0 6", made, impl.ErrRange}, {"no such ToDir", "move 0 1 10 0", made, impl.ErrRange}, {"no such ToName", "link 0 1 0 6", made, impl.ErrRange}, {"the greatest numbers", "move 9999 9999 9999 9999", made, impl.ErrRange}, {"the greatest numbers", "write 9999 9999 9999", made, impl.ErrRange}, {"no such Dir", "look 9999 0", made, impl.ErrRange}, {"no such Name", "read 0 9999", made, impl.ErrRange}, {"no such Name", "rm 0 6", made, impl.ErrRange}, {"no such Dir", "dir 10 5", made, impl.ErrRange},
		{"29 runs", "look 0 0", readingFs(made, 26), impl.OK}, {"30 runs", "look 0 0", readingFs(made, 27), impl.ErrMany}, {"30 runs", "make 0 0", readingFs(made, 27), impl.ErrMany}, {"16 transactions", "make 0 0", many, impl.ErrMany}, {"16 transactions, and it reads", "look 0 0", many, impl.OK}, {"16 transactions, and it finds a Reply", "make 0 1", many, impl.OK}, {"no time", "look 0 0", atEnd, impl.ErrMany}, {"no time", "write 0 1 5", atEnd, impl.ErrMany},
		{"locked", "read 0 1", locked, impl.ErrLocked}, {"locked", "make 0 0", locked, impl.ErrLocked}, {"locked no more", "read 0 1", laterFs(locked, 21), impl.OK}, {"that time is taken", "read 0 1", taken, impl.ErrTaken}, {"no room", "read 0 1", full, impl.ErrMany}, {"no room", "look 0 2", full, impl.ErrMany},
		{"a step of none", "step 4", made, impl.ErrRange}, {"a step of none", "step 9999", made, impl.ErrRange}, {"a step of the last one", "step 3", made, impl.OK}, {"a step where there are none", "step 0", begunOf(), impl.ErrRange},
		{"none leaves", "leave 4", made, impl.ErrRange}, {"none leaves", "leave 9999", made, impl.ErrRange}, {"one that is over leaves", "leave 3", made, impl.ErrState}, {"one that is gone leaves", "leave 5", used, impl.ErrState}, {"one that left leaves", "leave 6", used, impl.ErrState}, {"one leaves", "leave 8", used, impl.OK}, {"behind the last one", "leave 9", used, impl.ErrRange},
		{"too much", "tick 1001", made, impl.ErrRange}, {"too much", "tick 9999", made, impl.ErrRange}, {"as much as may be", "tick 1000", made, impl.OK}, {"behind all times", "tick 11", late, impl.ErrRange}, {"up to the last time", "tick 10", late, impl.OK},
		{"cut behind all keys", "split 200", made, impl.ErrRange}, {"cut behind all keys", "split 9999", made, impl.ErrRange}, {"cut where it is", "split 43", used, impl.ErrTaken}, {"cut in seven", "split 60", six, impl.ErrMany}, {"cut in seven where it is", "split 30", six, impl.ErrTaken}, {"no next epoch", "split 30", lastEpoch, impl.ErrMany}, {"no next epoch, and joined", "split 0", lastEpoch, impl.ErrMany}, {"one is not joined", "split 0", made, impl.ErrRange}, {"two are joined", "split 0", used, impl.OK}, {"six are five", "split 0", six, impl.OK},
		{"it falls", "fall", atEnd, impl.OK}, {"it is driven", "drive", atEnd, impl.OK}, {"it is driven", "drive", used, impl.OK},
		{"no run", "say 3", made, impl.ErrRange}, {"no run", "say 9999", made, impl.ErrRange}, {"no runs", "say 0", newFs(), impl.ErrRange}, {"the last of 30", "say 29", readingFs(made, 27), impl.OK}, {"behind the last of 30", "say 30", readingFs(made, 27), impl.ErrRange},
		{"no tree", "show", noTree, impl.ErrForm}, {"no transaction, and no tree", "show", begunOf(), impl.ErrForm}, {"one that is not done, and no tree", "show", begunOf(items(putItem(0, 1), putItem(10, 1000))), impl.ErrForm}, {"a root alone", "show", newFs(), impl.OK},
		{"no tree, and a line that is none", "shows", noTree, impl.ErrText}, {"no tree, and no words", "", noTree, impl.OK}, {"no tree, and it is looked at", "look 0 0", noTree, impl.OK},
		{"five digits, and no such place", "step 10000", made, impl.ErrText}, {"one too many, and no such Dir", "make 9999 0 0", made, impl.ErrText}, {"a word too many, and one that is over", "leave 3 x", made, impl.ErrText}, {"a line feed, and locked", "read 0 1\n", locked, impl.ErrText}, {"no such Dir, and 30 runs", "make 10 0", readingFs(made, 27), impl.ErrRange}, {"no such Dir, and locked", "make 10 0", locked, impl.ErrRange}, {"30 runs, and locked", "read 0 1", readingFs(locked, 26), impl.ErrMany},
	} {
		got := checkLine(t, c.name, c.f, c.line)
		if got.Code != c.code {
			t.Errorf("%s, %q: the code %d, want %d", c.name, c.line, got.Code, c.code)
		}
		if want := fmt.Sprintf("! %d\n", c.code); c.code != impl.OK && !strings.Contains(c.line, "\n") {
			checkScript(t, c.name+", as a script", impl.RunScript(c.f, c.line), scripted(c.f, want))
			checkScript(t, c.name+", as a script with a line feed", impl.RunScript(c.f, c.line+"\n"), scripted(c.f, want))
		}
	}
}

// The fault is asked ahead of the line, whatever that is, and ahead of how long the text is.
func TestScriptsAskTheFaultFirst(t *testing.T) {
	lines := []string{"", " ", "\n", "wink", "make 0 0", "make 10 10", "make 0 10000", "step 0", "step 99", "leave 0", "tick 0", "tick 9999", "split 20", "split 0", "split 999", "fall", "drive", "say 0", "say 99", "show", "show\nshow"}
	for _, c := range wrongFsWorlds() {
		kept := copyFs(c.f)
		for _, line := range lines {
			checkScript(t, c.name+", "+line, impl.StepScript(c.f, line), noScript(c.code))
			checkScript(t, c.name+", script "+line, impl.RunScript(c.f, line), noScript(c.code))
		}
		for _, script := range []string{strings.Repeat(" ", 1201), strings.Repeat("\n", 41), strings.Repeat("fall\n", 300)} {
			checkScript(t, c.name+", too long", impl.RunScript(c.f, script), noScript(c.code))
		}
		if !equalFsWorlds(kept, c.f) {
			t.Errorf("%s: it changed", c.name)
		}
	}
}

// say, show and a line without words change nothing, whatever is there.
func TestStepScriptChangesNothing(t *testing.T) {
	for _, c := range rightFsWorlds() {
		for _, line := range []string{"", "  ", "show", "say 0", "say 9", "say 29"} {
			got := checkLine(t, c.name, c.f, line)
			if got.Code == impl.OK && !equalFsWorlds(got.FsWorld, c.f) {
				t.Errorf("%s: %q made %+v of %+v", c.name, line, got.FsWorld, c.f)
			}
		}
	}
}

func TestRunScript(t *testing.T) {
	fresh, made := newFs(), madeFs()
	file := started(fresh, fsOp(1, 0, 2))
	done := mustFs(impl.DriveFs(file))
	for _, c := range []struct {
		name, script, said string
		f, want            impl.FsWorld
	}{
		{"empty", "", "", made, made}, {"a line feed alone", "\n", "", made, made}, {"line feeds alone", "\n\n\n", "", made, made}, {"blanks", "   ", "", made, made}, {"blanks and line feeds", "  \n \n\n   ", "", made, made},
		{"one line", "make 0 2\n", "run 0\n", fresh, file}, {"one line without a line feed", "make 0 2", "run 0\n", fresh, file}, {"an empty line ahead", "\nmake 0 2\n", "run 0\n", fresh, file}, {"empty lines behind", "make 0 2\n\n\n", "run 0\n", fresh, file}, {"blanks behind", "make 0 2\n  ", "run 0\n", fresh, file},
		{"two lines", "make 0 2\ndrive\n", "run 0\nok\n", fresh, done}, {"two lines, the last one without a line feed", "make 0 2\ndrive", "run 0\nok\n", fresh, done}, {"an empty line between", "make 0 2\n\n  \ndrive", "run 0\nok\n", fresh, done}, {"two lines in one", "make 0 2 drive\n", "! 5\n", fresh, fresh},
		{"a tree of nothing", "show\n", "", fresh, fresh}, {"a tree of nothing, twice", "show\nshow", "", fresh, fresh}, {"a tree", "show\n", "1: 1 2001\n2: 2 1000\n", made, made}, {"a tree without a line feed", "show", "1: 1 2001\n2: 2 1000\n", made, made}, {"a tree, twice", "show\nshow\n", "1: 1 2001\n2: 2 1000\n1: 1 2001\n2: 2 1000\n", made, made}, {"a tree between", "say 0\nshow\nsay 1\n", "ok 1\n1: 1 2001\n2: 2 1000\nok 2\n", made, made},
		{"idle", "step 0\nstep 1\n", "idle\nidle\n", made, made}, {"ten codes", strings.Repeat("wink\n", 10), strings.Repeat("! 5\n", 10), made, made}, {"a code without a line feed", "leave 0", "! 10\n", made, made}, {"codes of each kind", "wink\nmake 10 0\nsplit 0\nleave 1\nsay 3\nstep 4\n", "! 5\n! 3\n! 3\n! 10\n! 3\n! 3\n", made, made},
		{"a run waits, and then it does not", "make 0 2\nsay 0\nstep 1\nsay 0\ndrive\nsay 0\n", "run 0\nwaits\nok\nwaits\nok\nok 1\n", fresh, done}, {"a carriage return", "drive\r\n", "! 5\n", made, made}, {"a byte 0", "\x00\n", "! 5\n", made, made}, {"a tab is no blank", "\t\n", "! 5\n", made, made},
	} {
		kept := copyFs(c.f)
		checkScript(t, c.name, impl.RunScript(c.f, c.script), scripted(c.want, c.said))
		checkScript(t, c.name+", by the tests", wantRunScript(c.f, c.script), scripted(c.want, c.said))
		if !equalFsWorlds(kept, c.f) {
			t.Errorf("%s: the file system changed", c.name)
		}
	}
	got := impl.RunScript(fresh, "make 0 1\nmake 0 1\nstep 1\nlook 0 1\ndrive\nsay 0\nsay 1\nlook 0 1\nsay 2\nwrite 0 1 7\nleave 3\nread 0 1\nsay 3\nsay 4\nshow\nfall\nsplit 20\nsplit 0\nsplit 0\ntick 21\nrm 0 1\ndrive\nshow\nsay 5\n")
	want := "run 0\nrun 1\nok\n! 7\nok\nok 1\nwaits\nrun 2\nok 2001\nrun 3\nok\nrun 4\nwaits\nok 0\n1: 1 2001\nok\nok\nok\n! 3\nok\nrun 5\nok\nok 0\n"
	if got.Said != want || len(got.FsWorld.Runs) != 6 {
		t.Errorf("%q, want %q", got.Said, want)
	}
}

// Up to 1200 bytes and 40 lines; a line is what a line feed ends, and what is behind the last one, if it is not empty.
func TestRunScriptBounds(t *testing.T) {
	made := madeFs()
	line := func(n int) string { return "fall" + strings.Repeat(" ", n-4) }
	full := strings.Repeat(line(29)+"\n", 40)
	for _, c := range []struct {
		name, script string
		code         int64
		said         int
	}{
		{"1200 bytes", strings.Repeat(" ", 1200), impl.OK, 0}, {"1201 bytes", strings.Repeat(" ", 1201), impl.ErrMany, 0}, {"1199 bytes and a line feed", strings.Repeat(" ", 1199) + "\n", impl.OK, 0}, {"1200 bytes and a line feed", strings.Repeat(" ", 1200) + "\n", impl.ErrMany, 0}, {"1200 bytes of one line that is none", strings.Repeat("x", 1200), impl.OK, 1}, {"1201 of these", strings.Repeat("x", 1201), impl.ErrMany, 0},
		{"one line of 1200 bytes", line(1200), impl.OK, 1}, {"one line of 1201 bytes", line(1201), impl.ErrMany, 0}, {"1200 bytes of more than one each", strings.Repeat("ü", 600), impl.OK, 1}, {"1202 bytes of more than one each", strings.Repeat("ü", 601), impl.ErrMany, 0},
		{"40 lines of 1200 bytes", full, impl.OK, 40}, {"40 lines of 1201 bytes", full[:1199] + " \n", impl.ErrMany, 0}, {"40 lines of 1199 bytes", full[:1199], impl.OK, 40}, {"41 lines of 1201 bytes", full + "x", impl.ErrMany, 0}, {"41 lines of 1200 bytes", full[:1198] + "\n ", impl.ErrMany, 0},
		{"39 lines", strings.Repeat("fall\n", 39), impl.OK, 39}, {"40 lines", strings.Repeat("fall\n", 40), impl.OK, 40}, {"40 lines, the last one without a line feed", strings.Repeat("fall\n", 39) + "fall", impl.OK, 40}, {"40 lines, the last one of a blank", strings.Repeat("fall\n", 39) + " ", impl.OK, 39}, {"41 lines", strings.Repeat("fall\n", 41), impl.ErrMany, 0}, {"41 lines, the last one without a line feed", strings.Repeat("fall\n", 40) + "fall", impl.ErrMany, 0}, {"41 lines, the last one of a blank", strings.Repeat("fall\n", 40) + " ", impl.ErrMany, 0}, {"41 lines, the last one empty", strings.Repeat("fall\n", 40) + "\n", impl.ErrMany, 0},
		{"40 empty lines", strings.Repeat("\n", 40), impl.OK, 0}, {"41 empty lines", strings.Repeat("\n", 41), impl.ErrMany, 0}, {"39 empty lines and one", strings.Repeat("\n", 39) + "fall", impl.OK, 1}, {"40 empty lines and one", strings.Repeat("\n", 40) + "fall", impl.ErrMany, 0}, {"1200 empty lines", strings.Repeat("\n", 1200), impl.ErrMany, 0}, {"40 lines with codes", strings.Repeat("wink\n", 40), impl.OK, 40}, {"41 lines with codes", strings.Repeat("wink\n", 41), impl.ErrMany, 0}, {"many bytes", strings.Repeat("fall\n", 100000), impl.ErrMany, 0},
	} {
		got := impl.RunScript(made, c.script)
		checkScript(t, c.name, got, wantRunScript(made, c.script))
		if got.Code != c.code || strings.Count(got.Said, "\n") != c.said {
			t.Errorf("%s: %+v, want the code %d, and %d lines", c.name, got, c.code, c.said)
		}
	}
}

// A line with a code leaves all as it was, in the first, a middle and the last place: all is as if it were not there, and its code is said.
func TestRunScriptLeavesALineWithACode(t *testing.T) {
	good := []string{"make 2 0", "step 4", "fall", "write 0 1 7", "split 20", "step 5", "tick 5", "drive", "show", "say 3"}
	bad := map[string]int64{"wink": 5, "make 10 0": 3, "leave 0": 10, "leave 99": 3, "split 200": 3, "split 10000": 5, "tick 1001": 3, "say 29": 3, "step 16": 3, "make 0 0 0": 5, "FALL": 5, "drive 1": 5}
	for _, end := range []string{"", "\n"} {
		plain := impl.RunScript(madeFs(), strings.Join(good, "\n")+end)
		if plain.Code != impl.OK {
			t.Fatal(plain)
		}
		for line, code := range bad {
			for at := range len(good) + 1 {
				got := impl.RunScript(madeFs(), strings.Join(slices.Insert(slices.Clone(good), at, line), "\n")+end)
				ahead := impl.RunScript(madeFs(), strings.Join(good[:at], "\n")).Said
				if want := ahead + fmt.Sprintf("! %d\n", code) + plain.Said[len(ahead):]; got.Said != want || !equalFsWorlds(got.FsWorld, plain.FsWorld) {
					t.Errorf("%q at %d: %q, want %q", line, at, got.Said, want)
				}
			}
		}
	}
	locked, many := lockedFs(), readingFs(madeFs(), 27)
	for _, c := range []struct {
		f            impl.FsWorld
		script, said string
	}{
		{locked, "read 0 1\nmake 0 0\nlook 0 2\n", "! 7\n! 7\n! 7\n"}, {many, "look 0 0\nmake 0 0\n", "! 2\n! 2\n"}, {withNext(madeFs(), 100000, 100000), "look 0 0\nfall\nlook 0 0", "! 2\nok\n! 2\n"}, {doneOf(items(putItem(20, 1))), "show\nshow\n", "! 1\n! 1\n"},
	} {
		checkScript(t, c.script, impl.RunScript(c.f, c.script), scripted(c.f, c.said))
	}
}
