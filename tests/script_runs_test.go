package tests

import (
	"fmt"
	"math"
	"math/rand"
	"slices"
	"strconv"
	"strings"
	"testing"

	"loop.example/g00331/impl"
)

// lineOf tells an operation as a line.
func lineOf(o impl.FsOp) string {
	list := numbers(o.Dir, o.Name)
	switch o.Kind {
	case impl.OpMove, impl.OpLink:
		list = append(list, o.ToDir, o.ToName)
	case impl.OpWrite:
		list = append(list, o.Value)
	}
	line := []string{"", "make", "dir", "rm", "move", "link", "write", "read", "look"}[o.Kind]
	for _, n := range list {
		line += " " + strconv.FormatInt(n, 10)
	}
	return line
}

// wrongLine has ErrText.
func wrongLine(r *rand.Rand) string {
	list := []string{"wink", "make 0", "make 0 1 2", "step", "step 1 1", "step 01", "step -1", "fall 1", "Show", "say 00001", "write 0 1", "move 0 1 2", "tick 10000", "\t", "x\r", "\x00", "drive\xff"}
	return list[r.Intn(len(list))]
}

// anyLine suits f most of the time, so that what it starts meets what is there; some of what it picks has a code.
func anyLine(r *rand.Rand, f impl.FsWorld) string {
	place := strconv.FormatInt(r.Int63n(int64(len(f.World.Txns))+1), 10)
	switch r.Intn(24) {
	case 0:
		return "leave " + place
	case 1:
		return "tick " + strconv.FormatInt(pick(r, 0, 1, 7, 21, 1001), 10)
	case 2, 3:
		return "split " + strconv.FormatInt(pick(r, 0, 0, 10, 20, 43, 180, 200, r.Int63n(200)), 10)
	case 4:
		return "fall"
	case 5, 6:
		return "drive"
	case 7, 8, 9:
		return "say " + strconv.FormatInt(r.Int63n(int64(len(f.Runs))+1), 10)
	case 10, 11:
		return "show"
	case 12:
		return strings.Repeat(" ", r.Intn(3))
	case 13:
		return wrongLine(r)
	case 14, 15, 16, 17:
		return "step " + place
	}
	if len(dirsOf(impl.ViewOf(f).Pairs)) == 0 {
		return lineOf(anyOp(r))
	}
	return lineOf(busyOp(r, f))
}

// grownScript has at most 40 lines and 1200 bytes, each line picked for what there is ahead of it; some have blanks around, and the last line feed may be away.
func grownScript(r *rand.Rand, f impl.FsWorld) string {
	script, now := "", f
	for range 1 + r.Intn(40) {
		line := anyLine(r, now)
		if r.Intn(8) == 0 {
			line = "  " + strings.ReplaceAll(line, " ", "   ") + " "
		}
		if len(script)+len(line)+1 > 1200 {
			break
		}
		script += line + "\n"
		if step := impl.StepScript(now, line); step.Code == impl.OK {
			now = step.FsWorld
		}
	}
	if r.Intn(3) == 0 {
		script = script[:len(script)-1]
	}
	return script
}

// scriptFs are what scripts are done to: new ones, some with runs, and some near the ends of times.
func scriptFs(r *rand.Rand) []impl.FsWorld {
	list, _ := busyFs(r)
	return append(list, newFs(), newFs(), newFs(), madeFs(), sharedFs(), usedFs(), lockedFs(), laterFs(usedFs(), 21), manyFs(14), readingFs(usedFs(), 16))
}

// inTwo has a text cut behind each of its line feeds.
func inTwo(script string) (parts [][2]string) {
	for at := range len(script) + 1 {
		if at == 0 || at == len(script) || script[at-1] == '\n' {
			parts = append(parts, [2]string{script[:at], script[at:]})
		}
	}
	return parts
}

// doesTheSameInTwoParts: what is said, the whole file system, and so its runs and what there is, are those of the whole.
func doesTheSameInTwoParts(t *testing.T, name string, f impl.FsWorld, script string) (whole impl.ScriptResult, cuts int) {
	t.Helper()
	whole = impl.RunScript(f, script)
	view := impl.ViewOf(whole.FsWorld)
	for _, parts := range inTwo(script) {
		first := impl.RunScript(f, parts[0])
		second := impl.RunScript(first.FsWorld, parts[1])
		if whole.Code != impl.OK || first.Code != impl.OK || second.Code != impl.OK {
			t.Fatalf("%s: %q has the code %d, in two parts %d and %d", name, script, whole.Code, first.Code, second.Code)
		}
		if first.Said+second.Said != whole.Said || !slices.Equal(second.FsWorld.Runs, whole.FsWorld.Runs) || !equalPairs(impl.ViewOf(second.FsWorld), view) || !equalFsWorlds(second.FsWorld, whole.FsWorld) {
			t.Fatalf("%s: %q comes to %+v, in two parts to %+v and %+v", name, parts, whole, first, second)
		}
	}
	return whole, len(inTwo(script))
}

// P17, P1: a script that is cut behind a line feed does in two parts what it does in one; and it does what the chapter says of its lines, one behind the other.
func TestScriptsInTwoParts(t *testing.T) {
	r := rand.New(rand.NewSource(511))
	cuts, words, said := 0, map[string]int{}, map[string]int{}
	for range 12 {
		for _, f := range scriptFs(r) {
			script := grownScript(r, f)
			kept := copyFs(f)
			whole, n := doesTheSameInTwoParts(t, "grown", f, script)
			checkScript(t, script, whole, wantRunScript(f, script))
			if !equalFsWorlds(kept, f) {
				t.Fatalf("%q changed its file system", script)
			}
			cuts += n
			for _, line := range wantLines(script) {
				word, _, ok := wantOrder(line)
				words[fmt.Sprint(word, ok)]++
			}
			for _, line := range wantLines(whole.Said) {
				said[strings.Trim(line, "0123456789 ")]++
			}
		}
	}
	if cuts < 4000 {
		t.Errorf("only %d cuts", cuts)
	}
	for word := range lineOfWord {
		if words[word+"true"] < 40 {
			t.Errorf("%q was there %d times", word, words[word+"true"])
		}
	}
	for _, one := range []string{"run", "ok", "idle", "no", "waits", "!", ":"} {
		if said[one] < 50 {
			t.Errorf("%q was said %d times: %v", one, said[one], said)
		}
	}
}

// P17: a script of every command, at each of its cuts, from each of many file systems, right ones and those that came of no new one.
func TestEachCommandInTwoParts(t *testing.T) {
	script := "make 0 3\nstep 1\ndir 0 4\ndrive\ndir 0 4\n\nstep 99\nsay 1\ndrive\nmake 4 0\nsay 2\nwrite 0 3 77\nstep 0\nleave 3\nfall\nsplit 43\nread 0 3\nlink 0 3 2 1\ntick 21\ndrive\nmove 0 3 0 5\nwink\ndrive\nshow\nsplit 0\nlook 2 1\nrm 0 5\ndrive\nsay 7\n  \nsay 3\nshow\nleave 6\nsay 8"
	list := []impl.FsWorld{newFs(), madeFs(), usedFs(), sharedFs(), lockedFs(), laterFs(lockedFs(), 21), manyFs(16), readingFs(madeFs(), 26), readingFs(madeFs(), 27), withNext(madeFs(), 99995, 99995), doneOf(items(putItem(20, 1))), begunOf(), mustFs(impl.NewFs(99985))}
	for i, f := range rawFs(512) {
		if i%25 == 0 {
			list = append(list, f)
		}
	}
	for _, f := range list {
		whole, cuts := doesTheSameInTwoParts(t, "each command", f, script)
		checkScript(t, "each command", whole, wantRunScript(f, script))
		if cuts != 35 {
			t.Fatalf("%d cuts", cuts)
		}
	}
	whole := impl.RunScript(newFs(), script)
	want := "run 0\nok\n! 7\nok\nrun 1\n! 3\nwaits\nok\nrun 2\nno 9\nrun 3\nidle\nok\nok\nok\nrun 4\nrun 5\nok\nok\nrun 6\n! 5\nok\n4: 2 1000\n  1: 1 2002\n5: 1 2002\nok\nrun 7\nrun 8\nok\nok 2002\nwaits\n4: 2 1000\n  1: 1 2001\n! 10\nok 0\n"
	if whole.Said != want {
		t.Errorf("%q, want %q", whole.Said, want)
	}
}

// repliesOf does the history once more, from what the first transaction made: what each run of it comes to, as a text.
func repliesOf(t *testing.T, name string, f impl.FsWorld) map[int64]string {
	t.Helper()
	came := map[int64]string{}
	view := impl.ApplyItems(nil, f.World.Txns[0].Items).Pairs
	for _, d := range impl.HistoryOf(f).Dones {
		answer := impl.ApplyFs(view, f.Runs[d.Place].Op)
		if answer.Code != impl.OK {
			t.Fatalf("%s: %+v has the code %d", name, f.Runs[d.Place], answer.Code)
		}
		view = answer.View
		came[d.Place] = fmt.Sprintf("ok %d", answer.Value)
		if answer.Reply != impl.OK {
			came[d.Place] = fmt.Sprintf("no %d", answer.Reply)
		}
	}
	return came
}

// P17: what is said of a run is what came of it: of those of the history what they come to one behind the other, of the others that they wait; what was said once stays so.
func TestWhatIsSaidOfARunIsWhatCameOfIt(t *testing.T) {
	r := rand.New(rand.NewSource(513))
	told := map[string]int{}
	for range 8 {
		list, steps := busyFs(r)
		for i, f := range list {
			was := map[int64]string{}
			for step := steps[i]; step < 60; step++ {
				line := anyLine(r, f)
				if got := impl.StepScript(f, line); got.Code == impl.OK {
					f = got.FsWorld
				}
				came := repliesOf(t, line, f)
				for place := range int64(len(f.Runs)) {
					want, counts := came[place]
					if !counts {
						want = "waits"
					}
					say := impl.StepScript(f, fmt.Sprintf("say %d", place))
					checkText(t, line, impl.RunText(f, place), text(want))
					checkScript(t, line+", say", say, scripted(f, want))
					if before, said := was[place]; said && before != want {
						t.Fatalf("%s: of %+v %q was said, and now %q", line, f.Runs[place], before, want)
					}
					if counts {
						was[place] = want
					}
					told[strings.Trim(want, "0123456789 ")]++
				}
			}
			checkRuns(t, "at the end", f)
		}
	}
	if told["ok"] < 5000 || told["no"] < 1000 || told["waits"] < 2000 {
		t.Errorf("said: %v", told)
	}
}

// readTree reads the nodes back from what show says.
func readTree(t *testing.T, said string) (nodes []impl.TreeNode) {
	t.Helper()
	for _, line := range wantLines(said) {
		var n impl.TreeNode
		bare := strings.TrimLeft(line, " ")
		if found, err := fmt.Sscanf(bare, "%d: %d %d", &n.Name, &n.Inode, &n.Value); err != nil || found != 3 {
			t.Fatalf("%q of %q", line, said)
		}
		n.Depth = int64(len(line)-len(bare))/2 + 1
		if again := fmt.Sprintf("%s%d: %d %d", strings.Repeat("  ", int(n.Depth)-1), n.Name, n.Inode, n.Value); again != line {
			t.Fatalf("%q is read as %q", line, again)
		}
		nodes = append(nodes, n)
	}
	return nodes
}

// showsEachEntryOnce: what show says is the tree, and of all entries each is there, once.
func showsEachEntryOnce(t *testing.T, name string, f impl.FsWorld) int {
	t.Helper()
	view := impl.ViewOf(f).Pairs
	got := impl.StepScript(f, "show")
	nodes := readTree(t, got.Said)
	if got.Code != impl.OK || !slices.Equal(nodes, impl.TreeOf(view).Nodes) || !equalFsWorlds(got.FsWorld, f) {
		t.Fatalf("%s: %q is said of %+v", name, got.Said, impl.TreeOf(view))
	}
	var path []int64
	told := map[string]int{}
	for _, n := range nodes {
		path = append(path[:n.Depth-1], n.Name)
		told[fmt.Sprint(path, n.Inode)]++
	}
	entries := 0
	for _, p := range view {
		if isEntry(p) {
			entries++
			if told[fmt.Sprint(pathTo(view, p.Key), p.Value)] != 1 {
				t.Fatalf("%s: the entry %d is told %d times in %q", name, p.Key, told[fmt.Sprint(pathTo(view, p.Key), p.Value)], got.Said)
			}
		}
	}
	if entries != len(nodes) {
		t.Fatalf("%s: %d entries, and %q", name, entries, got.Said)
	}
	return entries
}

// viewFs has just what is in a view, put by one that came of a new world; a transaction has at most 12 items.
func viewFs(view []impl.Pair) impl.FsWorld {
	var lists [][]impl.Item
	for chunk := range slices.Chunk(view, 12) {
		var list []impl.Item
		for _, p := range chunk {
			list = append(list, putItem(p.Key, p.Value))
		}
		lists = append(lists, list)
	}
	return doneOf(lists...)
}

// P15, P17: of all entries show tells each, once, whatever is there: grown by scripts, and as deep and as many as can be.
func TestShowTellsEachEntryOnce(t *testing.T) {
	r := rand.New(rand.NewSource(514))
	most, shown := 0, 0
	for _, c := range wholeViews() {
		f := viewFs(c.list)
		if !slices.Equal(impl.ViewOf(f).Pairs, c.list) {
			t.Fatalf("%s: %+v", c.name, impl.ViewOf(f))
		}
		most = max(most, showsEachEntryOnce(t, c.name, f))
		checkLine(t, c.name, f, "show")
	}
	for _, c := range bentViews() {
		f := viewFs(c.list)
		checkScript(t, c.name, checkLine(t, c.name, f, "show"), noScript(impl.ErrForm))
	}
	for range 10 {
		for _, f := range scriptFs(r) {
			f = impl.RunScript(f, grownScript(r, f)).FsWorld
			shown += showsEachEntryOnce(t, "grown", f)
			shown += showsEachEntryOnce(t, "grown, and driven", mustFs(impl.DriveFs(f)))
		}
	}
	if most != 54 || shown < 500 {
		t.Errorf("%d entries at most, %d of those that grew", most, shown)
	}
}

// P17: a script is what its lines are, one behind the other; and a line with a code may as well not be there.
func TestScriptsLineByLine(t *testing.T) {
	r := rand.New(rand.NewSource(515))
	gone := 0
	for range 10 {
		for _, f := range scriptFs(r) {
			script := grownScript(r, f)
			whole := impl.RunScript(f, script)
			now, said, right := f, "", ""
			for _, line := range wantLines(script) {
				step := impl.StepScript(now, line)
				if step.Code != impl.OK {
					said += fmt.Sprintf("! %d\n", step.Code)
					gone++
					continue
				}
				now, right = step.FsWorld, right+line+"\n"
				if said += step.Said; step.Said != "" && !strings.HasSuffix(step.Said, "\n") {
					said += "\n"
				}
			}
			checkScript(t, script, whole, scripted(now, said))
			without := impl.RunScript(f, right)
			if strings.Contains(without.Said, "!") || !equalFsWorlds(without.FsWorld, whole.FsWorld) {
				t.Fatalf("%q comes to %+v, and %q to %+v", script, whole, right, without)
			}
		}
	}
	if gone < 500 {
		t.Errorf("only %d lines had a code", gone)
	}
}

// Scripts of file systems that came of no new one, bent ones among them: the chapter's words hold for them, too.
func TestScriptsOfRawFileSystems(t *testing.T) {
	r := rand.New(rand.NewSource(516))
	codes := map[int64]int{}
	for i, f := range rawFs(517) {
		for range 4 {
			codes[checkLine(t, "raw", f, anyLine(r, f)).Code]++
		}
		if i%4 == 0 {
			codes[checkLine(t, "raw", f, "show").Code]++
			checkRuns(t, "raw", f)
		}
		if i%20 == 0 {
			script := grownScript(r, f)
			checkScript(t, "raw", impl.RunScript(f, script), wantRunScript(f, script))
		}
	}
	for range 6 {
		list, _ := busyFs(r)
		for _, f := range list {
			bent := bentOnce(r, f)
			if impl.FsWorldFault(bent) == impl.OK {
				checkRuns(t, "bent", bent)
				codes[checkLine(t, "bent", bent, anyLine(r, bent)).Code]++
				codes[checkLine(t, "bent", bent, "show").Code]++
			}
		}
	}
	for code, least := range map[int64]int{impl.OK: 300, impl.ErrForm: 50, impl.ErrMany: 20, impl.ErrRange: 50, impl.ErrText: 20, impl.ErrLocked: 60} {
		if codes[code] < least {
			t.Errorf("the code %d was there %d times", code, codes[code])
		}
	}
}

// checkAllOfScript asks all of the chapter's functions that take a file system, with n in place of each number.
func checkAllOfScript(t *testing.T, name string, f impl.FsWorld, n int64) {
	t.Helper()
	kept := copyFs(f)
	checkText(t, name, impl.RunText(f, n), wantRunText(f, n))
	for _, word := range []string{"make", "write", "step", "leave", "split", "say", "fall", "show"} {
		line := word + strings.Repeat(" "+strconv.FormatInt(n, 10), takesOfWord[word])
		checkScript(t, name+", "+line, impl.StepScript(f, line), wantStepScript(f, line))
	}
	script := fmt.Sprintf("look 0 %d\nsay %d\nshow\nstep %d", n, n, n)
	checkScript(t, name+", script", impl.RunScript(f, script), wantRunScript(f, script))
	if !equalFsWorlds(kept, f) {
		t.Errorf("%s at %d: %+v became %+v", name, n, kept, f)
	}
}

// P1: each function at right file systems and at wrong ones, and at any number, that of the place among them.
func TestScriptsAtOddNumbers(t *testing.T) {
	used := usedFs()
	for _, n := range append(numbers(999, 1000, 9998, 9999, 10000, 99999, 100000), oddNumbers()...) {
		checkAllOfScript(t, "used", used, n)
	}
	for _, c := range append(rightFsWorlds(), wrongFsWorlds()...) {
		for _, n := range numbers(math.MinInt64, 0, 8, math.MaxInt64) {
			checkAllOfScript(t, c.name, c.f, n)
		}
	}
}

// P1: each number of a right one, one at a time, may be anything.
func TestScriptsOfOddNumbers(t *testing.T) {
	spots := func(f *impl.FsWorld) []*int64 {
		w, txn := &f.World, &f.World.Txns[8]
		list := []*int64{&w.Now, &w.Oracle.Next, &w.Oracle.Bound, &w.Groups.Ranges[1].Epoch, &w.Groups.Stores[0].Cells[0].Value, &w.Groups.Stores[1].Writes[0].Start, &w.Txns[0].Items[0].Value, &w.Txns[0].Items[1].Value, &txn.Start, &txn.Commit, &txn.Until, &txn.State, &txn.At}
		for _, at := range []int{0, 4, len(f.Runs) - 1} {
			run := &f.Runs[at]
			list = append(list, &run.Place, &run.Ts, &run.Reply, &run.Value, &run.Op.Kind, &run.Op.Dir, &run.Op.Name, &run.Op.ToDir, &run.Op.ToName, &run.Op.Value)
		}
		return list
	}
	from := usedFs()
	for i := range spots(&from) {
		for _, n := range numbers(math.MinInt64, math.MinInt64+1, -2, -1, 0, 1, 2, 3, 8, 9, 10, 11, 17, 18, 100, 1000, 2001, 9999, 10000, 100000, 100001, math.MaxInt64-1, math.MaxInt64) {
			f := copyFs(from)
			*spots(&f)[i] = n
			checkAllOfScript(t, fmt.Sprintf("%d in the number %d", n, i), f, int64(i%11))
			checkRuns(t, fmt.Sprintf("%d in the number %d", n, i), f)
		}
	}
}

// P1: any bytes are a line, and any text a script.
func TestAnyBytesAreALine(t *testing.T) {
	r := rand.New(rand.NewSource(518))
	f, right := usedFs(), 0
	pieces := append(wordsInOrder(), " ", " ", " ", " ", "  ", "0", "1", "2", "3", "10", "43", "9999", "10000", "00", "\n", "\n", "\t", "\x00", "\xff", "ü", "-1", "+1", "a")
	for range 6000 {
		line := ""
		for range r.Intn(9) {
			line += pieces[r.Intn(len(pieces))]
			if r.Intn(2) == 0 {
				line += " "
			}
		}
		if got := impl.StepScript(f, line); got.Code != impl.ErrText {
			right++
			checkScript(t, line, got, wantStepScript(f, line))
		} else if _, _, ok := wantOrder(line); ok || !equalScripts(got, noScript(impl.ErrText)) {
			t.Errorf("%q: %+v", line, got)
		}
		if got := impl.RunScript(f, line); r.Intn(4) == 0 {
			checkScript(t, line, got, wantRunScript(f, line))
		}
	}
	if right < 200 {
		t.Errorf("only %d were lines", right)
	}
}

// P1: arguments stay as they were, answers are new memory, also where nothing changes, nothing is said, or a line has a code.
func TestScriptsAreNewMemory(t *testing.T) {
	lines := []string{"", "show", "say 0", "look 0 1", "make 0 0", "link 0 1 0 0", "step 0", "step 4", "leave 4", "leave 8", "tick 0", "tick 5", "split 0", "split 60", "fall", "drive"}
	scripts := []string{"", "\n", "wink", "say 0\nshow", "leave 0\nsplit 200\n", "make 0 0\nwink\ndrive\nread 0 1\nfall\ntick 21\nsplit 30\nshow\n"}
	for _, f := range []impl.FsWorld{usedFs(), newFs(), madeFs(), readingFs(usedFs(), 19), lockedFs(), laterFs(lockedFs(), 21), doneFs(), begunOf(), rawFs(519)[3], rawFs(519)[80]} {
		for _, line := range lines {
			checkFsMemory(t, "StepScript "+line, f, func(f impl.FsWorld) impl.FsWorld { return impl.StepScript(f, line).FsWorld })
		}
		for _, script := range scripts {
			checkFsMemory(t, "RunScript "+script, f, func(f impl.FsWorld) impl.FsWorld { return impl.RunScript(f, script).FsWorld })
		}
		checkFsMemory(t, "RunText", f, func(f impl.FsWorld) impl.FsWorld {
			for place := range int64(32) {
				impl.RunText(f, place-1)
			}
			return impl.FsWorld{}
		})
	}
}

// P1: so of words and of nodes; an answer's list has no room that another one's has.
func TestWordsAndNodesAreNewMemory(t *testing.T) {
	for _, line := range []string{"", "  ", "a", "make 0 1", strings.Repeat("a b ", 50)} {
		first, second := impl.WordsOf(line), impl.WordsOf(line)
		for i := range first.Words[:cap(first.Words)] {
			first.Words[:cap(first.Words)][i] = "spoiled"
		}
		if third := impl.WordsOf(line); !slices.Equal(second.Words, wantWords(line)) || !slices.Equal(third.Words, wantWords(line)) {
			t.Errorf("%q: %q, and then %q", line, second.Words, third.Words)
		}
	}
	for _, list := range [][]impl.TreeNode{nil, {node(1, 1, 2, 3)}, slices.Repeat([]impl.TreeNode{node(4, 2, 3, 2001)}, 60), slices.Repeat([]impl.TreeNode{node(4, 2, 3, 2001)}, 61), {node(1, 1, 2, 3), node(-1, 1, 2, 3)}} {
		nodes, stays := roomyList(list, node(-7, -7, -7, -7))
		first := impl.TreeText(nodes)
		if !stays() {
			t.Errorf("%v: the nodes changed", list)
		}
		spoilNodes(nodes)
		checkText(t, "spoiled", first, wantTreeText(list))
	}
}

type scriptAnswers struct {
	words impl.WordsResult
	tree  impl.TextResult
	run   impl.TextResult
	steps []impl.ScriptResult
}

func askScripts(f impl.FsWorld, n int64) scriptAnswers {
	number := strconv.FormatInt(max(n, 0)%12, 10)
	a := scriptAnswers{words: impl.WordsOf(" a " + number), tree: impl.TreeText([]impl.TreeNode{node(n, 1, 2, 3), node(4, n, 5, n)}), run: impl.RunText(f, n)}
	for _, line := range []string{"make 0 " + number, "look 0 " + number, "step " + number, "leave " + number, "split " + number, "say " + number, "show", "wink " + number} {
		a.steps = append(a.steps, impl.StepScript(f, line))
	}
	if n%16 == 0 {
		a.steps = append(a.steps, impl.RunScript(f, "make 0 0\ndrive\nshow\nstep "+number+"\nsay "+number))
	}
	return a
}

// P1: whatever was asked ahead of it, and beside it, an answer is the same; the order of a map is not to be seen.
func TestScriptAnswersHangOnArguments(t *testing.T) {
	for _, f := range []impl.FsWorld{usedFs(), laterFs(usedFs(), 21), rawFs(520)[2]} {
		checkSteady(t, func(n int64) any { return askScripts(f, n) })
	}
}
