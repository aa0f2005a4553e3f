package tests

import (
	"fmt"
	"math/rand"
	"slices"
	"testing"

	"loop.example/g00331/impl"
)

func pick(r *rand.Rand, list ...int64) int64 { return list[r.Intn(len(list))] }

// anyOp has no fault; half of all stay near the root, where most entries are.
func anyOp(r *rand.Rand) impl.FsOp {
	inodes := int64(10)
	if r.Intn(2) == 0 {
		inodes = 3
	}
	o := fsOp(1+r.Int63n(8), r.Int63n(inodes), r.Int63n(6))
	switch o.Kind {
	case impl.OpMove, impl.OpLink:
		o.ToDir, o.ToName = r.Int63n(inodes), r.Int63n(6)
		if r.Intn(2) == 0 {
			o.ToDir = o.Dir
		}
	case impl.OpWrite:
		o.Value = r.Int63n(10000)
	}
	return o
}

// rawValue is one that says something of its key's kind, or one beside that, or anything that may stand there.
func rawValue(r *rand.Rand, kind int64) int64 {
	switch r.Intn(8) {
	case 0:
		return r.Int63n(10000)
	case 1:
		return pick(r, 0, 1, 9, 10, 11, 999, 1000, 1001, 1999, 2000, 2001, 2002, 2098, 2099, 2100, 9999)
	}
	switch kind {
	case impl.KindNext:
		return pick(r, 0, 1, 2, 5, 8, 9, 10, 11)
	case impl.KindInode:
		return pick(r, 1000, 1000, 1000, 1000, 2001, 2001, 2002, 2098, 2099, 2099)
	case impl.KindEntry:
		return r.Int63n(11)
	}
	return r.Int63n(10000)
}

// keyRow is made once, as each raw view goes through all keys.
var keyRow = allKeys()

// rawView hangs together by chance alone; it has few keys, or many, or nearly all.
func rawView(r *rand.Rand) (view []impl.Pair) {
	part := pick(r, 1, 4, 8, 14, 20)
	for _, k := range keyRow {
		often := part
		if k.kind == impl.KindInode {
			often = max(part, 14)
		}
		if r.Int63n(20) < often {
			view = append(view, pair(k.key, rawValue(r, k.kind)))
		}
	}
	return view
}

// grownViews came of an empty one by operations, one behind the other; each is told, and what was done to it next.
func grownViews(r *rand.Rand, steps int, each func(view []impl.Pair, o impl.FsOp, plan impl.Plan)) []impl.Pair {
	view := impl.ApplyItems(nil, impl.EmptyFs(pick(r, 1, 1, 1, 2, 6, 9, 10)).Writes).Pairs
	for range steps {
		o := opNear(r, view)
		plan := impl.CompileFs(view, o)
		each(view, o, plan)
		view = impl.ApplyItems(view, plan.Writes).Pairs
	}
	return view
}

// opNear is half the time where an entry is, so that not most operations find none.
func opNear(r *rand.Rand, view []impl.Pair) impl.FsOp {
	o := anyOp(r)
	entries := slices.DeleteFunc(slices.Clone(view), func(p impl.Pair) bool { return !within(p.Key, 20, 119) })
	if len(entries) > 0 && r.Intn(2) == 0 {
		at := entries[r.Intn(len(entries))].Key - 20
		o.Dir, o.Name = at/10, at%10
	}
	return o
}

// eachOp are all operations without a fault, but for the Value of a write, of which there are two.
func eachOp() (list []impl.FsOp) {
	for at := range int64(60) {
		for _, kind := range numbers(1, 2, 3, 7, 8) {
			list = append(list, fsOp(kind, at/6, at%6))
		}
		list = append(list, fsOp(6, at/6, at%6, 0), fsOp(6, at/6, at%6, 9999))
		for to := range int64(60) {
			list = append(list, fsOp(4, at/6, at%6, to/6, to%6), fsOp(5, at/6, at%6, to/6, to%6))
		}
	}
	return list
}

// A tally counts plans by kind and reply.
type tally map[[2]int64]int

// checkTally: each kind came to each reply that it may have, often enough.
func checkTally(t *testing.T, found tally, least int) {
	t.Helper()
	may := map[int64][]int64{
		1: {impl.OK, impl.ErrDir, impl.ErrTaken, impl.ErrMany}, 2: {impl.OK, impl.ErrDir, impl.ErrTaken, impl.ErrMany},
		3: {impl.OK, impl.ErrDir, impl.ErrNone, impl.ErrForm}, 4: {impl.OK, impl.ErrDir, impl.ErrNone, impl.ErrState, impl.ErrTaken},
		5: {impl.OK, impl.ErrDir, impl.ErrNone, impl.ErrTaken, impl.ErrMany}, 6: {impl.OK, impl.ErrDir, impl.ErrNone},
		7: {impl.OK, impl.ErrDir, impl.ErrNone}, 8: {impl.OK, impl.ErrDir, impl.ErrNone},
	}
	seen := 0
	for kind, replies := range may {
		for _, reply := range replies {
			if found[[2]int64{kind, reply}] < least {
				t.Errorf("only %d of the kind %d came to %d", found[[2]int64{kind, reply}], kind, reply)
			}
			seen++
		}
	}
	if len(found) != seen {
		t.Errorf("%v has replies that no kind has", found)
	}
}

// Each operation at raw views, at the empty one and at those of EmptyFs, against the chapter's words.
func TestEachOperationAtRawViews(t *testing.T) {
	r := rand.New(rand.NewSource(201))
	found := tally{}
	views := [][]impl.Pair{nil, newView(), plainView(), impl.ApplyItems(nil, impl.EmptyFs(10).Writes).Pairs, eachPair()}
	for range 12 {
		views = append(views, rawView(r))
	}
	for _, view := range views {
		for _, o := range eachOp() {
			found[[2]int64{o.Kind, checkCompile(t, "raw", view, o).Reply}]++
		}
	}
	for range 20000 {
		view := rawView(r)
		o := opNear(r, view)
		found[[2]int64{o.Kind, checkCompile(t, "raw", view, o).Reply}]++
	}
	checkTally(t, found, 20)
}

// So at views that came of many operations; what is made of a plan has no fault.
func TestEachOperationAtGrownViews(t *testing.T) {
	r := rand.New(rand.NewSource(202))
	found := tally{}
	for range 400 {
		grownViews(r, 120, func(view []impl.Pair, o impl.FsOp, plan impl.Plan) {
			checkPlan(t, fmt.Sprintf("%+v at %v", o, view), plan, wantPlan(view, o))
			checkCompile(t, "grown", view, anyOp(r))
			if code := wantPairsFault(view); code != impl.OK {
				t.Fatalf("%v has the fault %d", view, code)
			}
			found[[2]int64{o.Kind, plan.Reply}]++
		})
	}
	found[[2]int64{impl.OpLink, impl.ErrMany}] += 20 // a file cannot come to 99 entries, as there are 60
	checkTally(t, found, 20)
}

// What the questions tell is what the operations find.
func TestViewQuestionsAtManyViews(t *testing.T) {
	r := rand.New(rand.NewSource(203))
	dirs, children := 0, 0
	for i := range 1500 {
		view := rawView(r)
		if i%10 == 0 {
			view = grownViews(r, 60, func([]impl.Pair, impl.FsOp, impl.Plan) {})
		}
		for dir := int64(-1); dir <= 10; dir++ {
			isDir, entries := impl.IsFsDir(view, dir), impl.EntriesOf(view, dir)
			if isDir != wantIsFsDir(view, dir) || !sameInts(entries, wantEntries(view, dir)) {
				t.Fatalf("%v: what is told of %d is wrong: %v, %+v", view, dir, isDir, entries)
			}
			if isDir {
				dirs++
			}
			for name := int64(-1); name <= 6; name++ {
				child := impl.ChildOf(view, dir, name)
				if child != wantChild(view, dir, name) || child.Has != slices.Contains(entries.List, name) {
					t.Fatalf("%v: the child of %d and %d is %+v, and the entries are %+v", view, dir, name, child, entries)
				}
				if child.Has {
					children++
				}
				if plan := impl.CompileFs(view, fsOp(8, dir, name)); plan.Code == impl.OK && (plan.Reply == impl.ErrDir) == isDir {
					t.Fatalf("%v: %d is a directory: %v, and to look in it comes to %+v", view, dir, isDir, plan)
				}
			}
		}
	}
	if dirs < 2000 || children < 3000 {
		t.Errorf("only %d directories, and %d children", dirs, children)
	}
}

// elsewhere agrees with view at all of the reads, and at nothing else.
func elsewhere(r *rand.Rand, view []impl.Pair, reads []int64) (other []impl.Pair) {
	for _, k := range keyRow {
		if slices.Contains(reads, k.key) {
			if is := wantValueIn(view, k.key); is.Has {
				other = append(other, pair(k.key, is.Value))
			}
			continue
		}
		is := wantValueIn(view, k.key)
		if value := rawValue(r, k.kind); !is.Has || r.Intn(2) == 0 && value != is.Value {
			other = append(other, pair(k.key, value))
		}
	}
	return other
}

// justRead has of a view what was read alone.
func justRead(view []impl.Pair, reads []int64) []impl.Pair {
	return slices.DeleteFunc(slices.Clone(view), func(p impl.Pair) bool { return !slices.Contains(reads, p.Key) })
}

// P14: whatever all other keys have, what was read alone says what is found.
func TestFoundHangsOnReadsAlone(t *testing.T) {
	r := rand.New(rand.NewSource(204))
	found := tally{}
	check := func(view []impl.Pair, o impl.FsOp) {
		t.Helper()
		plan := impl.CompileFs(view, o)
		found[[2]int64{o.Kind, plan.Reply}]++
		for _, other := range [][]impl.Pair{justRead(view, plan.Reads), elsewhere(r, view, plan.Reads), elsewhere(r, view, plan.Reads)} {
			if got := impl.CompileFs(other, o); !equalPlans(got, plan) {
				t.Fatalf("%+v at %v comes to %+v, and at %v, which is the same at all that it read, to %+v", o, view, plan, other, got)
			}
		}
	}
	for range 20000 {
		view := rawView(r)
		check(view, opNear(r, view))
	}
	for range 30 {
		grownViews(r, 80, func(view []impl.Pair, o impl.FsOp, _ impl.Plan) { check(view, o) })
	}
	for _, view := range [][]impl.Pair{nil, newView(), plainView(), viewWith(plainView(), pair(11, 2099)), rawView(r)} {
		for _, o := range eachOp() {
			check(view, o)
		}
	}
	checkTally(t, found, 10)
}

// P14: so of each key by itself: where a plan changes with it, it was read.
func TestFoundChangesWithReadsAlone(t *testing.T) {
	r := rand.New(rand.NewSource(205))
	changes := 0
	for range 800 {
		view := rawView(r)
		o := opNear(r, view)
		plan := impl.CompileFs(view, o)
		for _, k := range keyRow {
			for _, other := range [][]impl.Pair{viewWithout(view, k.key), viewWith(view, pair(k.key, rawValue(r, k.kind))), viewWith(view, pair(k.key, 1000))} {
				if equalPlans(impl.CompileFs(other, o), plan) {
					continue
				}
				changes++
				if !slices.Contains(plan.Reads, k.key) {
					t.Fatalf("%+v at %v comes to %+v, and changes with %d", o, view, plan, k.key)
				}
			}
		}
	}
	if changes < 1500 {
		t.Errorf("only %d changes", changes)
	}
}

func spoilNumbers(list []int64) {
	whole := list[:cap(list)]
	for i := range whole {
		whole[i] = -7
	}
}

// checkPlanMemory: writing into the reads changes no writes and no other plan, and so the other way round; what comes again is the same.
func checkPlanMemory(t *testing.T, name string, ask func() impl.Plan, want impl.Plan) {
	t.Helper()
	first, second, third := ask(), ask(), ask()
	spoilNumbers(first.Reads)
	if !slices.Equal(first.Writes, want.Writes) {
		t.Fatalf("%s: the writes changed with the reads", name)
	}
	spoilItems(second.Writes)
	if !slices.Equal(second.Reads, want.Reads) {
		t.Fatalf("%s: the reads changed with the writes", name)
	}
	checkPlan(t, name+", the third", third, want)
	checkPlan(t, name+", again", ask(), want)
}

// P1: arguments stay as they were, and answers are new memory.
func TestFilesAreNewMemory(t *testing.T) {
	r := rand.New(rand.NewSource(206))
	for i := range 3000 {
		from := rawView(r)
		if i%3 == 0 {
			from = grownViews(r, 20, func([]impl.Pair, impl.FsOp, impl.Plan) {})
		}
		o := opNear(r, from)
		view, stays := roomyList(from, pair(-7, -7))
		name := fmt.Sprintf("%+v at %v", o, from)
		want := wantPlan(from, o)
		checkPlanMemory(t, name, func() impl.Plan { return impl.CompileFs(view, o) }, want)
		dir := r.Int63n(10)
		first, second := impl.EntriesOf(view, dir), impl.EntriesOf(view, dir)
		spoilNumbers(first.List)
		impl.IsFsDir(view, dir)
		impl.ChildOf(view, dir, o.Name)
		if !stays() {
			t.Fatalf("%s: the view changed", name)
		}
		if !sameInts(second, wantEntries(from, dir)) || !sameInts(impl.EntriesOf(view, dir), second) {
			t.Fatalf("%s: the entries of %d changed with those of another answer", name, dir)
		}
		plan := impl.CompileFs(view, o)
		spoilPairs(view)
		checkPlan(t, name+", and the view spoiled", plan, want)
		if !sameInts(second, wantEntries(from, dir)) {
			t.Fatalf("%s: the entries of %d changed with the view", name, dir)
		}
	}
	for next := int64(0); next <= 11; next++ {
		checkPlanMemory(t, "empty", func() impl.Plan { return impl.EmptyFs(next) }, wantEmptyFs(next))
	}
}

type fileAnswers struct {
	fault    int64
	empty    impl.Plan
	plans    []impl.Plan
	isDir    bool
	child    impl.GetResult
	entries  impl.IntsResult
	oddValue impl.Plan
}

func askFiles(view []impl.Pair, n int64) fileAnswers {
	a := fileAnswers{fault: impl.FsOpFault(fsOp(n, n, n)), empty: impl.EmptyFs(n), isDir: impl.IsFsDir(view, n), child: impl.ChildOf(view, n, 2), entries: impl.EntriesOf(view, n), oddValue: impl.CompileFs(view, fsOp(6, 0, 0, n))}
	for kind := int64(1); kind <= 8; kind++ {
		a.plans = append(a.plans, impl.CompileFs(view, fsOp(kind, n%10, n%6)), impl.CompileFs(view, fsOp(kind, n/20, n%6)))
	}
	for at := range int64(6) {
		a.plans = append(a.plans, impl.CompileFs(view, fsOp(4, 0, at, 0, n%6)), impl.CompileFs(view, fsOp(5, 0, at, n%10, n%6)), impl.CompileFs(view, fsOp(3, 0, at)))
	}
	return a
}

// P1: whatever was asked ahead of it, and beside it, an answer is the same; the order of a map is not to be seen.
func TestFileAnswersHangOnArguments(t *testing.T) {
	r := rand.New(rand.NewSource(207))
	for _, view := range [][]impl.Pair{nil, newView(), plainView(), rawView(r), rawView(r)} {
		checkSteady(t, func(n int64) any { return askFiles(view, n) })
	}
}

// A file system that is told from its beginning: what is made is found, and what is gone is not.
func TestFilesOneBehindTheOther(t *testing.T) {
	view := newView()
	for i, c := range []struct {
		op           impl.FsOp
		reply, value int64
	}{
		{fsOp(1, 0, 2), impl.OK, 1}, {fsOp(1, 0, 2), impl.ErrTaken, 0}, {fsOp(7, 0, 2), impl.OK, 0}, {fsOp(6, 0, 2, 55), impl.OK, 0}, {fsOp(7, 0, 2), impl.OK, 55}, {fsOp(2, 0, 0), impl.OK, 2}, {fsOp(2, 2, 0), impl.OK, 3},
		{fsOp(5, 0, 2, 3, 4), impl.OK, 0}, {fsOp(8, 0, 2), impl.OK, 2002}, {fsOp(7, 3, 4), impl.OK, 55}, {fsOp(3, 2, 0), impl.ErrForm, 0}, {fsOp(4, 2, 0, 0, 1), impl.ErrState, 0}, {fsOp(4, 2, 0, 2, 5), impl.OK, 0}, {fsOp(8, 2, 0), impl.ErrNone, 0},
		{fsOp(8, 2, 5), impl.OK, 1000}, {fsOp(4, 0, 2, 2, 1), impl.OK, 0}, {fsOp(7, 0, 2), impl.ErrNone, 0}, {fsOp(7, 2, 1), impl.OK, 55}, {fsOp(3, 3, 4), impl.OK, 0}, {fsOp(8, 2, 1), impl.OK, 2001}, {fsOp(3, 2, 5), impl.OK, 0}, {fsOp(1, 3, 0), impl.ErrDir, 0},
		{fsOp(3, 2, 1), impl.OK, 0}, {fsOp(3, 0, 0), impl.OK, 0}, {fsOp(8, 0, 0), impl.ErrNone, 0}, {fsOp(1, 0, 0), impl.OK, 4},
	} {
		plan := checkCompile(t, "told", view, c.op)
		if plan.Code != impl.OK || plan.Reply != c.reply || plan.Value != c.value {
			t.Fatalf("%d: %+v comes to %+v, want %d and %d", i, c.op, plan, c.reply, c.value)
		}
		view = impl.ApplyItems(view, plan.Writes).Pairs
	}
	if !slices.Equal(view, pairs(pair(0, 5), pair(10, 1000), pair(14, 2001), pair(20, 4))) {
		t.Errorf("%v is left", view)
	}
}
