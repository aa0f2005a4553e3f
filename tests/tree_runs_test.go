package tests

import (
	"fmt"
	"math/rand"
	"slices"
	"testing"

	"loop.example/g00331/impl"
)

// dirsOf are the inodes of a view that are directories.
func dirsOf(view []impl.Pair) (dirs []int64) {
	for _, p := range view {
		if within(p.Key, 10, 19) && p.Value == 1000 {
			dirs = append(dirs, p.Key-10)
		}
	}
	return dirs
}

// opInside stays in directories that are there, most of the time, so that what is made gets deep.
func opInside(r *rand.Rand, view []impl.Pair) impl.FsOp {
	o, dirs := opNear(r, view), dirsOf(view)
	if r.Intn(5) == 0 {
		return o
	}
	if !slices.Contains(dirs, o.Dir) {
		o.Dir = pick(r, dirs...)
	}
	if o.Kind == impl.OpMove || o.Kind == impl.OpLink {
		o.ToDir = pick(r, append(dirs, o.Dir)...)
	}
	return o
}

// startViews are those that others grow from; the first ones are empty.
func startViews() [][]impl.Pair {
	return [][]impl.Pair{newView(), newView(), newView(), impl.ApplyItems(nil, impl.EmptyFs(6).Writes).Pairs, impl.ApplyItems(nil, impl.EmptyFs(10).Writes).Pairs, plainView(), chainView(), crowdedView(), fullView(), sharedView()}
}

// grownTrees are told with what was done to each next, and what came of it.
func grownTrees(r *rand.Rand, runs, steps int, each func(view []impl.Pair, o impl.FsOp, got impl.FsResult)) {
	starts := startViews()
	for i := range runs {
		view := starts[i%len(starts)]
		for range steps {
			o := opInside(r, view)
			got := impl.ApplyFs(view, o)
			each(view, o, got)
			view = got.View
		}
	}
}

// checkWholeTally: each kind came to each Reply that it may have in a whole view; 99 entries of one file are more than there can be.
func checkWholeTally(t *testing.T, found tally, least int) {
	t.Helper()
	if n := found[[2]int64{impl.OpLink, impl.ErrMany}]; n != 0 {
		t.Errorf("%d links found too many", n)
	}
	found[[2]int64{impl.OpLink, impl.ErrMany}] = least
	checkTally(t, found, least)
}

// P15: a whole file system stays whole, and what comes to nothing, or just reads, changes nothing.
func TestWholeStaysWhole(t *testing.T) {
	r := rand.New(rand.NewSource(301))
	found := tally{}
	deepest := int64(0)
	grownTrees(r, 400, 120, func(view []impl.Pair, o impl.FsOp, got impl.FsResult) {
		name := fmt.Sprintf("%+v at %v", o, view)
		if want := wantApplyFs(view, o); !equalFs(got, want) {
			t.Fatalf("%s: %+v, want %+v", name, got, want)
		}
		if fault := impl.FsFault(got.View); fault != impl.OK || got.Code != impl.OK {
			t.Fatalf("%s: %+v has the fault %d", name, got, fault)
		}
		if stays := got.Reply != impl.OK || o.Kind >= impl.OpRead; stays && !slices.Equal(got.View, view) {
			t.Fatalf("%s: it comes to %+v", name, got)
		}
		for _, n := range impl.TreeOf(got.View).Nodes {
			deepest = max(deepest, n.Depth)
		}
		found[[2]int64{o.Kind, got.Reply}]++
	})
	checkWholeTally(t, found, 30)
	if deepest != 9 {
		t.Errorf("the deepest entry is at %d", deepest)
	}
}

// P15: so of each operation that has no fault, at some views.
func TestWholeStaysWholeByEachOperation(t *testing.T) {
	found := tally{}
	for _, view := range startViews()[2:] {
		for _, o := range eachOp() {
			got := impl.ApplyFs(view, o)
			if fault := impl.FsFault(got.View); fault != impl.OK || got.Code != impl.OK || got.Reply != impl.OK && !slices.Equal(got.View, view) {
				t.Fatalf("%+v at %v comes to %+v, of which the fault is %d", o, view, got, fault)
			}
			if want := wantApplyFs(view, o); !equalFs(got, want) {
				t.Fatalf("%+v at %v comes to %+v, want %+v", o, view, got, want)
			}
			found[[2]int64{o.Kind, got.Reply}]++
		}
	}
	checkWholeTally(t, found, 10)
}

// placesOf are the entries of an inode.
func placesOf(view []impl.Pair, inode int64) (keys []int64) {
	for _, p := range view {
		if isEntry(p) && p.Value == inode {
			keys = append(keys, p.Key)
		}
	}
	return keys
}

// belowOf are the nodes behind an entry that are in it, each as deep as it is below that one.
func belowOf(view []impl.Pair, entry int64) (nodes []impl.TreeNode) {
	path := pathTo(view, entry)
	depth := int64(len(path))
	tree := impl.TreeOf(view).Nodes
	at := slices.IndexFunc(wantPaths(view), func(p []int64) bool { return slices.Equal(p, path) })
	for _, n := range tree[at+1:] {
		if n.Depth <= depth {
			break
		}
		n.Depth -= depth
		nodes = append(nodes, n)
	}
	return nodes
}

// wantPaths are the paths of all entries, in the tree's order.
func wantPaths(view []impl.Pair) (paths [][]int64) {
	for _, p := range view {
		if isEntry(p) {
			paths = append(paths, pathTo(view, p.Key))
		}
	}
	slices.SortFunc(paths, slices.Compare[[]int64])
	return paths
}

// P15: what is moved or linked is there under its new name, and is the same.
func TestMovedAndLinkedIsTheSame(t *testing.T) {
	r := rand.New(rand.NewSource(302))
	moved, movedDirs, linked := 0, 0, 0
	grownTrees(r, 1000, 120, func(view []impl.Pair, o impl.FsOp, got impl.FsResult) {
		if o.Kind != impl.OpMove && o.Kind != impl.OpLink || got.Reply != impl.OK {
			return
		}
		name := fmt.Sprintf("%+v at %v comes to %v", o, view, got.View)
		from, to := 20+10*o.Dir+o.Name, 20+10*o.ToDir+o.ToName
		before, behind := impl.ChildOf(view, o.Dir, o.Name), impl.ChildOf(got.View, o.ToDir, o.ToName)
		if !before.Has || before != behind {
			t.Fatalf("%s: it was %+v, and is %+v", name, before, behind)
		}
		inode := before.Value
		was, is := impl.ValueIn(view, 10+inode), impl.ValueIn(got.View, 10+inode)
		wantPlaces := append(placesOf(view, inode), to)
		more := int64(1)
		if o.Kind == impl.OpMove {
			wantPlaces = slices.DeleteFunc(wantPlaces, func(key int64) bool { return key == from })
			more = 0
			moved++
		} else {
			linked++
		}
		slices.Sort(wantPlaces)
		if !slices.Equal(placesOf(got.View, inode), wantPlaces) || is.Value != was.Value+more || impl.LinksTo(got.View, inode).Value != int64(len(wantPlaces)) {
			t.Fatalf("%s: the inode was %+v, and is %+v, and the entries are not %v", name, was, is, wantPlaces)
		}
		read := impl.ApplyFs(view, fsOp(7, o.Dir, o.Name))
		readNow := impl.ApplyFs(got.View, fsOp(7, o.ToDir, o.ToName))
		if read.Code != impl.OK || read.Reply != readNow.Reply || read.Value != readNow.Value {
			t.Fatalf("%s: %+v was read, and %+v is", name, read, readNow)
		}
		if was.Value == 1000 {
			movedDirs++
			if !slices.Equal(belowOf(view, from), belowOf(got.View, to)) {
				t.Fatalf("%s: what is in it changed", name)
			}
		}
		rest := viewWithout(got.View, to, 10+inode)
		if !slices.Equal(rest, viewWithout(view, from, 10+inode)) && o.Kind == impl.OpMove || !slices.Equal(rest, viewWithout(view, 10+inode)) && o.Kind == impl.OpLink {
			t.Fatalf("%s: something else changed", name)
		}
	})
	if moved < 2000 || movedDirs < 300 || linked < 1500 {
		t.Errorf("only %d moved, %d of these directories, and %d linked", moved, movedDirs, linked)
	}
}

// P15: a file is read and written by each of its names as by the others.
func TestLinksAreTheSameFile(t *testing.T) {
	for _, view := range [][]impl.Pair{sharedView(), crowdedView()} {
		names := placesOf(view, 1)
		for i, key := range names {
			at := key - 20
			written := impl.ApplyFs(view, fsOp(6, at/10, at%10, int64(100+i)))
			for _, other := range names {
				at := other - 20
				if got := impl.ApplyFs(written.View, fsOp(7, at/10, at%10)); got.Reply != impl.OK || got.Value != int64(100+i) {
					t.Fatalf("what was written at %d is read at %d as %+v", key, other, got)
				}
			}
		}
		for i, key := range names {
			at := key - 20
			view = impl.ApplyFs(view, fsOp(3, at/10, at%10)).View
			left := int64(len(names) - i - 1)
			if got := impl.LinksTo(view, 1); got != (impl.IntResult{Value: left}) || impl.ValueIn(view, 181).Has != (left > 0) || impl.ValueIn(view, 11).Has != (left > 0) {
				t.Fatalf("without %d names it has %+v: %v", i+1, got, view)
			}
		}
	}
}

// P15: of all entries the tree tells each, once, with its Depth, its Name and its inode's Value, in the document's order.
func TestTreeTellsEachEntryOnce(t *testing.T) {
	r := rand.New(rand.NewSource(303))
	check := func(view []impl.Pair) {
		t.Helper()
		tree := impl.TreeOf(view)
		if want := wantTree(view); !equalTrees(tree, want) {
			t.Fatalf("the tree of %v is %+v, want %+v", view, tree, want)
		}
		left := map[int64]int64{}
		for _, p := range view {
			if isEntry(p) {
				left[p.Key] = p.Value
			}
		}
		var dirs [11]int64
		for _, n := range tree.Nodes {
			if !within(n.Depth, 1, 9) {
				t.Fatalf("%+v of %v is too deep", n, view)
			}
			key := 20 + 10*dirs[n.Depth-1] + n.Name
			inode, there := left[key]
			if !there || inode != n.Inode || impl.ValueIn(view, 10+inode) != (impl.GetResult{Has: true, Value: n.Value}) {
				t.Fatalf("%+v of %v is no entry that was not told", n, view)
			}
			delete(left, key)
			dirs[n.Depth] = n.Inode
		}
		if len(left) != 0 {
			t.Fatalf("%v of %v are not told", left, view)
		}
		for inode := int64(0); inode <= 9; inode++ {
			told := int64(0)
			for _, n := range tree.Nodes {
				if n.Inode == inode {
					told++
				}
			}
			if impl.LinksTo(view, inode).Value != told {
				t.Fatalf("%d of %v is told %d times", inode, view, told)
			}
		}
	}
	for _, c := range wholeViews() {
		check(c.list)
	}
	grownTrees(r, 150, 100, func(_ []impl.Pair, _ impl.FsOp, got impl.FsResult) { check(got.View) })
}

// anyOps have no fault; they are those that would be done one behind the other.
func anyOps(r *rand.Rand, view []impl.Pair, n int) (list []impl.FsOp) {
	for range n {
		o := opInside(r, view)
		list = append(list, o)
		view = impl.ApplyFs(view, o).View
	}
	return list
}

// P15: operations that are done in two parts come to what they come to in one, wherever they are cut.
func TestRunsInTwoParts(t *testing.T) {
	r := rand.New(rand.NewSource(304))
	starts := startViews()
	replies := int64(0)
	for i := range 250 {
		view := starts[i%len(starts)]
		list := anyOps(r, view, int(pick(r, 0, 1, 2, 7, 20, 39, 40, 40)))
		whole := impl.RunFs(view, list)
		if want := wantRunFs(view, list); !equalFs(whole, want) || whole.Code != impl.OK || impl.FsFault(whole.View) != impl.OK {
			t.Fatalf("%v at %v comes to %+v, want %+v", list, view, whole, want)
		}
		replies += whole.Value
		for cut := range len(list) + 1 {
			first := impl.RunFs(view, list[:cut])
			second := impl.RunFs(first.View, list[cut:])
			if first.Code != impl.OK || second.Code != impl.OK || first.Value+second.Value != whole.Value || !slices.Equal(second.View, whole.View) {
				t.Fatalf("%v at %v comes to %+v, and cut at %d to %+v and %+v", list, view, whole, cut, first, second)
			}
		}
		one := impl.FsResult{View: view}
		for _, o := range list {
			done := impl.ApplyFs(one.View, o)
			one.View = done.View
			if done.Reply != impl.OK {
				one.Value++
			}
		}
		if !equalFs(one, whole) {
			t.Fatalf("%v at %v comes to %+v, and one by one to %+v", list, view, whole, one)
		}
	}
	if replies < 500 {
		t.Errorf("only %d Replies", replies)
	}
}

// A run with a fault in one place does nothing, wherever that is, and tells the first one.
func TestRunsWithFaults(t *testing.T) {
	r := rand.New(rand.NewSource(305))
	wrong := []impl.FsOp{fsOp(0, 0, 0), fsOp(9, 10, 0), fsOp(1, 10, 0), fsOp(8, 0, 6), fsOp(6, 0, 0, 10000), fsOp(3, 0, 0, 1, 0), fsOp(4, 0, 0, -1, 0)}
	for range 60 {
		list := anyOps(r, plainView(), 40)
		for place := range list {
			bad := slices.Clone(list)
			bad[place] = wrong[r.Intn(len(wrong))]
			checkFs(t, "one fault", impl.RunFs(plainView(), bad), noFs(wantFsOpFault(bad[place])))
			bad[r.Intn(len(bad))] = wrong[r.Intn(len(wrong))]
			checkFs(t, "two faults", impl.RunFs(plainView(), bad), wantRunFs(plainView(), bad))
			checkFs(t, "one more", impl.RunFs(plainView(), append(bad, list[0])), noFs(impl.ErrMany))
		}
	}
}

// Whole views that were bent in some places, and raw ones, against the chapter's words.
func TestFsFaultAtManyViews(t *testing.T) {
	r := rand.New(rand.NewSource(306))
	found := map[int64]int{}
	grownTrees(r, 120, 60, func(view []impl.Pair, _ impl.FsOp, _ impl.FsResult) {
		for range 1 + r.Intn(3) {
			k := keyRow[r.Intn(len(keyRow))]
			if r.Intn(3) == 0 && len(view) > 0 {
				view = viewWithout(view, view[r.Intn(len(view))].Key)
			} else {
				view = viewWith(view, pair(k.key, rawValue(r, k.kind)))
			}
			found[checkView(t, "bent", view)]++
		}
	})
	for range 3000 {
		found[checkView(t, "raw", rawView(r))]++
	}
	nearly := map[int64]int{}
	for range 6000 {
		nearly[checkView(t, "nearly whole", nearlyWhole(r))]++
	}
	if found[impl.OK] < 500 || found[impl.ErrForm] < 8000 || nearly[impl.OK] < 400 || nearly[impl.ErrForm] < 2000 {
		t.Errorf("faults were found so often: %v, and %v", found, nearly)
	}
}

// nearlyWhole has few inodes and entries, by chance, and files that say how many entries they have.
func nearlyWhole(r *rand.Rand) []impl.Pair {
	view := pairs(pair(0, pick(r, 3, 4, 4, 4, 10)), pair(10, 1000))
	for inode := int64(1); inode <= 3; inode++ {
		for range 1 + r.Intn(2) {
			view = viewWith(view, pair(20+10*r.Int63n(inode+r.Int63n(2))+r.Int63n(2), inode))
		}
	}
	for inode := int64(1); inode <= 3; inode++ {
		links := wantLinks(view, inode).Value
		if links == 1 && r.Intn(2) == 0 {
			view = viewWith(view, pair(10+inode, 1000))
		} else if links > 0 {
			view = viewWith(view, pair(10+inode, 2000+links))
		}
		if r.Intn(6) == 0 {
			view = viewWith(view, pair(180+inode, 1))
		}
	}
	return view
}

func spoilNodes(nodes []impl.TreeNode) {
	whole := nodes[:cap(nodes)]
	for i := range whole {
		whole[i] = node(-7, -7, -7, -7)
	}
}

// P1: arguments stay as they were, and answers are new memory.
func TestTreesAreNewMemory(t *testing.T) {
	r := rand.New(rand.NewSource(307))
	starts := startViews()
	for i := range 1500 {
		from := impl.RunFs(starts[i%len(starts)], anyOps(r, starts[i%len(starts)], r.Intn(20))).View
		fromOps := anyOps(r, from, i%5)
		o := opInside(r, from)
		view, viewStays := roomyList(from, pair(-7, -7))
		ops, opsStay := roomyList(fromOps, impl.FsOp{Kind: -7})
		name := fmt.Sprintf("%+v and %v at %v", o, ops, from)
		ask := func() (impl.FsResult, impl.FsResult, impl.TreeResult) {
			return impl.ApplyFs(view, o), impl.RunFs(view, ops), impl.TreeOf(view)
		}
		wantApplied, wantRun, wantNodes := wantApplyFs(from, o), wantRunFs(from, fromOps), wantTree(from)
		check := func(applied, run impl.FsResult, tree impl.TreeResult) {
			t.Helper()
			if !equalFs(applied, wantApplied) || !equalFs(run, wantRun) || !equalTrees(tree, wantNodes) {
				t.Fatalf("%s: %+v, %+v and %+v", name, applied, run, tree)
			}
		}
		applied, run, tree := ask()
		second, secondRun, secondTree := ask()
		spoilPairs(applied.View)
		spoilPairs(run.View)
		spoilNodes(tree.Nodes)
		impl.FsFault(view)
		impl.LinksTo(view, r.Int63n(10))
		if !viewStays() || !opsStay() {
			t.Fatalf("%s: the view or the operations changed", name)
		}
		check(second, secondRun, secondTree)
		check(ask())
		spoilPairs(view)
		for i := range ops {
			ops[i] = impl.FsOp{Kind: -7}
		}
		check(second, secondRun, secondTree)
	}
}

type treeAnswers struct {
	fault   int64
	links   impl.IntResult
	applied []impl.FsResult
	run     impl.FsResult
	tree    impl.TreeResult
}

func askTrees(view []impl.Pair, n int64) treeAnswers {
	a := treeAnswers{fault: impl.FsFault(view), links: impl.LinksTo(view, n%12), tree: impl.TreeOf(view)}
	var list []impl.FsOp
	for kind := int64(1); kind <= 8; kind++ {
		list = append(list, fsOp(kind, max(n, 0)%10, max(n, 0)%6))
	}
	for _, o := range append(list, fsOp(n, n, n), fsOp(6, 0, 0, n)) {
		a.applied = append(a.applied, impl.ApplyFs(view, o))
	}
	a.run = impl.RunFs(view, list)
	return a
}

// P1: whatever was asked ahead of it, and beside it, an answer is the same; the order of a map is not to be seen.
func TestTreeAnswersHangOnArguments(t *testing.T) {
	r := rand.New(rand.NewSource(308))
	for _, view := range [][]impl.Pair{nil, newView(), plainView(), crowdedView(), chainView(), rawView(r)} {
		checkSteady(t, func(n int64) any { return askTrees(view, n) })
	}
}

// A file system that is told from its beginning: links that are counted, and directories of one entry.
func TestTreesOneBehindTheOther(t *testing.T) {
	list := []impl.FsOp{fsOp(2, 0, 1), fsOp(1, 1, 2), fsOp(6, 1, 2, 7), fsOp(5, 1, 2, 0, 3), fsOp(3, 0, 1)}
	got := impl.RunFs(newView(), list)
	checkFs(t, "linked", got, impl.FsResult{Value: 1, View: pairs(pair(0, 3), pair(10, 1000), pair(11, 1000), pair(12, 2002), pair(21, 1), pair(23, 2), pair(32, 2), pair(182, 7))})
	checkTree(t, "linked", impl.TreeOf(got.View), treeTold(node(1, 1, 1, 1000), node(2, 2, 2, 2002), node(2, 1, 3, 2002)))
	got = impl.RunFs(got.View, []impl.FsOp{fsOp(3, 1, 2), fsOp(3, 0, 1), fsOp(7, 0, 3)})
	checkFs(t, "one entry is left", got, impl.FsResult{View: pairs(pair(0, 3), pair(10, 1000), pair(12, 2001), pair(23, 2), pair(182, 7))})
	got = impl.RunFs(got.View, []impl.FsOp{fsOp(4, 0, 3, 0, 0), fsOp(3, 0, 3), fsOp(3, 0, 0)})
	checkFs(t, "nothing is left", got, impl.FsResult{Value: 1, View: pairs(pair(0, 3), pair(10, 1000))})
	var deep []impl.FsOp
	for dir := range int64(10) {
		deep = append(deep, fsOp(2, dir, (dir+1)%6))
	}
	got = impl.RunFs(newView(), deep)
	checkFs(t, "as deep as can be", got, impl.FsResult{Value: 1, View: chainView()})
	slices.Reverse(deep)
	for i := range deep {
		deep[i].Kind = impl.OpRemove
	}
	got = impl.RunFs(got.View, deep)
	checkFs(t, "all are gone", got, impl.FsResult{Value: 1, View: pairs(pair(0, 10), pair(10, 1000))})
}
