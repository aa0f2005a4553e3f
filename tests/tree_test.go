package tests

import (
	"math"
	"slices"
	"testing"

	"loop.example/g00331/impl"
)

func node(inode, depth, name, value int64) impl.TreeNode {
	return impl.TreeNode{Inode: inode, Depth: depth, Name: name, Value: value}
}

func treeTold(nodes ...impl.TreeNode) impl.TreeResult { return impl.TreeResult{Nodes: nodes} }

func noTree(code int64) impl.TreeResult { return impl.TreeResult{Code: code} }

func noFs(code int64) impl.FsResult { return impl.FsResult{Code: code} }

func equalTrees(a, b impl.TreeResult) bool {
	return a.Code == b.Code && slices.Equal(a.Nodes, b.Nodes)
}

func equalFs(a, b impl.FsResult) bool {
	return a.Code == b.Code && a.Reply == b.Reply && a.Value == b.Value && slices.Equal(a.View, b.View)
}

func checkTree(t *testing.T, name string, got, want impl.TreeResult) {
	t.Helper()
	if !equalTrees(got, want) {
		t.Errorf("%s: %+v, want %+v", name, got, want)
	}
}

// checkFs: all of it, and beside a code nothing.
func checkFs(t *testing.T, name string, got, want impl.FsResult) {
	t.Helper()
	if !equalFs(got, want) {
		t.Errorf("%s: %+v, want %+v", name, got, want)
	}
	if got.Code != impl.OK && !equalFs(got, noFs(got.Code)) {
		t.Errorf("%s: %+v tells more than its code", name, got)
	}
}

func valuesOf(view []impl.Pair) map[int64]int64 {
	values := map[int64]int64{}
	for _, p := range view {
		values[p.Key] = p.Value
	}
	return values
}

func isEntry(p impl.Pair) bool { return within(p.Key, 20, 119) }

// wantLinks and the others up to wantTree say the chapter once more, with its own numbers.
func wantLinks(view []impl.Pair, inode int64) impl.IntResult {
	if code := wantPairsFault(view); code != impl.OK {
		return impl.IntResult{Code: code}
	}
	if !within(inode, 0, 9) {
		return impl.IntResult{Code: impl.ErrRange}
	}
	links := int64(0)
	for _, p := range view {
		if isEntry(p) && p.Value == inode {
			links++
		}
	}
	return impl.IntResult{Value: links}
}

func wantFsFault(view []impl.Pair) int64 {
	if code := wantPairsFault(view); code != impl.OK {
		return code
	}
	values := valuesOf(view)
	if next, there := values[0]; values[10] != 1000 || !there || !within(next, 1, 10) {
		return impl.ErrForm
	}
	for inode := int64(0); inode <= 9; inode++ {
		if isBent(values, inode, wantLinks(view, inode).Value) {
			return impl.ErrForm
		}
	}
	if slices.ContainsFunc(view, func(p impl.Pair) bool { return isEntry(p) && p.Value > 9 }) {
		return impl.ErrForm
	}
	return impl.OK
}

func isBent(values map[int64]int64, inode, links int64) bool {
	value, has := values[10+inode]
	_, bytes := values[180+inode]
	isDir, isFile := has && value == 1000, has && links >= 1 && value == 2000+links
	switch {
	case has && inode >= values[0], has && !isDir && !isFile:
		return true
	case isDir && inode != 0 && links != 1, isDir && inode == 0 && links >= 1:
		return true
	case bytes && !isFile:
		return true
	}
	for key, of := range values {
		if !isEntry(pair(key, of)) || of != inode {
			continue
		}
		if a := (key - 20) / 10; values[10+a] != 1000 || !has || isDir && a >= inode {
			return true
		}
	}
	return false
}

func wantApplyFs(view []impl.Pair, o impl.FsOp) impl.FsResult {
	for _, code := range []int64{wantFsFault(view), wantFsOpFault(o)} {
		if code != impl.OK {
			return noFs(code)
		}
	}
	plan := wantPlan(view, o)
	return impl.FsResult{Reply: plan.Reply, Value: plan.Value, View: wantApply(view, plan.Writes).Pairs}
}

func wantRunFs(view []impl.Pair, list []impl.FsOp) (run impl.FsResult) {
	if code := wantFsFault(view); code != impl.OK {
		return noFs(code)
	}
	if len(list) > 40 {
		return noFs(impl.ErrMany)
	}
	for _, o := range list {
		if code := wantFsOpFault(o); code != impl.OK {
			return noFs(code)
		}
	}
	run.View = view
	for _, o := range list {
		plan := wantPlan(run.View, o)
		run.View = wantApply(run.View, plan.Writes).Pairs
		if plan.Reply != impl.OK {
			run.Value++
		}
	}
	return run
}

// wantTree sorts all entries by their paths, so that nobody has to go down; a directory's own path is ahead of those that go on from it.
func wantTree(view []impl.Pair) (tree impl.TreeResult) {
	if code := wantFsFault(view); code != impl.OK {
		return noTree(code)
	}
	values := valuesOf(view)
	type told struct {
		path []int64
		node impl.TreeNode
	}
	var list []told
	for _, p := range view {
		if isEntry(p) {
			path := pathTo(view, p.Key)
			list = append(list, told{path, node(p.Value, int64(len(path)), (p.Key-20)%10, values[10+p.Value])})
		}
	}
	slices.SortFunc(list, func(a, b told) int { return slices.Compare(a.path, b.path) })
	for _, one := range list {
		tree.Nodes = append(tree.Nodes, one.node)
	}
	return tree
}

// pathTo has the names from the root on to an entry; in a whole view each directory but the root has one entry.
func pathTo(view []impl.Pair, entry int64) []int64 {
	dir, name := (entry-20)/10, (entry-20)%10
	if dir == 0 {
		return numbers(name)
	}
	up := slices.IndexFunc(view, func(p impl.Pair) bool { return isEntry(p) && p.Value == dir })
	return append(pathTo(view, view[up].Key), name)
}

// chainView has nine directories, each in the one ahead.
func chainView() []impl.Pair {
	view := pairs(pair(0, 10), pair(10, 1000))
	for inode := int64(1); inode <= 9; inode++ {
		view = viewWith(view, pair(10+inode, 1000), pair(20+10*(inode-1)+inode%6, inode))
	}
	return view
}

// crowdedView has the file 1 under all names of the root and of eight directories that are not theirs: 46 of them.
func crowdedView() []impl.Pair {
	view := pairs(pair(0, 10), pair(10, 1000), pair(11, 2046), pair(181, 5))
	for _, dir := range numbers(0, 2, 3, 4, 5, 6, 7, 8, 9) {
		view = viewWith(view, pair(10+dir, 1000))
		for name := range int64(6) {
			view = viewWith(view, pair(20+10*dir+name, 1))
		}
	}
	return viewWith(view, pair(20, 2), pair(21, 3), pair(22, 4), pair(23, 5), pair(24, 6), pair(40, 7), pair(41, 8), pair(42, 9))
}

// fullView has all inodes: the directory 1 (name 5 of the root), files of the root, and files of the directory; those of even numbers have bytes.
func fullView() []impl.Pair {
	view := pairs(pair(0, 10), pair(10, 1000), pair(11, 1000), pair(25, 1))
	for inode := int64(2); inode <= 9; inode++ {
		at := 20 + inode - 2
		if inode >= 7 {
			at = 30 + inode - 7
		}
		view = viewWith(view, pair(10+inode, 2001), pair(at, inode))
		if inode%2 == 0 {
			view = viewWith(view, pair(180+inode, inode))
		}
	}
	return view
}

// sharedView has the file 1 in the directories 0, 2, 3 and 4 (and twice in 3), which stand in one another; 2 has one entry besides.
func sharedView() []impl.Pair {
	return pairs(pair(0, 5), pair(10, 1000), pair(11, 2005), pair(12, 1000), pair(13, 1000), pair(14, 1000),
		pair(20, 1), pair(25, 2), pair(40, 3), pair(45, 1), pair(50, 1), pair(51, 4), pair(55, 1), pair(62, 1), pair(181, 9999))
}

// wholeViews have no fault.
func wholeViews() []pairsCase {
	list := []pairsCase{
		{"plain", plainView(), impl.OK}, {"nine in one another", chainView(), impl.OK}, {"46 entries", crowdedView(), impl.OK}, {"all inodes", fullView(), impl.OK}, {"one file in many", sharedView(), impl.OK},
		{"the next inode 9", viewWith(plainView(), pair(0, 9)), impl.OK}, {"the next inode 10", viewWith(plainView(), pair(0, 10)), impl.OK}, {"the inode 9, and the next 10", viewWith(plainView(), pair(0, 10), pair(19, 2001), pair(24, 9)), impl.OK},
		{"bytes of the value 0", viewWith(plainView(), pair(183, 0)), impl.OK}, {"a file without bytes", viewWithout(plainView(), 181), impl.OK}, {"an inode that is gone", viewWithout(plainView(), 12, 21), impl.OK},
		{"a directory in an older one", viewWith(viewWithout(plainView(), 23), pair(40, 4)), impl.OK}, {"a file in a newer directory", viewWith(viewWithout(plainView(), 20), pair(60, 1)), impl.OK}, {"a file under two names of one directory", viewWith(viewWithout(plainView(), 65), pair(25, 3)), impl.OK},
		{"one directory with one entry", pairs(pair(0, 3), pair(10, 1000), pair(11, 1000), pair(12, 2001), pair(22, 1), pair(33, 2)), impl.OK}, {"the last name alone", pairs(pair(0, 2), pair(10, 1000), pair(11, 2001), pair(25, 1)), impl.OK},
	}
	for next := int64(1); next <= 10; next++ {
		list = append(list, pairsCase{"empty", pairs(pair(0, next), pair(10, 1000)), impl.OK})
	}
	return list
}

// bentViews are plain or empty ones that are bent in one place.
func bentViews() []pairsCase {
	var list []pairsCase
	bent := func(name string, views ...[]impl.Pair) {
		for _, view := range views {
			list = append(list, pairsCase{name, view, impl.ErrForm})
		}
	}
	with := func(more ...impl.Pair) []impl.Pair { return viewWith(plainView(), more...) }
	instead := func(gone int64, more ...impl.Pair) []impl.Pair {
		return viewWith(viewWithout(plainView(), gone), more...)
	}
	bent("nothing", nil, pairs(), pairs(pair(0, 1)), pairs(pair(10, 1000)))
	bent("the root without a value", viewWithout(newView(), 10), viewWithout(plainView(), 10))
	bent("the root with another value", viewWith(newView(), pair(10, 0)), viewWith(newView(), pair(10, 999)), viewWith(newView(), pair(10, 1001)), viewWith(newView(), pair(10, 2000)), viewWith(newView(), pair(10, 2001)), with(pair(10, 2001)), with(pair(10, 2001), pair(24, 0)))
	bent("no next inode", viewWithout(newView(), 0), viewWithout(plainView(), 0))
	bent("the next inode", viewWith(newView(), pair(0, 0)), viewWith(newView(), pair(0, 11)), viewWith(newView(), pair(0, 9999)), with(pair(0, 0)), with(pair(0, 11)), with(pair(0, 1000)))
	bent("an inode not below the next one", with(pair(0, 4)), with(pair(0, 3)), with(pair(0, 1)), with(pair(0, 9), pair(19, 2001), pair(24, 9)), with(pair(0, 9), pair(19, 1000), pair(24, 9)), with(pair(15, 2001), pair(24, 5)), viewWith(chainView(), pair(0, 9)))
	bent("a file with fewer entries than it says", with(pair(11, 2002)), with(pair(13, 2003)), with(pair(11, 2099)), viewWithout(plainView(), 65), viewWithout(plainView(), 22))
	bent("a file with more", with(pair(13, 2001)), with(pair(24, 1)), with(pair(60, 1)), with(pair(11, 2000)))
	bent("a file with none", viewWithout(plainView(), 20), viewWithout(plainView(), 20, 181), viewWithout(plainView(), 22, 65), with(pair(15, 2001), pair(0, 6)), with(pair(15, 2000), pair(0, 6)), instead(20, pair(11, 2000)), viewWith(viewWithout(plainView(), 20, 181), pair(11, 2000)))
	bent("a value that says nothing", with(pair(11, 0)), with(pair(11, 1)), with(pair(11, 999)), with(pair(11, 1001)), with(pair(11, 1999)), with(pair(11, 9999)), with(pair(12, 1001)), with(pair(12, 0)), viewWith(viewWithout(plainView(), 181), pair(11, 1)), viewWith(viewWithout(plainView(), 181), pair(11, 1001)))
	bent("a directory without an entry", viewWithout(plainView(), 21), viewWithout(plainView(), 23), with(pair(15, 1000), pair(0, 6)))
	bent("a directory with two entries", with(pair(24, 2)), with(pair(25, 4)), with(pair(60, 2)), with(pair(41, 4)), instead(20, pair(20, 2)))
	bent("an entry of the root", with(pair(24, 0)), with(pair(40, 0)), with(pair(65, 0)), viewWith(newView(), pair(20, 0)), viewWith(newView(), pair(25, 0)), viewWith(newView(), pair(20, 0), pair(25, 0)))
	bent("bytes of a directory", with(pair(182, 5)), with(pair(184, 0)), with(pair(180, 5)), viewWith(newView(), pair(180, 0)))
	bent("bytes of an inode without a value", with(pair(185, 0)), with(pair(189, 5)), viewWith(newView(), pair(181, 1)), instead(20, pair(20, 3), pair(13, 2003)), viewWithout(plainView(), 11, 20))
	bent("an entry in a file", instead(65, pair(33, 3)), instead(65, pair(50, 3)), instead(20, pair(30, 1)), with(pair(13, 2003), pair(33, 3)), with(pair(0, 6), pair(15, 1000), pair(30, 5)))
	bent("an entry in an inode without a value", instead(65, pair(115, 3)), instead(65, pair(70, 3)), instead(20, pair(110, 1)), viewWithout(plainView(), 14, 23))
	bent("an entry of an inode without a value", with(pair(24, 5)), with(pair(24, 9)), with(pair(45, 8)), viewWithout(plainView(), 12), viewWithout(plainView(), 13), viewWith(newView(), pair(20, 1)))
	bent("a directory in one that is not below it", instead(21, pair(60, 2)), instead(21, pair(41, 2)), instead(23, pair(64, 4)), viewWith(viewWithout(plainView(), 21, 23), pair(60, 2), pair(40, 4)))
	bent("an entry whose value is no inode", with(pair(24, 10)), with(pair(24, 11)), with(pair(45, 9999)), with(pair(60, 1000)), viewWith(newView(), pair(20, 10)), viewWith(chainView(), pair(115, 10)), viewWith(newView(), pair(25, 9999)))
	bent("several", pairs(pair(0, 11), pair(11, 1)), with(pair(24, 10), pair(180, 1)), with(pair(0, 1), pair(24, 0), pair(10, 5)), eachPair())
	return list
}

// faultViews have a fault of their pairs, and would be bent as well.
func faultViews() []pairsCase {
	list := wrongPairs()
	for _, c := range []pairsCase{{"a key of nothing", pairs(pair(190, 1)), impl.ErrForm}, {"a key above", pairs(pair(200, 1)), impl.ErrRange}, {"the greatest key", pairs(pair(math.MaxInt64, 1)), impl.ErrRange}, {"a key below", pairs(pair(-1, 1)), impl.ErrRange}, {"the least key", pairs(pair(math.MinInt64, 1)), impl.ErrRange},
		{"a value above", pairs(pair(189, 10000)), impl.ErrRange}, {"the greatest value", pairs(pair(189, math.MaxInt64)), impl.ErrRange}, {"a value below", pairs(pair(189, -1)), impl.ErrRange}, {"the least value", pairs(pair(189, math.MinInt64)), impl.ErrRange}, {"a key that falls", pairs(pair(180, 1)), impl.ErrForm}} {
		list = append(list, pairsCase{c.name + " behind a whole one", slices.Concat(plainView(), c.list), c.code}, pairsCase{c.name + " behind a bent one", slices.Concat(viewWith(plainView(), pair(24, 10), pair(0, 0)), c.list), c.code})
	}
	return list
}

func TestFsFault(t *testing.T) {
	for _, c := range slices.Concat(wholeViews(), bentViews(), faultViews()) {
		kept := slices.Clone(c.list)
		if got, want := impl.FsFault(c.list), wantFsFault(c.list); got != c.code || want != c.code {
			t.Errorf("%s: %v is %d, and %d by the tests, want %d", c.name, c.list, got, want, c.code)
		}
		if !slices.Equal(kept, c.list) {
			t.Errorf("%s: %v became %v", c.name, kept, c.list)
		}
	}
}

func TestLinksTo(t *testing.T) {
	count := func(n int64) impl.IntResult { return impl.IntResult{Value: n} }
	wrong := func(code int64) impl.IntResult { return impl.IntResult{Code: code} }
	for _, c := range []struct {
		name  string
		view  []impl.Pair
		inode int64
		want  impl.IntResult
	}{
		{"a file with one", plainView(), 1, count(1)}, {"a directory", plainView(), 2, count(1)}, {"a file with two", plainView(), 3, count(2)}, {"another directory", plainView(), 4, count(1)}, {"the root", plainView(), 0, count(0)}, {"no value", plainView(), 5, count(0)}, {"the last one", plainView(), 9, count(0)},
		{"nothing", nil, 0, count(0)}, {"nothing, the last one", nil, 9, count(0)}, {"a new one", newView(), 0, count(0)}, {"46", crowdedView(), 1, count(46)}, {"the last of a chain", chainView(), 9, count(1)}, {"in four directories", sharedView(), 1, count(5)},
		{"a raw one has the root, too", pairs(pair(20, 0), pair(115, 0)), 0, count(2)}, {"entries of no directory", pairs(pair(35, 9), pair(110, 9), pair(115, 9)), 9, count(3)}, {"each entry", viewOfEntries(7), 7, count(60)}, {"each entry is another's", viewOfEntries(7), 8, count(0)},
		{"inodes, bytes and the next inode count nothing", pairs(pair(0, 1), pair(10, 1), pair(11, 1), pair(19, 1), pair(180, 1), pair(189, 1)), 1, count(0)}, {"entries beyond inodes count nothing", pairs(pair(20, 10), pair(21, 19), pair(22, 9999)), 9, count(0)},
		{"-1", plainView(), -1, wrong(impl.ErrRange)}, {"10", plainView(), 10, wrong(impl.ErrRange)}, {"10, and an entry of it", pairs(pair(20, 10)), 10, wrong(impl.ErrRange)}, {"the least", plainView(), math.MinInt64, wrong(impl.ErrRange)}, {"the greatest", nil, math.MaxInt64, wrong(impl.ErrRange)},
		{"a fault", pairs(pair(20, 1), pair(26, 1)), 1, wrong(impl.ErrForm)}, {"a fault, and -1", pairs(pair(21, 1), pair(20, 1)), -1, wrong(impl.ErrForm)}, {"a fault, and 10", pairs(pair(26, 1)), 10, wrong(impl.ErrForm)}, {"a value", pairs(pair(20, 10000)), 1, wrong(impl.ErrRange)},
	} {
		if got, want := impl.LinksTo(c.view, c.inode), wantLinks(c.view, c.inode); got != c.want || want != c.want {
			t.Errorf("%s: %+v, and %+v by the tests, want %+v", c.name, got, want, c.want)
		}
	}
	for _, c := range slices.Concat(wholeViews(), bentViews(), rightPairs(), faultViews()) {
		for inode := int64(-2); inode <= 11; inode++ {
			if got, want := impl.LinksTo(c.list, inode), wantLinks(c.list, inode); got != want {
				t.Errorf("%s: to %d in %v there are %+v, want %+v", c.name, inode, c.list, got, want)
			}
		}
	}
}

// viewOfEntries has all of them, and nothing else.
func viewOfEntries(inode int64) (view []impl.Pair) {
	for _, k := range keyRow {
		if k.kind == impl.KindEntry {
			view = append(view, pair(k.key, inode))
		}
	}
	return view
}

func TestTreeOf(t *testing.T) {
	var chain []impl.TreeNode
	for inode := int64(1); inode <= 9; inode++ {
		chain = append(chain, node(inode, inode, inode%6, 1000))
	}
	for _, c := range []struct {
		name string
		view []impl.Pair
		want impl.TreeResult
	}{
		{"an empty one", newView(), treeTold()}, {"an empty one without inodes left", pairs(pair(0, 10), pair(10, 1000)), treeTold()}, {"nine in one another", chainView(), treeTold(chain...)},
		{"plain", plainView(), treeTold(node(1, 1, 0, 2001), node(2, 1, 1, 1000), node(3, 1, 2, 2002), node(4, 1, 3, 1000), node(3, 2, 5, 2002))},
		{"one file in many", sharedView(), treeTold(node(1, 1, 0, 2005), node(2, 1, 5, 1000), node(3, 2, 0, 1000), node(1, 3, 0, 2005), node(4, 3, 1, 1000), node(1, 4, 2, 2005), node(1, 3, 5, 2005), node(1, 2, 5, 2005))},
		{"all inodes", fullView(), treeTold(node(2, 1, 0, 2001), node(3, 1, 1, 2001), node(4, 1, 2, 2001), node(5, 1, 3, 2001), node(6, 1, 4, 2001), node(1, 1, 5, 1000), node(7, 2, 0, 2001), node(8, 2, 1, 2001), node(9, 2, 2, 2001))},
		{"one entry", pairs(pair(0, 3), pair(10, 1000), pair(11, 1000), pair(12, 2001), pair(22, 1), pair(33, 2)), treeTold(node(1, 1, 2, 1000), node(2, 2, 3, 2001))},
		{"an empty directory ahead of a file", pairs(pair(0, 3), pair(10, 1000), pair(11, 1000), pair(12, 2001), pair(20, 1), pair(21, 2)), treeTold(node(1, 1, 0, 1000), node(2, 1, 1, 2001))},
		{"by name, not by inode", pairs(pair(0, 4), pair(10, 1000), pair(11, 2001), pair(12, 2001), pair(13, 1000), pair(20, 3), pair(21, 2), pair(50, 1)), treeTold(node(3, 1, 0, 1000), node(1, 2, 0, 2001), node(2, 1, 1, 2001))},
	} {
		checkTree(t, c.name, impl.TreeOf(c.view), c.want)
		checkTree(t, c.name+", by the tests", wantTree(c.view), c.want)
	}
	if nodes := impl.TreeOf(crowdedView()).Nodes; len(nodes) != 54 {
		t.Errorf("of 54 entries %d are told: %v", len(nodes), nodes)
	}
	for _, c := range slices.Concat(wholeViews(), bentViews(), faultViews()) {
		got := impl.TreeOf(c.list)
		checkTree(t, c.name, got, wantTree(c.list))
		if got.Code != c.code || got.Code != impl.OK && len(got.Nodes) != 0 {
			t.Errorf("%s: %+v, want the code %d alone", c.name, got, c.code)
		}
	}
}

func TestApplyFs(t *testing.T) {
	plain, full := plainView(), fullView()
	done := func(value int64, view []impl.Pair) impl.FsResult { return impl.FsResult{Value: value, View: view} }
	with := func(more ...impl.Pair) []impl.Pair { return viewWith(plain, more...) }
	reply := func(code int64) impl.FsResult { return impl.FsResult{Reply: code, View: plain} }
	for _, c := range []struct {
		name string
		view []impl.Pair
		op   impl.FsOp
		want impl.FsResult
	}{
		{"make", plain, fsOp(1, 0, 4), done(5, with(pair(0, 6), pair(15, 2001), pair(24, 5)))}, {"make in a directory", plain, fsOp(1, 4, 0), done(5, with(pair(0, 6), pair(15, 2001), pair(60, 5)))}, {"make, taken", plain, fsOp(1, 0, 0), reply(impl.ErrTaken)}, {"make in a file", plain, fsOp(1, 1, 0), reply(impl.ErrDir)},
		{"make, no inodes left", full, fsOp(1, 1, 5), impl.FsResult{Reply: impl.ErrMany, View: full}}, {"make the first", newView(), fsOp(1, 0, 5), done(1, pairs(pair(0, 2), pair(10, 1000), pair(11, 2001), pair(25, 1)))}, {"make the last", pairs(pair(0, 9), pair(10, 1000)), fsOp(1, 0, 5), done(9, pairs(pair(0, 10), pair(10, 1000), pair(19, 2001), pair(25, 9)))},
		{"dir", plain, fsOp(2, 2, 3), done(5, with(pair(0, 6), pair(15, 1000), pair(43, 5)))}, {"dir, taken", plain, fsOp(2, 0, 3), reply(impl.ErrTaken)}, {"dir in nothing", plain, fsOp(2, 9, 0), reply(impl.ErrDir)}, {"dir, no inodes left", chainView(), fsOp(2, 9, 5), impl.FsResult{Reply: impl.ErrMany, View: chainView()}},
		{"remove a file", plain, fsOp(3, 0, 0), done(0, viewWithout(plain, 20, 11, 181))}, {"remove one of two entries", plain, fsOp(3, 4, 5), done(0, viewWith(viewWithout(plain, 65), pair(13, 2001)))}, {"remove an empty directory", plain, fsOp(3, 0, 1), done(0, viewWithout(plain, 21, 12))},
		{"remove one that is not empty", plain, fsOp(3, 0, 3), reply(impl.ErrForm)}, {"remove none", plain, fsOp(3, 0, 5), reply(impl.ErrNone)}, {"remove in a file", plain, fsOp(3, 3, 0), reply(impl.ErrDir)},
		{"move a file", plain, fsOp(4, 0, 0, 2, 5), done(0, viewWith(viewWithout(plain, 20), pair(45, 1)))}, {"move a directory", plain, fsOp(4, 0, 3, 0, 5), done(0, viewWith(viewWithout(plain, 23), pair(25, 4)))}, {"move a directory elsewhere", plain, fsOp(4, 0, 1, 4, 0), reply(impl.ErrState)},
		{"move to itself", plain, fsOp(4, 0, 0, 0, 0), reply(impl.ErrTaken)}, {"move into a file", plain, fsOp(4, 0, 0, 3, 0), reply(impl.ErrDir)}, {"move none", plain, fsOp(4, 2, 0, 0, 5), reply(impl.ErrNone)},
		{"link", plain, fsOp(5, 0, 0, 4, 0), done(0, with(pair(11, 2002), pair(60, 1)))}, {"link here", plain, fsOp(5, 0, 2, 0, 5), done(0, with(pair(13, 2003), pair(25, 3)))}, {"link a directory", plain, fsOp(5, 0, 1, 0, 5), reply(impl.ErrDir)}, {"link, taken", plain, fsOp(5, 0, 0, 4, 5), reply(impl.ErrTaken)}, {"link none", plain, fsOp(5, 0, 4, 0, 5), reply(impl.ErrNone)},
		{"write", plain, fsOp(6, 0, 0, 88), done(0, with(pair(181, 88)))}, {"write by another name", plain, fsOp(6, 4, 5, 9999), done(0, with(pair(183, 9999)))}, {"write a directory", plain, fsOp(6, 0, 1, 1), reply(impl.ErrDir)}, {"write none", plain, fsOp(6, 0, 5, 1), reply(impl.ErrNone)},
		{"read", plain, fsOp(7, 0, 0), done(77, plain)}, {"read without bytes", plain, fsOp(7, 0, 2), done(0, plain)}, {"read a directory", plain, fsOp(7, 0, 1), reply(impl.ErrDir)}, {"read none", plain, fsOp(7, 4, 0), reply(impl.ErrNone)},
		{"look", plain, fsOp(8, 4, 5), done(2002, plain)}, {"look at a directory", plain, fsOp(8, 0, 3), done(1000, plain)}, {"look in a file", plain, fsOp(8, 1, 5), reply(impl.ErrDir)}, {"look at none", plain, fsOp(8, 0, 4), reply(impl.ErrNone)},
		{"Kind 0", plain, fsOp(0, 0, 0), noFs(impl.ErrForm)}, {"Kind 9", plain, fsOp(9, 0, 0), noFs(impl.ErrForm)}, {"a Value", plain, fsOp(1, 0, 4, 1), noFs(impl.ErrForm)}, {"Dir 10", plain, fsOp(1, 10, 4), noFs(impl.ErrRange)}, {"Name 6", plain, fsOp(8, 0, 6), noFs(impl.ErrRange)}, {"Value 10000", plain, fsOp(6, 0, 0, 10000), noFs(impl.ErrRange)},
		{"the least Dir", plain, fsOp(1, math.MinInt64, 0), noFs(impl.ErrRange)}, {"the greatest ToName", plain, fsOp(5, 0, 0, 0, math.MaxInt64), noFs(impl.ErrRange)}, {"the least Kind", plain, fsOp(math.MinInt64, 0, 0), noFs(impl.ErrForm)},
	} {
		checkFs(t, c.name, impl.ApplyFs(c.view, c.op), c.want)
		checkFs(t, c.name+", by the tests", wantApplyFs(c.view, c.op), c.want)
	}
}

// The view's fault is told ahead of the operation's, and both ahead of any Reply.
func TestApplyAsksTheFaultFirst(t *testing.T) {
	ops := []impl.FsOp{fsOp(1, 0, 4), fsOp(8, 9, 5), fsOp(0, 0, 0), fsOp(1, 10, 0), fsOp(6, 0, 0, math.MaxInt64), {Kind: math.MinInt64}}
	for _, c := range slices.Concat(bentViews(), faultViews()) {
		for _, o := range ops {
			checkFs(t, c.name, impl.ApplyFs(c.list, o), noFs(c.code))
			for _, list := range [][]impl.FsOp{nil, {o}, {ops[0], o}, slices.Repeat([]impl.FsOp{o}, 40), slices.Repeat([]impl.FsOp{o}, 41)} {
				checkFs(t, c.name+", in a run", impl.RunFs(c.list, list), noFs(c.code))
			}
		}
	}
	for _, c := range wholeViews() {
		for _, o := range ops {
			checkFs(t, c.name, impl.ApplyFs(c.list, o), wantApplyFs(c.list, o))
		}
	}
	checkFs(t, "a range, and a form", impl.ApplyFs(slices.Concat(plainView(), pairs(pair(189, -1))), fsOp(0, 0, 0)), noFs(impl.ErrRange))
	checkFs(t, "a form, and a range", impl.ApplyFs(viewWith(plainView(), pair(24, 10)), fsOp(1, 10, 0)), noFs(impl.ErrForm))
	checkFs(t, "a form, and many", impl.RunFs(viewWith(plainView(), pair(24, 10)), make([]impl.FsOp, 41)), noFs(impl.ErrForm))
}

func TestRunFs(t *testing.T) {
	many := func(n int, o impl.FsOp) []impl.FsOp { return slices.Repeat([]impl.FsOp{o}, n) }
	look, form, outside := fsOp(8, 0, 0), fsOp(0, 0, 0), fsOp(1, 10, 0)
	plain := plainView()
	with := func(more ...impl.Pair) []impl.Pair { return viewWith(plain, more...) }
	for _, c := range []struct {
		name string
		view []impl.Pair
		list []impl.FsOp
		want impl.FsResult
	}{
		{"none", plain, nil, impl.FsResult{View: plain}}, {"an empty list", newView(), []impl.FsOp{}, impl.FsResult{View: newView()}}, {"one", plain, many(1, fsOp(1, 0, 4)), impl.FsResult{View: with(pair(0, 6), pair(15, 2001), pair(24, 5))}}, {"its Value is not told", plain, many(3, fsOp(7, 0, 0)), impl.FsResult{View: plain}},
		{"one with a Reply", plain, many(1, fsOp(1, 0, 0)), impl.FsResult{Value: 1, View: plain}}, {"the second finds what the first one did", plain, many(2, fsOp(1, 0, 4)), impl.FsResult{Value: 1, View: with(pair(0, 6), pair(15, 2001), pair(24, 5))}},
		{"40", plain, many(40, look), impl.FsResult{View: plain}}, {"40, each with a Reply", plain, many(40, fsOp(3, 0, 3)), impl.FsResult{Value: 40, View: plain}}, {"40 to make the same", newView(), many(40, fsOp(2, 0, 0)), impl.FsResult{Value: 39, View: pairs(pair(0, 2), pair(10, 1000), pair(11, 1000), pair(20, 1))}},
		{"a Reply ahead, and one behind", plain, []impl.FsOp{fsOp(3, 0, 5), fsOp(6, 0, 0, 8), fsOp(7, 0, 1)}, impl.FsResult{Value: 2, View: with(pair(181, 8))}},
		{"41", plain, many(41, look), noFs(impl.ErrMany)}, {"41 in a new one", newView(), many(41, look), noFs(impl.ErrMany)}, {"far too many", plain, many(5000, look), noFs(impl.ErrMany)}, {"41 with a fault", plain, many(41, form), noFs(impl.ErrMany)}, {"41 outside", plain, many(41, outside), noFs(impl.ErrMany)},
		{"a fault in the first one", plain, append([]impl.FsOp{form}, many(39, look)...), noFs(impl.ErrForm)}, {"in the last one", plain, append(many(39, look), form), noFs(impl.ErrForm)}, {"outside in the first one", plain, append([]impl.FsOp{outside}, many(39, look)...), noFs(impl.ErrRange)}, {"outside in the last one", plain, append(many(39, fsOp(1, 0, 4)), outside), noFs(impl.ErrRange)},
		{"in the last one, and Replies ahead", plain, append(many(39, fsOp(3, 0, 3)), form), noFs(impl.ErrForm)}, {"outside, then a form", plain, []impl.FsOp{outside, form}, noFs(impl.ErrRange)}, {"a form, then outside", plain, []impl.FsOp{form, outside}, noFs(impl.ErrForm)}, {"a form between", plain, []impl.FsOp{look, form, outside, look}, noFs(impl.ErrForm)},
	} {
		checkFs(t, c.name, impl.RunFs(c.view, c.list), c.want)
		checkFs(t, c.name+", by the tests", wantRunFs(c.view, c.list), c.want)
	}
}

// P1: int64's least and greatest number in each field of an operation, also of one of many.
func TestRunsAtOddNumbers(t *testing.T) {
	for _, n := range append(numbers(999, 1000, 2000, 9998, 9999, 10000), oddNumbers()...) {
		for kind := int64(0); kind <= 9; kind++ {
			for _, o := range []impl.FsOp{{Kind: n}, {Kind: kind, Dir: n}, {Kind: kind, Name: n}, {Kind: kind, ToDir: n}, {Kind: kind, ToName: n}, {Kind: kind, Value: n}, {Kind: kind, Dir: n, Name: n, ToDir: n, ToName: n, Value: n}} {
				checkFs(t, "odd", impl.ApplyFs(plainView(), o), wantApplyFs(plainView(), o))
				list := []impl.FsOp{fsOp(1, 0, 4), o, fsOp(3, 0, 4)}
				checkFs(t, "odd, in a run", impl.RunFs(plainView(), list), wantRunFs(plainView(), list))
			}
		}
		for _, view := range [][]impl.Pair{nil, plainView(), viewOfEntries(9), pairs(pair(26, 0))} {
			if got, want := impl.LinksTo(view, n), wantLinks(view, n); got != want {
				t.Errorf("to %d in %v there are %+v, want %+v", n, view, got, want)
			}
		}
	}
}

// checkView asks all that take a view.
func checkView(t *testing.T, name string, view []impl.Pair) int64 {
	t.Helper()
	kept := slices.Clone(view)
	fault := impl.FsFault(view)
	if want := wantFsFault(kept); fault != want {
		t.Fatalf("%s: %v is %d, want %d", name, kept, fault, want)
	}
	if got, want := impl.TreeOf(view), wantTree(kept); !equalTrees(got, want) {
		t.Fatalf("%s: the tree of %v is %+v, want %+v", name, kept, got, want)
	}
	for _, o := range []impl.FsOp{fsOp(1, 0, 4), fsOp(3, 0, 0), fsOp(9, 0, 0)} {
		if got, want := impl.ApplyFs(view, o), wantApplyFs(kept, o); !equalFs(got, want) {
			t.Fatalf("%s: %+v at %v comes to %+v, want %+v", name, o, kept, got, want)
		}
	}
	if got, want := impl.RunFs(view, nil), wantRunFs(kept, nil); !equalFs(got, want) {
		t.Fatalf("%s: no operations at %v come to %+v, want %+v", name, kept, got, want)
	}
	if !slices.Equal(kept, view) {
		t.Fatalf("%s: %v became %v", name, kept, view)
	}
	return fault
}

// P1, and FsFault at each view that is bent in one place: each key without a value, and with each of many.
func TestViewsBentInOnePlace(t *testing.T) {
	values := append(numbers(999, 1000, 1001, 1999, 2000, 2001, 2002, 2003, 2005, 2006, 2046, 2047, 2099, 9999, 10000, -1, math.MinInt64, math.MaxInt64), numbers(0, 1, 2, 3, 4, 5, 8, 9, 10, 11)...)
	found := map[int64]int{}
	for _, whole := range [][]impl.Pair{newView(), plainView(), chainView(), crowdedView(), fullView(), sharedView()} {
		for _, k := range keyRow {
			found[checkView(t, "without one", viewWithout(whole, k.key))]++
			for _, value := range values {
				found[checkView(t, "with another value", viewWith(whole, pair(k.key, value)))]++
			}
		}
	}
	if found[impl.OK] < 700 || found[impl.ErrForm] < 8000 || found[impl.ErrRange] < 1500 || len(found) != 3 {
		t.Errorf("faults were found so often: %v", found)
	}
}

// P1: each key of a view, one at a time, may be anything.
func TestViewsOfOddKeys(t *testing.T) {
	for i := range plainView() {
		for _, n := range oddNumbers() {
			view := plainView()
			view[i].Key = n
			checkView(t, "an odd key", view)
		}
	}
}
