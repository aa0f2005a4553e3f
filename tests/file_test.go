package tests

import (
	"fmt"
	"maps"
	"math"
	"slices"
	"testing"

	"loop.example/g00331/impl"
)

func TestFileConstants(t *testing.T) {
	kinds := []int64{impl.OpMake, impl.OpDir, impl.OpRemove, impl.OpMove, impl.OpLink, impl.OpWrite, impl.OpRead, impl.OpLook}
	if !slices.Equal(kinds, []int64{1, 2, 3, 4, 5, 6, 7, 8}) || impl.IsDir != 1000 || impl.IsFile != 2000 {
		t.Error("kinds or values")
	}
}

// fsOp: more is ToDir and ToName of a move and a link, and Value of a write.
func fsOp(kind, dir, name int64, more ...int64) impl.FsOp {
	o := impl.FsOp{Kind: kind, Dir: dir, Name: name}
	switch len(more) {
	case 1:
		o.Value = more[0]
	case 2:
		o.ToDir, o.ToName = more[0], more[1]
	}
	return o
}

func numbers(list ...int64) []int64 { return list }

func noPlan(code int64) impl.Plan { return impl.Plan{Code: code} }

func nothing(reply int64, reads ...int64) impl.Plan { return impl.Plan{Reply: reply, Reads: reads} }

func planned(value int64, reads []int64, writes ...impl.Item) impl.Plan {
	return impl.Plan{Value: value, Reads: reads, Writes: writes}
}

func equalPlans(a, b impl.Plan) bool {
	return a.Code == b.Code && a.Reply == b.Reply && a.Value == b.Value && slices.Equal(a.Reads, b.Reads) && slices.Equal(a.Writes, b.Writes)
}

// checkPlan: all of it, and that a transaction may be made of it, so that no key is read or written twice.
func checkPlan(t *testing.T, name string, got, want impl.Plan) {
	t.Helper()
	if !equalPlans(got, want) {
		t.Errorf("%s: %+v, want %+v", name, got, want)
	}
	if got.Code != impl.OK && !equalPlans(got, noPlan(got.Code)) || got.Reply != impl.OK && (got.Value != 0 || len(got.Writes) != 0) {
		t.Errorf("%s: %+v tells more than its code, or its reply and reads", name, got)
	}
	if once := slices.Compact(slices.Sorted(slices.Values(got.Reads))); len(once) != len(got.Reads) {
		t.Errorf("%s: %v has one twice", name, got.Reads)
	}
	if len(got.Writes) > 0 && impl.NewTxn(1, 20, got.Reads, got.Writes).Code != impl.OK {
		t.Errorf("%s: no transaction can be made of %+v", name, got)
	}
}

// checkCompile asks the program and the chapter's words; the view stays as it was.
func checkCompile(t *testing.T, name string, view []impl.Pair, o impl.FsOp) impl.Plan {
	t.Helper()
	kept := slices.Clone(view)
	got := impl.CompileFs(view, o)
	checkPlan(t, fmt.Sprintf("%s: %+v at %v", name, o, kept), got, wantPlan(kept, o))
	if !slices.Equal(kept, view) {
		t.Errorf("%s: %v became %v", name, kept, view)
	}
	return got
}

// wantFsOpFault and the others up to wantEntries say the chapter once more, with its own numbers.
func wantFsOpFault(o impl.FsOp) int64 {
	twoPlaces := o.Kind == 4 || o.Kind == 5
	switch {
	case !within(o.Kind, 1, 8), !twoPlaces && o.ToDir != 0, !twoPlaces && o.ToName != 0, o.Kind != 6 && o.Value != 0:
		return impl.ErrForm
	case !within(o.Dir, 0, 9), !within(o.ToDir, 0, 9), !within(o.Name, 0, 5), !within(o.ToName, 0, 5), !within(o.Value, 0, 9999):
		return impl.ErrRange
	}
	return impl.OK
}

func wantEmptyFs(next int64) impl.Plan {
	if !within(next, 1, 10) {
		return noPlan(impl.ErrRange)
	}
	return planned(0, nil, putItem(0, next), putItem(10, 1000))
}

func wantPlan(view []impl.Pair, o impl.FsOp) (plan impl.Plan) {
	for _, code := range []int64{wantPairsFault(view), wantFsOpFault(o)} {
		if code != impl.OK {
			return noPlan(code)
		}
	}
	values := map[int64]int64{}
	for _, p := range view {
		values[p.Key] = p.Value
	}
	look := func(key int64) (int64, bool) {
		if !slices.Contains(plan.Reads, key) {
			plan.Reads = append(plan.Reads, key)
		}
		value, there := values[key]
		return value, there
	}
	plan.Reply, plan.Value, plan.Writes = wantFound(look, o)
	return plan
}

// A lookup tells a key's value, and whether there is one.
type lookup func(key int64) (int64, bool)

func wantFound(look lookup, o impl.FsOp) (reply, value int64, writes []impl.Item) {
	if dir, _ := look(10 + o.Dir); dir != 1000 {
		return impl.ErrDir, 0, nil
	}
	name := 20 + 10*o.Dir + o.Name
	inode, there := look(name)
	switch {
	case o.Kind <= 2 && there:
		return impl.ErrTaken, 0, nil
	case o.Kind <= 2:
		return wantMade(look, o.Kind, name)
	case !there:
		return impl.ErrNone, 0, nil
	case inode > 9:
		inode = 9
	}
	is, _ := look(10 + inode)
	switch o.Kind {
	case 3:
		return wantRemoved(look, name, inode, is)
	case 4, 5:
		return wantTwoPlaces(look, o, inode, is)
	case 8:
		return impl.OK, is, nil
	}
	if is == 1000 {
		return impl.ErrDir, 0, nil
	}
	if o.Kind == 6 {
		return impl.OK, 0, items(putItem(180+inode, o.Value))
	}
	value, _ = look(180 + inode)
	return impl.OK, value, nil
}

func wantMade(look lookup, kind, name int64) (reply, value int64, writes []impl.Item) {
	n, _ := look(0)
	if n == 0 || n > 9 {
		return impl.ErrMany, 0, nil
	}
	is := map[int64]int64{1: 2001, 2: 1000}[kind]
	return impl.OK, n, items(putItem(0, n+1), putItem(10+n, is), putItem(name, n))
}

func wantRemoved(look lookup, name, inode, is int64) (reply, value int64, writes []impl.Item) {
	if is > 2001 {
		return impl.OK, 0, items(deleteItem(name), putItem(10+inode, is-1))
	}
	if is != 1000 {
		return impl.OK, 0, items(deleteItem(name), deleteItem(10+inode), deleteItem(180+inode))
	}
	for below := int64(0); below <= 5; below++ {
		if _, there := look(20 + 10*inode + below); there {
			return impl.ErrForm, 0, nil
		}
	}
	return impl.OK, 0, items(deleteItem(name), deleteItem(10+inode))
}

func wantTwoPlaces(look lookup, o impl.FsOp, inode, is int64) (reply, value int64, writes []impl.Item) {
	switch {
	case o.Kind == 4 && is == 1000 && o.ToDir != o.Dir:
		return impl.ErrState, 0, nil
	case o.Kind == 5 && is == 1000:
		return impl.ErrDir, 0, nil
	}
	if to, _ := look(10 + o.ToDir); to != 1000 {
		return impl.ErrDir, 0, nil
	}
	name := 20 + 10*o.ToDir + o.ToName
	if _, there := look(name); there {
		return impl.ErrTaken, 0, nil
	}
	switch {
	case o.Kind == 4:
		return impl.OK, 0, items(deleteItem(20+10*o.Dir+o.Name), putItem(name, inode))
	case is >= 2099:
		return impl.ErrMany, 0, nil
	}
	return impl.OK, 0, items(putItem(10+inode, is+1), putItem(name, inode))
}

func wantIsFsDir(view []impl.Pair, inode int64) bool {
	return wantPairsFault(view) == impl.OK && within(inode, 0, 9) && slices.Contains(view, pair(10+inode, 1000))
}

func wantChild(view []impl.Pair, dir, name int64) impl.GetResult {
	if code := wantPairsFault(view); code != impl.OK {
		return impl.GetResult{Code: code}
	}
	if !within(dir, 0, 9) || !within(name, 0, 5) {
		return impl.GetResult{Code: impl.ErrRange}
	}
	return wantValueIn(view, 20+10*dir+name)
}

func wantEntries(view []impl.Pair, dir int64) (r impl.IntsResult) {
	if code := wantPairsFault(view); code != impl.OK {
		return impl.IntsResult{Code: code}
	}
	if !within(dir, 0, 9) {
		return impl.IntsResult{Code: impl.ErrRange}
	}
	for _, p := range view {
		if name := p.Key - 20 - 10*dir; within(name, 0, 5) {
			r.List = append(r.List, name)
		}
	}
	return r
}

// viewWith and viewWithout change a copy.
func viewWith(view []impl.Pair, more ...impl.Pair) (next []impl.Pair) {
	values := map[int64]int64{}
	for _, p := range slices.Concat(view, more) {
		values[p.Key] = p.Value
	}
	for _, key := range slices.Sorted(maps.Keys(values)) {
		next = append(next, pair(key, values[key]))
	}
	return next
}

func viewWithout(view []impl.Pair, keys ...int64) []impl.Pair {
	return slices.DeleteFunc(slices.Clone(view), func(p impl.Pair) bool { return slices.Contains(keys, p.Key) })
}

// newView is what EmptyFs of 1 makes.
func newView() []impl.Pair { return pairs(pair(0, 1), pair(10, 1000)) }

// plainView has in the root the file 1 (name 0, with bytes), the directory 2 (name 1, empty), the file 3 (name 2) and the directory 4 (name 3), in which the file 3 is once more (name 5).
func plainView() []impl.Pair {
	return pairs(pair(0, 5), pair(10, 1000), pair(11, 2001), pair(12, 1000), pair(13, 2002), pair(14, 1000),
		pair(20, 1), pair(21, 2), pair(22, 3), pair(23, 4), pair(65, 3), pair(181, 77))
}

type planCase struct {
	name string
	view []impl.Pair
	op   impl.FsOp
	want impl.Plan
}

func checkPlans(t *testing.T, cases []planCase) {
	t.Helper()
	for _, c := range cases {
		if code := wantPairsFault(c.view); code != impl.OK {
			t.Errorf("%s: the view has the fault %d", c.name, code)
		}
		got := checkCompile(t, c.name, c.view, c.op)
		checkPlan(t, c.name, got, c.want)
	}
}

func TestFsOpFault(t *testing.T) {
	for _, c := range []struct {
		name string
		op   impl.FsOp
		code int64
	}{
		{"the zero value", impl.FsOp{}, impl.ErrForm}, {"Kind 9", fsOp(9, 0, 0), impl.ErrForm}, {"Kind -1", fsOp(-1, 0, 0), impl.ErrForm}, {"the least Kind", fsOp(math.MinInt64, 0, 0), impl.ErrForm}, {"the greatest Kind", fsOp(math.MaxInt64, 0, 0), impl.ErrForm},
		{"make", fsOp(1, 0, 0), impl.OK}, {"dir", fsOp(2, 0, 0), impl.OK}, {"remove", fsOp(3, 0, 0), impl.OK}, {"move", fsOp(4, 0, 0, 0, 0), impl.OK}, {"link", fsOp(5, 0, 0, 0, 0), impl.OK}, {"write", fsOp(6, 0, 0, 0), impl.OK}, {"read", fsOp(7, 0, 0), impl.OK}, {"look", fsOp(8, 0, 0), impl.OK},
		{"make, the last of all", fsOp(1, 9, 5), impl.OK}, {"move, the last of all", fsOp(4, 9, 5, 9, 5), impl.OK}, {"link, the last of all", fsOp(5, 9, 5, 9, 5), impl.OK}, {"write, the greatest value", fsOp(6, 9, 5, 9999), impl.OK},
		{"Dir -1", fsOp(1, -1, 0), impl.ErrRange}, {"Dir 10", fsOp(1, 10, 0), impl.ErrRange}, {"Name -1", fsOp(1, 0, -1), impl.ErrRange}, {"Name 6", fsOp(1, 0, 6), impl.ErrRange},
		{"ToDir -1", fsOp(4, 0, 0, -1, 0), impl.ErrRange}, {"ToDir 10", fsOp(5, 0, 0, 10, 0), impl.ErrRange}, {"ToName -1", fsOp(5, 0, 0, 0, -1), impl.ErrRange}, {"ToName 6", fsOp(4, 0, 0, 0, 6), impl.ErrRange},
		{"Value -1", fsOp(6, 0, 0, -1), impl.ErrRange}, {"Value above", fsOp(6, 0, 0, 10000), impl.ErrRange}, {"the least Value", fsOp(6, 0, 0, math.MinInt64), impl.ErrRange}, {"the greatest Value", fsOp(6, 0, 0, math.MaxInt64), impl.ErrRange},
		{"make to a ToDir", fsOp(1, 0, 0, 1, 0), impl.ErrForm}, {"make to a ToName", fsOp(1, 0, 0, 0, 1), impl.ErrForm}, {"make with a Value", fsOp(1, 0, 0, 1), impl.ErrForm}, {"look to a ToDir", fsOp(8, 0, 0, 1, 0), impl.ErrForm}, {"write to a ToName", fsOp(6, 0, 0, 0, 1), impl.ErrForm},
		{"move with a Value", impl.FsOp{Kind: 4, Value: 1}, impl.ErrForm}, {"link with a Value", impl.FsOp{Kind: 5, ToDir: 1, ToName: 1, Value: 1}, impl.ErrForm}, {"read with a Value", fsOp(7, 0, 0, 5), impl.ErrForm},
		{"Kind and Dir", fsOp(0, 10, 0), impl.ErrForm}, {"Kind and Name", fsOp(9, 0, 6), impl.ErrForm}, {"a Value, and Dir", fsOp(1, 10, 0, 1), impl.ErrForm}, {"a ToDir, and Dir", fsOp(3, -1, 0, 1, 0), impl.ErrForm}, {"a ToName, and Name", fsOp(7, 0, 6, 0, 1), impl.ErrForm},
		{"make with a Value below", fsOp(1, 0, 0, -1), impl.ErrForm}, {"make with one above", fsOp(2, 0, 0, 10000), impl.ErrForm}, {"make to a ToDir below", fsOp(1, 0, 0, -1, 0), impl.ErrForm}, {"make to a ToName above", fsOp(1, 0, 0, 0, 6), impl.ErrForm},
		{"move with a Value, and ToDir", impl.FsOp{Kind: 4, ToDir: 10, Value: 1}, impl.ErrForm}, {"move, ToDir and ToName", fsOp(4, 0, 0, 10, 6), impl.ErrRange}, {"write, ToDir and Value", impl.FsOp{Kind: 6, ToDir: 1, Value: -1}, impl.ErrForm},
	} {
		if got, want := impl.FsOpFault(c.op), wantFsOpFault(c.op); got != c.code || want != c.code {
			t.Errorf("%s: %+v is %d, and %d by the tests, want %d", c.name, c.op, got, want, c.code)
		}
	}
}

// P1: each kind, and each field at, and one beyond, each of its bounds, and far beyond them, beside all others.
func TestFsOpFaultEverywhere(t *testing.T) {
	inodes, names := numbers(math.MinInt64, -1, 0, 1, 9, 10, math.MaxInt64), numbers(math.MinInt64, -1, 0, 1, 5, 6, math.MaxInt64)
	values := numbers(math.MinInt64, -1, 0, 1, 9999, 10000, math.MaxInt64)
	for _, kind := range numbers(math.MinInt64, -1, 0, 1, 2, 3, 4, 5, 6, 7, 8, 9, 10, math.MaxInt64) {
		for i := range 7 * 7 * 7 * 7 * 7 {
			o := impl.FsOp{Kind: kind, Dir: inodes[i%7], Name: names[i/7%7], ToDir: inodes[i/49%7], ToName: names[i/343%7], Value: values[i/2401]}
			got := impl.FsOpFault(o)
			if want := wantFsOpFault(o); got != want {
				t.Fatalf("%+v is %d, want %d", o, got, want)
			}
			if plan := impl.CompileFs(nil, o); plan.Code != got {
				t.Fatalf("%+v comes to %+v, and its fault is %d", o, plan, got)
			}
		}
	}
}

func TestEmptyFs(t *testing.T) {
	for _, c := range []struct {
		next int64
		code int64
	}{
		{math.MinInt64, impl.ErrRange}, {-1, impl.ErrRange}, {0, impl.ErrRange}, {1, impl.OK}, {2, impl.OK}, {9, impl.OK}, {10, impl.OK}, {11, impl.ErrRange}, {1000, impl.ErrRange}, {math.MaxInt64, impl.ErrRange},
	} {
		got := impl.EmptyFs(c.next)
		if got.Code != c.code {
			t.Errorf("%d: %+v, want the code %d", c.next, got, c.code)
		}
		checkPlan(t, "empty", got, wantEmptyFs(c.next))
	}
	checkPlan(t, "of 1", impl.EmptyFs(1), planned(0, nil, putItem(0, 1), putItem(10, 1000)))
	checkPlan(t, "of 10", impl.EmptyFs(10), planned(0, nil, putItem(0, 10), putItem(10, 1000)))
	for _, next := range oddNumbers() {
		checkPlan(t, "at an odd number", impl.EmptyFs(next), wantEmptyFs(next))
	}
	made := impl.ApplyItems(nil, impl.EmptyFs(1).Writes).Pairs
	if !slices.Equal(made, newView()) || !impl.IsFsDir(made, 0) || len(impl.EntriesOf(made, 0).List) != 0 {
		t.Errorf("%v is no empty one", made)
	}
}

func TestMake(t *testing.T) {
	next := func(n int64) []impl.Pair { return pairs(pair(0, n), pair(10, 1000)) }
	noNext, bare := pairs(pair(10, 1000)), pairs(pair(0, 1))
	checkPlans(t, []planCase{
		{"a file in a new one", newView(), fsOp(1, 0, 2), planned(1, numbers(10, 22, 0), putItem(0, 2), putItem(11, 2001), putItem(22, 1))},
		{"a directory in a new one", newView(), fsOp(2, 0, 2), planned(1, numbers(10, 22, 0), putItem(0, 2), putItem(11, 1000), putItem(22, 1))},
		{"a file of the last name", plainView(), fsOp(1, 4, 4), planned(5, numbers(14, 64, 0), putItem(0, 6), putItem(15, 2001), putItem(64, 5))},
		{"a directory of the first name", plainView(), fsOp(2, 2, 0), planned(5, numbers(12, 40, 0), putItem(0, 6), putItem(15, 1000), putItem(40, 5))},
		{"a file in nothing", nil, fsOp(1, 0, 2), nothing(impl.ErrDir, 10)}, {"a directory in nothing", nil, fsOp(2, 0, 2), nothing(impl.ErrDir, 10)}, {"a file without a root", bare, fsOp(1, 0, 2), nothing(impl.ErrDir, 10)},
		{"a file in a file", plainView(), fsOp(1, 1, 0), nothing(impl.ErrDir, 11)}, {"a directory in a file", plainView(), fsOp(2, 3, 0), nothing(impl.ErrDir, 13)}, {"a file in an inode without a value", plainView(), fsOp(1, 9, 5), nothing(impl.ErrDir, 19)},
		{"a file that is there", plainView(), fsOp(1, 0, 0), nothing(impl.ErrTaken, 10, 20)}, {"a file, where a directory is", plainView(), fsOp(1, 0, 1), nothing(impl.ErrTaken, 10, 21)},
		{"a directory that is there", plainView(), fsOp(2, 0, 3), nothing(impl.ErrTaken, 10, 23)}, {"a directory, where a file is", plainView(), fsOp(2, 4, 5), nothing(impl.ErrTaken, 14, 65)},
		{"an entry of the value 0 is there, too", viewWith(newView(), pair(22, 0)), fsOp(1, 0, 2), nothing(impl.ErrTaken, 10, 22)},
		{"no next inode", noNext, fsOp(1, 0, 2), nothing(impl.ErrMany, 10, 22, 0)}, {"no next inode, a directory", noNext, fsOp(2, 0, 2), nothing(impl.ErrMany, 10, 22, 0)},
		{"the next inode is 0", next(0), fsOp(1, 0, 2), nothing(impl.ErrMany, 10, 22, 0)}, {"it is 0, a directory", next(0), fsOp(2, 0, 2), nothing(impl.ErrMany, 10, 22, 0)},
		{"it is 9", next(9), fsOp(1, 0, 2), planned(9, numbers(10, 22, 0), putItem(0, 10), putItem(19, 2001), putItem(22, 9))},
		{"it is 9, a directory", next(9), fsOp(2, 0, 2), planned(9, numbers(10, 22, 0), putItem(0, 10), putItem(19, 1000), putItem(22, 9))},
		{"it is 10", next(10), fsOp(1, 0, 2), nothing(impl.ErrMany, 10, 22, 0)}, {"it is 10, a directory", next(10), fsOp(2, 0, 2), nothing(impl.ErrMany, 10, 22, 0)},
		{"it is 11", next(11), fsOp(1, 0, 2), nothing(impl.ErrMany, 10, 22, 0)}, {"it is as great as it may be", next(9999), fsOp(1, 0, 2), nothing(impl.ErrMany, 10, 22, 0)},
		{"the inode of it has a value already", viewWith(newView(), pair(11, 2050)), fsOp(1, 0, 2), planned(1, numbers(10, 22, 0), putItem(0, 2), putItem(11, 2001), putItem(22, 1))},
		{"it has entries and bytes already", viewWith(newView(), pair(30, 4), pair(181, 9)), fsOp(2, 0, 2), planned(1, numbers(10, 22, 0), putItem(0, 2), putItem(11, 1000), putItem(22, 1))},
		{"in the one that it makes", pairs(pair(0, 3), pair(13, 1000)), fsOp(1, 3, 2), planned(3, numbers(13, 52, 0), putItem(0, 4), putItem(13, 2001), putItem(52, 3))},
	})
}

func TestRemove(t *testing.T) {
	entry := func(name int64) []impl.Pair { return viewWith(plainView(), pair(40+name, 1)) }
	file := func(value int64) []impl.Pair { return viewWith(plainView(), pair(11, value)) }
	gone := planned(0, numbers(10, 20, 11), deleteItem(20), deleteItem(11), deleteItem(181))
	checkPlans(t, []planCase{
		{"a file with one entry", plainView(), fsOp(3, 0, 0), gone}, {"one without bytes", viewWithout(plainView(), 181), fsOp(3, 0, 0), gone},
		{"a file with two", plainView(), fsOp(3, 0, 2), planned(0, numbers(10, 22, 13), deleteItem(22), putItem(13, 2001))},
		{"so, by its other name", plainView(), fsOp(3, 4, 5), planned(0, numbers(14, 65, 13), deleteItem(65), putItem(13, 2001))},
		{"a file with three", file(2003), fsOp(3, 0, 0), planned(0, numbers(10, 20, 11), deleteItem(20), putItem(11, 2002))},
		{"a file with 99", file(2099), fsOp(3, 0, 0), planned(0, numbers(10, 20, 11), deleteItem(20), putItem(11, 2098))}, {"the greatest value", file(9999), fsOp(3, 0, 0), planned(0, numbers(10, 20, 11), deleteItem(20), putItem(11, 9998))},
		{"a file with none", file(2000), fsOp(3, 0, 0), gone}, {"the value 0", file(0), fsOp(3, 0, 0), gone}, {"no value", viewWithout(plainView(), 11), fsOp(3, 0, 0), gone}, {"one less than a directory", file(999), fsOp(3, 0, 0), gone}, {"one more", file(1001), fsOp(3, 0, 0), gone},
		{"an empty directory", plainView(), fsOp(3, 0, 1), planned(0, numbers(10, 21, 12, 40, 41, 42, 43, 44, 45), deleteItem(21), deleteItem(12))},
		{"an empty directory with bytes", viewWith(plainView(), pair(182, 5)), fsOp(3, 0, 1), planned(0, numbers(10, 21, 12, 40, 41, 42, 43, 44, 45), deleteItem(21), deleteItem(12))},
		{"one with the first name", entry(0), fsOp(3, 0, 1), nothing(impl.ErrForm, 10, 21, 12, 40)}, {"with the second one", entry(1), fsOp(3, 0, 1), nothing(impl.ErrForm, 10, 21, 12, 40, 41)},
		{"with the third one", entry(2), fsOp(3, 0, 1), nothing(impl.ErrForm, 10, 21, 12, 40, 41, 42)}, {"with the last name", entry(5), fsOp(3, 0, 1), nothing(impl.ErrForm, 10, 21, 12, 40, 41, 42, 43, 44, 45)},
		{"with two", viewWith(plainView(), pair(42, 1), pair(44, 1)), fsOp(3, 0, 1), nothing(impl.ErrForm, 10, 21, 12, 40, 41, 42)}, {"with an entry of the value 0", viewWith(plainView(), pair(43, 0)), fsOp(3, 0, 1), nothing(impl.ErrForm, 10, 21, 12, 40, 41, 42, 43)},
		{"the last directory of all", pairs(pair(10, 1000), pair(19, 1000), pair(25, 9)), fsOp(3, 0, 5), planned(0, numbers(10, 25, 19, 110, 111, 112, 113, 114, 115), deleteItem(25), deleteItem(19))},
		{"itself, by its first name", pairs(pair(10, 1000), pair(20, 0)), fsOp(3, 0, 0), nothing(impl.ErrForm, 10, 20)}, {"itself, by its last name", pairs(pair(10, 1000), pair(25, 0)), fsOp(3, 0, 5), nothing(impl.ErrForm, 10, 25, 20, 21, 22, 23, 24)},
		{"itself, behind another name", pairs(pair(10, 1000), pair(22, 1), pair(24, 0)), fsOp(3, 0, 4), nothing(impl.ErrForm, 10, 24, 20, 21, 22)},
		{"no entry", plainView(), fsOp(3, 0, 4), nothing(impl.ErrNone, 10, 24)}, {"no directory", plainView(), fsOp(3, 1, 0), nothing(impl.ErrDir, 11)}, {"in nothing", nil, fsOp(3, 0, 0), nothing(impl.ErrDir, 10)},
	})
}

func TestMove(t *testing.T) {
	checkPlans(t, []planCase{
		{"a file, to another directory", plainView(), fsOp(4, 0, 0, 2, 3), planned(0, numbers(10, 20, 11, 12, 43), deleteItem(20), putItem(43, 1))},
		{"a file, to another name", plainView(), fsOp(4, 0, 0, 0, 5), planned(0, numbers(10, 20, 11, 25), deleteItem(20), putItem(25, 1))},
		{"a file with more entries", plainView(), fsOp(4, 4, 5, 0, 4), planned(0, numbers(14, 65, 13, 10, 24), deleteItem(65), putItem(24, 3))},
		{"a directory, to another name", plainView(), fsOp(4, 0, 1, 0, 4), planned(0, numbers(10, 21, 12, 24), deleteItem(21), putItem(24, 2))}, {"a directory that is not empty", plainView(), fsOp(4, 0, 3, 0, 5), planned(0, numbers(10, 23, 14, 25), deleteItem(23), putItem(25, 4))},
		{"a directory, to another directory", plainView(), fsOp(4, 0, 1, 4, 0), nothing(impl.ErrState, 10, 21, 12)}, {"a directory, into itself", plainView(), fsOp(4, 0, 1, 2, 0), nothing(impl.ErrState, 10, 21, 12)},
		{"a directory, into a file", plainView(), fsOp(4, 0, 1, 1, 0), nothing(impl.ErrState, 10, 21, 12)}, {"a directory, to a name that is taken elsewhere", plainView(), fsOp(4, 0, 1, 4, 5), nothing(impl.ErrState, 10, 21, 12)},
		{"a file, into a file", plainView(), fsOp(4, 0, 0, 3, 0), nothing(impl.ErrDir, 10, 20, 11, 13)}, {"a file, into itself", plainView(), fsOp(4, 0, 0, 1, 0), nothing(impl.ErrDir, 10, 20, 11)}, {"a file, into nothing", plainView(), fsOp(4, 0, 0, 9, 5), nothing(impl.ErrDir, 10, 20, 11, 19)},
		{"to a name that is taken", plainView(), fsOp(4, 0, 0, 4, 5), nothing(impl.ErrTaken, 10, 20, 11, 14, 65)}, {"to a name that is taken here", plainView(), fsOp(4, 0, 0, 0, 2), nothing(impl.ErrTaken, 10, 20, 11, 22)}, {"a directory, to a taken one", plainView(), fsOp(4, 0, 1, 0, 3), nothing(impl.ErrTaken, 10, 21, 12, 23)},
		{"to the same file's other name", plainView(), fsOp(4, 0, 2, 4, 5), nothing(impl.ErrTaken, 10, 22, 13, 14, 65)}, {"a file, to itself", plainView(), fsOp(4, 0, 0, 0, 0), nothing(impl.ErrTaken, 10, 20, 11)}, {"a directory, to itself", plainView(), fsOp(4, 0, 3, 0, 3), nothing(impl.ErrTaken, 10, 23, 14)},
		{"an inode without a value", viewWithout(plainView(), 11), fsOp(4, 0, 0, 2, 3), planned(0, numbers(10, 20, 11, 12, 43), deleteItem(20), putItem(43, 1))}, {"the root in itself", pairs(pair(10, 1000), pair(21, 0)), fsOp(4, 0, 1, 0, 2), planned(0, numbers(10, 21, 22), deleteItem(21), putItem(22, 0))},
		{"no entry", plainView(), fsOp(4, 0, 4, 2, 0), nothing(impl.ErrNone, 10, 24)}, {"no entry, to itself", plainView(), fsOp(4, 0, 4, 0, 4), nothing(impl.ErrNone, 10, 24)}, {"no directory", plainView(), fsOp(4, 3, 0, 0, 4), nothing(impl.ErrDir, 13)}, {"in nothing", nil, fsOp(4, 0, 0, 0, 0), nothing(impl.ErrDir, 10)},
	})
}

func TestLink(t *testing.T) {
	file := func(value int64) []impl.Pair { return viewWith(plainView(), pair(11, value)) }
	linked := func(value int64) impl.Plan {
		return planned(0, numbers(10, 20, 11, 12, 43), putItem(11, value), putItem(43, 1))
	}
	tooMany := nothing(impl.ErrMany, 10, 20, 11, 12, 43)
	checkPlans(t, []planCase{
		{"a file, in another directory", plainView(), fsOp(5, 0, 0, 2, 3), linked(2002)}, {"a file, here", plainView(), fsOp(5, 0, 0, 0, 5), planned(0, numbers(10, 20, 11, 25), putItem(11, 2002), putItem(25, 1))},
		{"a file with two", plainView(), fsOp(5, 4, 5, 0, 4), planned(0, numbers(14, 65, 13, 10, 24), putItem(13, 2003), putItem(24, 3))},
		{"with 97", file(2097), fsOp(5, 0, 0, 2, 3), linked(2098)}, {"with 98", file(2098), fsOp(5, 0, 0, 2, 3), linked(2099)}, {"with 99", file(2099), fsOp(5, 0, 0, 2, 3), tooMany}, {"with 100", file(2100), fsOp(5, 0, 0, 2, 3), tooMany}, {"the greatest value", file(9999), fsOp(5, 0, 0, 2, 3), tooMany},
		{"with none", file(2000), fsOp(5, 0, 0, 2, 3), linked(2001)}, {"the value 0", file(0), fsOp(5, 0, 0, 2, 3), linked(1)}, {"no value", viewWithout(plainView(), 11), fsOp(5, 0, 0, 2, 3), linked(1)}, {"one less than a directory", file(999), fsOp(5, 0, 0, 2, 3), linked(1000)}, {"one more", file(1001), fsOp(5, 0, 0, 2, 3), linked(1002)},
		{"a directory", plainView(), fsOp(5, 0, 1, 0, 4), nothing(impl.ErrDir, 10, 21, 12)}, {"a directory, in another one", plainView(), fsOp(5, 0, 1, 4, 0), nothing(impl.ErrDir, 10, 21, 12)}, {"a directory, to itself", plainView(), fsOp(5, 0, 1, 0, 1), nothing(impl.ErrDir, 10, 21, 12)},
		{"in a file", plainView(), fsOp(5, 0, 0, 3, 0), nothing(impl.ErrDir, 10, 20, 11, 13)}, {"in itself", plainView(), fsOp(5, 0, 0, 1, 0), nothing(impl.ErrDir, 10, 20, 11)}, {"in nothing", plainView(), fsOp(5, 0, 0, 9, 5), nothing(impl.ErrDir, 10, 20, 11, 19)},
		{"to a name that is taken", plainView(), fsOp(5, 0, 0, 4, 5), nothing(impl.ErrTaken, 10, 20, 11, 14, 65)}, {"to a name that is taken here", plainView(), fsOp(5, 0, 0, 0, 1), nothing(impl.ErrTaken, 10, 20, 11, 21)}, {"to itself", plainView(), fsOp(5, 0, 0, 0, 0), nothing(impl.ErrTaken, 10, 20, 11)},
		{"no entry", plainView(), fsOp(5, 0, 4, 2, 0), nothing(impl.ErrNone, 10, 24)}, {"no entry, to itself", plainView(), fsOp(5, 0, 4, 0, 4), nothing(impl.ErrNone, 10, 24)}, {"no directory", plainView(), fsOp(5, 3, 0, 0, 4), nothing(impl.ErrDir, 13)}, {"of nothing", nil, fsOp(5, 0, 0, 0, 0), nothing(impl.ErrDir, 10)},
	})
}

func TestWriteReadLook(t *testing.T) {
	noBytes, noValue := viewWithout(plainView(), 181), viewWithout(plainView(), 11)
	zero := viewWith(plainView(), pair(181, 0))
	checkPlans(t, []planCase{
		{"write", plainView(), fsOp(6, 0, 0, 88), planned(0, numbers(10, 20, 11), putItem(181, 88))}, {"write what is there", plainView(), fsOp(6, 0, 0, 77), planned(0, numbers(10, 20, 11), putItem(181, 77))}, {"write, where no bytes are", noBytes, fsOp(6, 0, 0, 88), planned(0, numbers(10, 20, 11), putItem(181, 88))},
		{"write 0", plainView(), fsOp(6, 0, 0, 0), planned(0, numbers(10, 20, 11), putItem(181, 0))}, {"write the greatest value", plainView(), fsOp(6, 0, 0, 9999), planned(0, numbers(10, 20, 11), putItem(181, 9999))}, {"write by another name", plainView(), fsOp(6, 4, 5, 88), planned(0, numbers(14, 65, 13), putItem(183, 88))},
		{"write, no value", noValue, fsOp(6, 0, 0, 88), planned(0, numbers(10, 20, 11), putItem(181, 88))}, {"write a directory", plainView(), fsOp(6, 0, 1, 88), nothing(impl.ErrDir, 10, 21, 12)}, {"write, no entry", plainView(), fsOp(6, 0, 4, 88), nothing(impl.ErrNone, 10, 24)}, {"write, no directory", plainView(), fsOp(6, 1, 0, 88), nothing(impl.ErrDir, 11)},
		{"write, in nothing", nil, fsOp(6, 0, 0, 88), nothing(impl.ErrDir, 10)},
		{"read", plainView(), fsOp(7, 0, 0), planned(77, numbers(10, 20, 11, 181))}, {"read, without bytes", noBytes, fsOp(7, 0, 0), planned(0, numbers(10, 20, 11, 181))}, {"read 0", zero, fsOp(7, 0, 0), planned(0, numbers(10, 20, 11, 181))}, {"read the greatest value", viewWith(plainView(), pair(181, 9999)), fsOp(7, 0, 0), planned(9999, numbers(10, 20, 11, 181))},
		{"read by another name", viewWith(plainView(), pair(183, 5)), fsOp(7, 4, 5), planned(5, numbers(14, 65, 13, 183))}, {"read, no value", noValue, fsOp(7, 0, 0), planned(77, numbers(10, 20, 11, 181))}, {"read a directory", plainView(), fsOp(7, 0, 1), nothing(impl.ErrDir, 10, 21, 12)}, {"read a directory with bytes", viewWith(plainView(), pair(182, 5)), fsOp(7, 0, 1), nothing(impl.ErrDir, 10, 21, 12)},
		{"read, no entry", plainView(), fsOp(7, 0, 4), nothing(impl.ErrNone, 10, 24)}, {"read, no directory", plainView(), fsOp(7, 1, 0), nothing(impl.ErrDir, 11)}, {"read, in nothing", nil, fsOp(7, 0, 0), nothing(impl.ErrDir, 10)},
		{"look at a file", plainView(), fsOp(8, 0, 0), planned(2001, numbers(10, 20, 11))}, {"look at a directory", plainView(), fsOp(8, 0, 1), planned(1000, numbers(10, 21, 12))}, {"look by another name", plainView(), fsOp(8, 4, 5), planned(2002, numbers(14, 65, 13))}, {"look, no value", noValue, fsOp(8, 0, 0), planned(0, numbers(10, 20, 11))},
		{"look, the greatest value", viewWith(plainView(), pair(11, 9999)), fsOp(8, 0, 0), planned(9999, numbers(10, 20, 11))}, {"look at itself", pairs(pair(10, 1000), pair(22, 0)), fsOp(8, 0, 2), planned(1000, numbers(10, 22))},
		{"look, no entry", plainView(), fsOp(8, 0, 4), nothing(impl.ErrNone, 10, 24)}, {"look, no directory", plainView(), fsOp(8, 1, 0), nothing(impl.ErrDir, 11)}, {"look, in nothing", nil, fsOp(8, 0, 0), nothing(impl.ErrDir, 10)},
	})
}

// Where two replies would be so the first one is told, and what is behind it is not read.
func TestFirstReply(t *testing.T) {
	inFile := viewWith(plainView(), pair(30, 3), pair(31, 2), pair(53, 1))
	noNext := viewWithout(plainView(), 0)
	full := viewWith(plainView(), pair(11, 2099))
	var cases []planCase
	for kind := int64(1); kind <= 8; kind++ {
		cases = append(cases, planCase{"no directory, and an entry", inFile, fsOp(kind, 1, 0), nothing(impl.ErrDir, 11)}, planCase{"no directory, and none", inFile, fsOp(kind, 1, 5), nothing(impl.ErrDir, 11)},
			planCase{"no directory, and a directory's entry", inFile, fsOp(kind, 1, 1), nothing(impl.ErrDir, 11)}, planCase{"no value, and none", inFile, fsOp(kind, 9, 5), nothing(impl.ErrDir, 19)})
	}
	for _, kind := range numbers(1, 2) {
		cases = append(cases, planCase{"taken, and no next inode", noNext, fsOp(kind, 0, 0), nothing(impl.ErrTaken, 10, 20)}, planCase{"no directory, and no next inode", noNext, fsOp(kind, 1, 0), nothing(impl.ErrDir, 11)})
	}
	for _, kind := range numbers(4, 5) {
		cases = append(cases, planCase{"no directory at both ends", inFile, fsOp(kind, 1, 0, 3, 0), nothing(impl.ErrDir, 11)}, planCase{"no entry, and no directory to go to", inFile, fsOp(kind, 0, 4, 1, 0), nothing(impl.ErrNone, 10, 24)},
			planCase{"no entry, and a taken one", inFile, fsOp(kind, 0, 4, 0, 0), nothing(impl.ErrNone, 10, 24)}, planCase{"no directory to go to, and a taken one", inFile, fsOp(kind, 0, 0, 3, 3), nothing(impl.ErrDir, 10, 20, 11, 13)})
	}
	checkPlans(t, append(cases, []planCase{
		{"move a directory to no directory", inFile, fsOp(4, 0, 1, 1, 5), nothing(impl.ErrState, 10, 21, 12)}, {"move a directory to a taken name of no directory", inFile, fsOp(4, 0, 1, 1, 0), nothing(impl.ErrState, 10, 21, 12)},
		{"link a directory to no directory", inFile, fsOp(5, 0, 1, 1, 5), nothing(impl.ErrDir, 10, 21, 12)}, {"link a directory to a taken name", inFile, fsOp(5, 0, 1, 0, 0), nothing(impl.ErrDir, 10, 21, 12)},
		{"link one with 99 to no directory", full, fsOp(5, 0, 0, 3, 0), nothing(impl.ErrDir, 10, 20, 11, 13)}, {"link one with 99 to a taken name", full, fsOp(5, 0, 0, 4, 5), nothing(impl.ErrTaken, 10, 20, 11, 14, 65)}, {"link one with 99 to itself", full, fsOp(5, 0, 0, 0, 0), nothing(impl.ErrTaken, 10, 20, 11)},
	}...))
}

// An entry's value above MaxInode counts as MaxInode, and an inode without a value as one of the value 0.
func TestEntriesBeyondInodes(t *testing.T) {
	for _, beyond := range numbers(9, 10, 11, 19, 1000, 9999) {
		view := pairs(pair(0, 3), pair(10, 1000), pair(12, 1000), pair(19, 2002), pair(22, beyond), pair(189, 6))
		dir, none := viewWith(view, pair(19, 1000)), viewWithout(view, 19, 189)
		ten := viewWith(view, pair(110, beyond))
		checkPlans(t, []planCase{
			{"make", view, fsOp(1, 0, 2), nothing(impl.ErrTaken, 10, 22)}, {"remove", view, fsOp(3, 0, 2), planned(0, numbers(10, 22, 19), deleteItem(22), putItem(19, 2001))},
			{"move", view, fsOp(4, 0, 2, 2, 1), planned(0, numbers(10, 22, 19, 12, 41), deleteItem(22), putItem(41, 9))}, {"link", view, fsOp(5, 0, 2, 2, 1), planned(0, numbers(10, 22, 19, 12, 41), putItem(19, 2003), putItem(41, 9))},
			{"write", view, fsOp(6, 0, 2, 8), planned(0, numbers(10, 22, 19), putItem(189, 8))}, {"read", view, fsOp(7, 0, 2), planned(6, numbers(10, 22, 19, 189))}, {"look", view, fsOp(8, 0, 2), planned(2002, numbers(10, 22, 19))},
			{"remove a directory", dir, fsOp(3, 0, 2), planned(0, numbers(10, 22, 19, 110, 111, 112, 113, 114, 115), deleteItem(22), deleteItem(19))}, {"remove itself", viewWith(dir, pair(110, beyond)), fsOp(3, 9, 0), nothing(impl.ErrForm, 19, 110)},
			{"move a directory", dir, fsOp(4, 0, 2, 2, 1), nothing(impl.ErrState, 10, 22, 19)}, {"move a directory here", dir, fsOp(4, 0, 2, 0, 1), planned(0, numbers(10, 22, 19, 21), deleteItem(22), putItem(21, 9))}, {"look at a directory", dir, fsOp(8, 0, 2), planned(1000, numbers(10, 22, 19))},
			{"remove no value", none, fsOp(3, 0, 2), planned(0, numbers(10, 22, 19), deleteItem(22), deleteItem(19), deleteItem(189))}, {"look at no value", none, fsOp(8, 0, 2), planned(0, numbers(10, 22, 19))}, {"read no value", none, fsOp(7, 0, 2), planned(0, numbers(10, 22, 19, 189))}, {"link no value", none, fsOp(5, 0, 2, 2, 1), planned(0, numbers(10, 22, 19, 12, 41), putItem(19, 1), putItem(41, 9))},
			{"an entry of it is not asked", ten, fsOp(3, 0, 2), planned(0, numbers(10, 22, 19), deleteItem(22), putItem(19, 2001))},
		})
		if got := impl.ChildOf(view, 0, 2); got != (impl.GetResult{Has: true, Value: beyond}) {
			t.Errorf("the entry's value is told as %+v, want %d", got, beyond)
		}
	}
}

func TestIsFsDir(t *testing.T) {
	for _, c := range []struct {
		name  string
		view  []impl.Pair
		inode int64
		want  bool
	}{
		{"the root", newView(), 0, true}, {"a directory", plainView(), 4, true}, {"an empty one", plainView(), 2, true}, {"a file", plainView(), 1, false}, {"a file with two", plainView(), 3, false}, {"no value", plainView(), 5, false}, {"in nothing", nil, 0, false},
		{"the last one", pairs(pair(19, 1000)), 9, true}, {"one below", plainView(), -1, false}, {"one above", plainView(), 10, false}, {"the key of a directory", plainView(), 14, false}, {"the least", plainView(), math.MinInt64, false}, {"the greatest", plainView(), math.MaxInt64, false},
		{"an entry of that value is none", pairs(pair(20, 1000)), 10, false}, {"the next inode is none", pairs(pair(0, 1000)), -10, false}, {"bytes are none", pairs(pair(180, 1000)), 0, false}, {"one less", pairs(pair(10, 999)), 0, false}, {"one more", pairs(pair(10, 1001)), 0, false}, {"the value 0", pairs(pair(10, 0)), 0, false},
		{"a fault of the key behind it", pairs(pair(10, 1000), pair(26, 1)), 0, false}, {"a fault of the value behind it", pairs(pair(10, 1000), pair(11, -1)), 0, false}, {"a fault of the order", pairs(pair(11, 1), pair(10, 1000)), 0, false}, {"one twice", pairs(pair(10, 1000), pair(10, 1000)), 0, false},
	} {
		if got := impl.IsFsDir(c.view, c.inode); got != c.want || wantIsFsDir(c.view, c.inode) != c.want {
			t.Errorf("%s: %v, want %v", c.name, got, c.want)
		}
	}
}

func TestChildOf(t *testing.T) {
	fault, order := pairs(pair(20, 1), pair(26, 1)), pairs(pair(21, 1), pair(20, 1))
	for _, c := range []struct {
		name      string
		view      []impl.Pair
		dir, file int64
		want      impl.GetResult
	}{
		{"there", plainView(), 0, 2, impl.GetResult{Has: true, Value: 3}}, {"in another directory", plainView(), 4, 5, impl.GetResult{Has: true, Value: 3}}, {"not there", plainView(), 0, 4, impl.GetResult{}}, {"in nothing", nil, 0, 0, impl.GetResult{}},
		{"the value 0", pairs(pair(20, 0)), 0, 0, impl.GetResult{Has: true}}, {"of no directory", pairs(pair(35, 4)), 1, 5, impl.GetResult{Has: true, Value: 4}}, {"the last of all", pairs(pair(115, 4)), 9, 5, impl.GetResult{Has: true, Value: 4}}, {"the greatest value", pairs(pair(115, 9999)), 9, 5, impl.GetResult{Has: true, Value: 9999}},
		{"dir -1", plainView(), -1, 0, impl.GetResult{Code: impl.ErrRange}}, {"dir 10", plainView(), 10, 0, impl.GetResult{Code: impl.ErrRange}}, {"name -1", plainView(), 0, -1, impl.GetResult{Code: impl.ErrRange}}, {"name 6", plainView(), 0, 6, impl.GetResult{Code: impl.ErrRange}},
		{"a name that comes to another directory's", plainView(), 1, -10, impl.GetResult{Code: impl.ErrRange}}, {"a dir that comes to an inode", plainView(), -1, 1, impl.GetResult{Code: impl.ErrRange}}, {"the least", nil, math.MinInt64, math.MinInt64, impl.GetResult{Code: impl.ErrRange}}, {"the greatest", nil, math.MaxInt64, math.MaxInt64, impl.GetResult{Code: impl.ErrRange}},
		{"a fault behind it", fault, 0, 0, impl.GetResult{Code: impl.ErrForm}}, {"a fault, and dir", fault, 10, 0, impl.GetResult{Code: impl.ErrForm}}, {"a fault, and name", order, 0, 6, impl.GetResult{Code: impl.ErrForm}}, {"a value, and dir", pairs(pair(20, -1)), -1, 0, impl.GetResult{Code: impl.ErrRange}},
	} {
		if got := impl.ChildOf(c.view, c.dir, c.file); got != c.want || wantChild(c.view, c.dir, c.file) != c.want {
			t.Errorf("%s: %+v, want %+v", c.name, got, c.want)
		}
	}
}

func TestEntriesOf(t *testing.T) {
	names := func(list ...int64) impl.IntsResult { return impl.IntsResult{List: list} }
	wrong := func(code int64) impl.IntsResult { return impl.IntsResult{Code: code} }
	for _, c := range []struct {
		name string
		view []impl.Pair
		dir  int64
		want impl.IntsResult
	}{
		{"the root", plainView(), 0, names(0, 1, 2, 3)}, {"one", plainView(), 4, names(5)}, {"an empty one", plainView(), 2, names()}, {"a file", plainView(), 1, names()}, {"no value", plainView(), 9, names()}, {"in nothing", nil, 0, names()}, {"in a new one", newView(), 0, names()},
		{"the first and the last", pairs(pair(19, 1000), pair(20, 1), pair(25, 1), pair(30, 1)), 0, names(0, 5)}, {"those of its own alone", pairs(pair(25, 1), pair(30, 2), pair(35, 3), pair(40, 4)), 1, names(0, 5)}, {"each key", eachPair(), 9, names(0, 1, 2, 3, 4, 5)},
		{"of no directory", pairs(pair(31, 1), pair(33, 1)), 1, names(1, 3)}, {"entries of the value 0", pairs(pair(110, 0), pair(112, 0)), 9, names(0, 2)}, {"entries beyond inodes", pairs(pair(110, 10), pair(115, 9999)), 9, names(0, 5)},
		{"dir -1", plainView(), -1, wrong(impl.ErrRange)}, {"dir 10", plainView(), 10, wrong(impl.ErrRange)}, {"the least", plainView(), math.MinInt64, wrong(impl.ErrRange)}, {"the greatest", nil, math.MaxInt64, wrong(impl.ErrRange)},
		{"a fault", pairs(pair(20, 1), pair(26, 1)), 0, wrong(impl.ErrForm)}, {"a fault, and dir", pairs(pair(20, 1), pair(20, 1)), 10, wrong(impl.ErrForm)}, {"a value, and dir", pairs(pair(20, 10000)), -1, wrong(impl.ErrRange)},
	} {
		if got := impl.EntriesOf(c.view, c.dir); !sameInts(got, c.want) || !sameInts(wantEntries(c.view, c.dir), c.want) {
			t.Errorf("%s: %+v, want %+v", c.name, got, c.want)
		}
	}
}

// checkAllOfView asks all that take a view, with n in place of each number.
func checkAllOfView(t *testing.T, name string, view []impl.Pair, n int64) {
	t.Helper()
	kept := slices.Clone(view)
	if got, want := impl.IsFsDir(view, n), wantIsFsDir(view, n); got != want {
		t.Errorf("%s: %d is a directory of %v: %v, want %v", name, n, view, got, want)
	}
	for _, at := range [][2]int64{{n, n}, {n, 0}, {0, n}, {9, n}, {n, 5}} {
		if got, want := impl.ChildOf(view, at[0], at[1]), wantChild(view, at[0], at[1]); got != want {
			t.Errorf("%s: the child at %v of %v is %+v, want %+v", name, at, view, got, want)
		}
	}
	if got, want := impl.EntriesOf(view, n), wantEntries(view, n); !sameInts(got, want) {
		t.Errorf("%s: the entries of %d in %v are %+v, want %+v", name, n, view, got, want)
	}
	for kind := int64(0); kind <= 9; kind++ {
		for _, o := range []impl.FsOp{{Kind: n}, {Kind: kind, Dir: n}, {Kind: kind, Name: n}, {Kind: kind, ToDir: n}, {Kind: kind, ToName: n}, {Kind: kind, Value: n}, {Kind: kind, Dir: n, Name: n, ToDir: n, ToName: n, Value: n}} {
			checkCompile(t, name, view, o)
		}
	}
	if !slices.Equal(kept, view) {
		t.Errorf("%s at %d: %v became %v", name, n, kept, view)
	}
}

// P1: each function at views that are right and wrong, and at any number.
func TestViewsAtOddNumbers(t *testing.T) {
	views := append(append(rightPairs(), wrongPairs()...), pairsCase{"new", newView(), impl.OK}, pairsCase{"plain", plainView(), impl.OK})
	for _, c := range views {
		for _, n := range append(numbers(-21, 999, 1000, 2000, 9998, 9999, 10000, 10001), numbers(math.MinInt64, math.MinInt64+1, -2, -1, 0, 1, 2, 3, 4, 5, 6, 7, 8, 9, 10, 11, 12, 43, 200, math.MaxInt64-1, math.MaxInt64)...) {
			checkAllOfView(t, c.name, c.list, n)
		}
	}
}

// P1: each number of a right view, one at a time, may be anything.
func TestViewsOfOddNumbers(t *testing.T) {
	ops := []impl.FsOp{fsOp(1, 0, 5), fsOp(2, 4, 0), fsOp(3, 0, 0), fsOp(3, 0, 1), fsOp(3, 0, 2), fsOp(3, 0, 3), fsOp(4, 0, 0, 2, 0), fsOp(4, 0, 1, 0, 5), fsOp(5, 0, 0, 4, 1), fsOp(6, 0, 0, 5), fsOp(7, 0, 0), fsOp(8, 0, 3), fsOp(0, 0, 0)}
	for i := range plainView() {
		for _, n := range append(numbers(999, 1000, 1001, 1999, 2000, 2001, 2002, 2098, 2099, 2100, 9998, 9999, 10000, 10001), oddNumbers()...) {
			key, value := plainView(), plainView()
			key[i].Key, value[i].Value = n, n
			for _, view := range [][]impl.Pair{key, value} {
				for _, o := range ops {
					checkCompile(t, "an odd number", view, o)
				}
				for _, dir := range numbers(0, 1, 4) {
					if impl.IsFsDir(view, dir) != wantIsFsDir(view, dir) || impl.ChildOf(view, dir, 0) != wantChild(view, dir, 0) || !sameInts(impl.EntriesOf(view, dir), wantEntries(view, dir)) {
						t.Errorf("%v: what is told of %d is wrong", view, dir)
					}
				}
			}
		}
	}
}

// The view's fault is told ahead of the operation's, and both ahead of any reply.
func TestCompileAsksTheFaultFirst(t *testing.T) {
	for _, c := range wrongPairs() {
		for _, o := range []impl.FsOp{fsOp(1, 0, 0), fsOp(0, 0, 0), fsOp(1, 10, 0), fsOp(8, 0, 0), fsOp(6, 0, 0, math.MaxInt64), {Kind: math.MinInt64}} {
			checkPlan(t, c.name, impl.CompileFs(c.list, o), noPlan(c.code))
		}
	}
	for _, c := range append(rightPairs(), pairsCase{"plain", plainView(), impl.OK}) {
		checkPlan(t, c.name, impl.CompileFs(c.list, fsOp(0, 0, 0)), noPlan(impl.ErrForm))
		checkPlan(t, c.name, impl.CompileFs(c.list, fsOp(9, 10, 0)), noPlan(impl.ErrForm))
		checkPlan(t, c.name, impl.CompileFs(c.list, fsOp(1, 10, 0)), noPlan(impl.ErrRange))
		checkPlan(t, c.name, impl.CompileFs(c.list, fsOp(5, 0, 0, 0, 6)), noPlan(impl.ErrRange))
	}
	checkPlan(t, "a value, and a form", impl.CompileFs(pairs(pair(10, -1)), fsOp(0, 0, 0)), noPlan(impl.ErrRange))
	checkPlan(t, "a form, and a range", impl.CompileFs(pairs(pair(26, 0)), fsOp(1, 10, 0)), noPlan(impl.ErrForm))
}
