package tests

import (
	"cmp"
	"fmt"
	"math"
	"slices"
	"testing"

	"loop.example/g00331/impl"
)

func TestRunConstants(t *testing.T) {
	if impl.MaxRuns != 30 {
		t.Error("bounds")
	}
}

func noFsWorld(code int64) impl.FsWorldResult { return impl.FsWorldResult{Code: code} }

func fsMoved(f impl.FsWorld) impl.FsWorldResult { return impl.FsWorldResult{Moved: true, FsWorld: f} }

func fsStayed(f impl.FsWorld) impl.FsWorldResult { return impl.FsWorldResult{FsWorld: f} }

func noHistory(code int64) impl.HistoryResult { return impl.HistoryResult{Code: code} }

func history(dones ...impl.Done) impl.HistoryResult { return impl.HistoryResult{Dones: dones} }

func copyFs(f impl.FsWorld) impl.FsWorld {
	return impl.FsWorld{World: copyWorld(f.World), Runs: append([]impl.Run{}, f.Runs...)}
}

func equalFsWorlds(a, b impl.FsWorld) bool {
	return equalWorlds(a.World, b.World) && slices.Equal(a.Runs, b.Runs)
}

func changedFs(f impl.FsWorld, change func(f *impl.FsWorld)) impl.FsWorld {
	next := copyFs(f)
	change(&next)
	return next
}

// checkFsWorld: the code, Moved, all of the file system, and no fault in it; beside a code nothing.
func checkFsWorld(t *testing.T, name string, got, want impl.FsWorldResult) {
	t.Helper()
	if got.Code != want.Code || got.Moved != want.Moved || !equalFsWorlds(got.FsWorld, want.FsWorld) {
		t.Errorf("%s: %+v, want %+v", name, got, want)
	}
	if fault := wantFsWorldFault(got.FsWorld); got.Code == impl.OK && fault != impl.OK {
		t.Errorf("%s: %+v has the fault %d", name, got.FsWorld, fault)
	}
	if nothing := noFsWorld(got.Code); got.Code != impl.OK && (got.Moved || !equalFsWorlds(got.FsWorld, nothing.FsWorld)) {
		t.Errorf("%s: %+v tells more than its code", name, got)
	}
}

func checkHistory(t *testing.T, name string, got, want impl.HistoryResult) {
	t.Helper()
	if got.Code != want.Code || !slices.Equal(got.Dones, want.Dones) {
		t.Errorf("%s: %+v, want %+v", name, got, want)
	}
}

func checkRight(t *testing.T, name string, f impl.FsWorld, right bool) {
	t.Helper()
	if code := impl.FsWorldFault(f); code != impl.OK {
		t.Errorf("%s: %+v has the fault %d", name, f, code)
	}
	if got, want := impl.HistoryRight(f), wantHistoryRight(f); got != right || want != right {
		t.Errorf("%s: the history of %+v is right: %v, and %v by the tests, want %v", name, f, got, want, right)
	}
}

// wantFsWorldFault and the others up to wantViewOf say the chapter once more, with its own numbers.
func wantFsWorldFault(f impl.FsWorld) int64 {
	if code := wantWorldFault(f.World); code != impl.OK {
		return code
	}
	if len(f.Runs) > 30 {
		return impl.ErrMany
	}
	for _, run := range f.Runs {
		if code := wantFsOpFault(run.Op); code != impl.OK {
			return code
		}
		if !within(run.Place, -1, int64(len(f.World.Txns))-1) || !within(run.Ts, 1, f.World.Oracle.Next-1) || !within(run.Reply, 0, 10) || !within(run.Value, 0, 9999) {
			return impl.ErrRange
		}
	}
	return impl.OK
}

func wantNewFs(first int64) impl.FsWorldResult {
	made := wantNewWorld(first)
	if made.Code != impl.OK {
		return noFsWorld(made.Code)
	}
	begun := wantBegin(made.World, nil, items(putItem(0, 1), putItem(10, 1000)))
	if begun.Code != impl.OK {
		return noFsWorld(begun.Code)
	}
	return fsStayed(impl.FsWorld{World: wantDrive(begun.World).World})
}

func wantStartFs(f impl.FsWorld, o impl.FsOp) impl.FsWorldResult {
	for _, code := range []int64{wantFsWorldFault(f), wantFsOpFault(o)} {
		if code != impl.OK {
			return noFsWorld(code)
		}
	}
	if len(f.Runs) == 30 {
		return noFsWorld(impl.ErrMany)
	}
	granted := wantGranted(f.World.Oracle)
	if granted.Code != impl.OK {
		return noFsWorld(granted.Code)
	}
	read := wantReadAll(f.World.Groups, granted.Ts, f.World.Now)
	if read.Code != impl.OK {
		return noFsWorld(read.Code)
	}
	plan := wantPlan(read.Pairs, o)
	run := impl.Run{Op: o, Place: -1, Ts: granted.Ts, Reply: plan.Reply, Value: plan.Value}
	next := copyFs(f)
	next.World.Oracle, next.World.Groups = granted.Oracle, read.Groups
	if len(plan.Writes) > 0 {
		if len(f.World.Txns) == 16 {
			return noFsWorld(impl.ErrMany)
		}
		until := f.World.Now + 20
		if until > 100000 {
			until = 100000
		}
		begun := wantNewTxn(granted.Ts, until, plan.Reads, plan.Writes)
		if begun.Code != impl.OK {
			return noFsWorld(begun.Code)
		}
		run.Place = int64(len(f.World.Txns))
		next.World.Txns = append(next.World.Txns, begun.Txn)
	}
	next.Runs = append(next.Runs, run)
	return fsMoved(next)
}

// liftedFs is what becomes of a file system where that became of its world.
func liftedFs(f impl.FsWorld, w impl.WorldResult) impl.FsWorldResult {
	if w.Code != impl.OK {
		return noFsWorld(w.Code)
	}
	return impl.FsWorldResult{Moved: w.Moved, FsWorld: impl.FsWorld{World: w.World, Runs: slices.Clone(f.Runs)}}
}

func wantStepFs(f impl.FsWorld, place int64) impl.FsWorldResult {
	if code := wantFsWorldFault(f); code != impl.OK {
		return noFsWorld(code)
	}
	want, _ := wantStep(f.World, place)
	return liftedFs(f, want)
}

func wantDriveFs(f impl.FsWorld) impl.FsWorldResult {
	if code := wantFsWorldFault(f); code != impl.OK {
		return noFsWorld(code)
	}
	drive := wantDrive(f.World)
	return liftedFs(f, impl.WorldResult{Code: drive.Code, Moved: drive.Rounds > 0, World: drive.World})
}

func wantHistory(f impl.FsWorld) (told impl.HistoryResult) {
	if code := wantFsWorldFault(f); code != impl.OK {
		return noHistory(code)
	}
	committed := wantCommitted(f.World).Dones
	for place, run := range f.Runs {
		at := slices.IndexFunc(committed, func(d impl.Done) bool { return d.Place == run.Place })
		switch {
		case run.Place == -1:
			told.Dones = append(told.Dones, done(int64(place), run.Ts))
		case at >= 0:
			told.Dones = append(told.Dones, done(int64(place), committed[at].Commit))
		}
	}
	slices.SortStableFunc(told.Dones, func(a, b impl.Done) int { return cmp.Compare(a.Commit, b.Commit) })
	return told
}

// wantHistoryRight takes "no right one" for items with a code, or for no transaction at all; of a whole tree ApplyFs alone asks.
func wantHistoryRight(f impl.FsWorld) bool {
	if wantFsWorldFault(f) != impl.OK || len(f.World.Txns) == 0 {
		return false
	}
	begun := wantApply(nil, f.World.Txns[0].Items)
	if begun.Code != impl.OK {
		return false
	}
	view := begun.Pairs
	for _, d := range wantHistory(f).Dones {
		run := f.Runs[d.Place]
		got := wantApplyFs(view, run.Op)
		if got.Code != impl.OK || got.Reply != run.Reply || got.Value != run.Value {
			return false
		}
		view = got.View
	}
	return slices.Equal(view, wantModel(f.World, 100000).Pairs)
}

func wantViewOf(f impl.FsWorld) impl.PairsResult {
	if code := wantFsWorldFault(f); code != impl.OK {
		return noPairs(code)
	}
	return wantModel(f.World, 100000)
}

// checkAllOfFs asks all that take a file system, with n in place of each number; it stays as it was.
func checkAllOfFs(t *testing.T, name string, f impl.FsWorld, n int64) {
	t.Helper()
	kept := copyFs(f)
	if got, want := impl.FsWorldFault(f), wantFsWorldFault(f); got != want {
		t.Errorf("%s: %+v has the fault %d, want %d", name, f, got, want)
	}
	for _, o := range []impl.FsOp{fsOp(n, 0, 1), fsOp(1, 0, n), fsOp(3, n, 1), fsOp(6, 0, 1, n), fsOp(8, 0, 1)} {
		checkFsWorld(t, name+", started", impl.StartFs(f, o), wantStartFs(f, o))
	}
	checkFsWorld(t, name+", step", impl.StepFs(f, n), wantStepFs(f, n))
	checkTold(t, name, f)
	if !equalFsWorlds(kept, f) {
		t.Errorf("%s at %d: %+v became %+v", name, n, kept, f)
	}
}

// checkTold asks the three that change nothing.
func checkTold(t *testing.T, name string, f impl.FsWorld) {
	t.Helper()
	checkHistory(t, name+", history", impl.HistoryOf(f), wantHistory(f))
	checkPairs(t, name+", view", impl.ViewOf(f), wantViewOf(f))
	if got, want := impl.HistoryRight(f), wantHistoryRight(f); got != want {
		t.Errorf("%s: the history of %+v is right: %v, want %v", name, f, got, want)
	}
}

// mustFs is for what a test goes on from: there is no code.
func mustFs(r impl.FsWorldResult) impl.FsWorld {
	if r.Code != impl.OK {
		panic(fmt.Sprintf("the code %d", r.Code))
	}
	return r.FsWorld
}

func started(f impl.FsWorld, list ...impl.FsOp) impl.FsWorld {
	for _, o := range list {
		f = mustFs(impl.StartFs(f, o))
	}
	return f
}

// carriedOut has each of the list started when those ahead have come to their end.
func carriedOut(f impl.FsWorld, list ...impl.FsOp) impl.FsWorld {
	for _, o := range list {
		f = mustFs(impl.DriveFs(started(f, o)))
	}
	return f
}

func stepped(f impl.FsWorld, place int64, n int) impl.FsWorld {
	for range n {
		f = mustFs(impl.StepFs(f, place))
	}
	return f
}

func worldOf(r impl.WorldResult) func(f *impl.FsWorld) {
	return func(f *impl.FsWorld) { f.World = r.World }
}

func leftFs(f impl.FsWorld, place int64) impl.FsWorld {
	return changedFs(f, worldOf(impl.LeaveWorld(f.World, place)))
}

func laterFs(f impl.FsWorld, n int64) impl.FsWorld {
	return changedFs(f, worldOf(impl.TickWorld(f.World, n)))
}

func newFs() impl.FsWorld { return mustFs(impl.NewFs(1)) }

// madeFs has the file 1 of the bytes 55 under the name 1, and the empty directory 2 under the name 2; all is done, and the next time is 9.
func madeFs() impl.FsWorld {
	return carriedOut(newFs(), fsOp(1, 0, 1), fsOp(2, 0, 2), fsOp(6, 0, 1, 55))
}

// usedFs has runs that read, that found something in their way, that are done (the transactions 1 to 4), gone (5), left ahead of their Commit (6) and behind it (7), and one that goes on (8).
func usedFs() impl.FsWorld {
	f := started(madeFs(), fsOp(7, 0, 1), fsOp(1, 0, 1), fsOp(1, 2, 0), fsOp(1, 2, 0))
	f = mustFs(impl.DriveFs(f))
	f = started(f, fsOp(6, 0, 1, 66), fsOp(1, 2, 4), fsOp(3, 2, 0))
	f = leftFs(stepped(f, 6, 2), 6)
	f = leftFs(stepped(f, 7, 6), 7)
	f = stepped(f, 8, 1)
	f = changedFs(f, worldOf(impl.CutWorld(f.World, 43)))
	return laterFs(f, 5)
}

// readingFs has n runs that look at the root's name 0, behind those of f.
func readingFs(f impl.FsWorld, n int) impl.FsWorld {
	return changedFs(f, func(f *impl.FsWorld) {
		for range n {
			f.Runs = append(f.Runs, impl.Run{Op: fsOp(8, 0, 0), Place: -1, Ts: 1, Reply: impl.ErrNone})
		}
	})
}

type fsCase struct {
	name string
	f    impl.FsWorld
	code int64
}

func rightFsWorlds() []fsCase {
	used := usedFs()
	list := []fsCase{{"used", used, impl.OK}, {"new", newFs(), impl.OK}, {"made", madeFs(), impl.OK}, {"an empty list in place of none", copyFs(newFs()), impl.OK}, {"30 runs", readingFs(used, 20), impl.OK}}
	for _, c := range rightWorlds() {
		list = append(list, fsCase{"no runs: " + c.name, impl.FsWorld{World: c.w}, impl.OK})
	}
	for at := range used.Runs {
		if at > 0 && at < len(used.Runs)-1 {
			continue
		}
		for name, change := range map[string]func(run *impl.Run){
			"Place -1": func(run *impl.Run) { run.Place = -1 }, "Place 0": func(run *impl.Run) { run.Place = 0 }, "the last Place": func(run *impl.Run) { run.Place = 8 },
			"Ts 1": func(run *impl.Run) { run.Ts = 1 }, "the Ts below Next": func(run *impl.Run) { run.Ts = 17 },
			"Reply 0": func(run *impl.Run) { run.Reply = 0 }, "Reply 10": func(run *impl.Run) { run.Reply = 10 },
			"Value 0": func(run *impl.Run) { run.Value = 0 }, "MaxValue": func(run *impl.Run) { run.Value = 9999 },
			"a Reply, and a Value": func(run *impl.Run) { run.Reply, run.Value = 7, 7 }, "another operation": func(run *impl.Run) { run.Op = fsOp(4, 9, 5, 9, 5) },
		} {
			list = append(list, fsCase{fmt.Sprintf("%s at %d", name, at), changedFs(used, func(f *impl.FsWorld) { change(&f.Runs[at]) }), impl.OK})
		}
	}
	return list
}

// wrongRuns are bent in one place.
func wrongRuns() []struct {
	name   string
	change func(run *impl.Run)
	code   int64
} {
	type wrong = struct {
		name   string
		change func(run *impl.Run)
		code   int64
	}
	var list []wrong
	for _, o := range []impl.FsOp{{}, fsOp(-1, 0, 0), fsOp(9, 0, 0), fsOp(1, 0, 0, 1, 0), fsOp(8, 0, 0, 0, 1), fsOp(7, 0, 0, 5), fsOp(1, -1, 0), fsOp(1, 10, 0), fsOp(1, 0, 6), fsOp(4, 0, 0, 10, 0), fsOp(5, 0, 0, 0, 6), fsOp(6, 0, 0, 10000), fsOp(6, 0, 0, -1),
		fsOp(math.MinInt64, 0, 0), fsOp(math.MaxInt64, 0, 0), fsOp(1, math.MinInt64, 0), fsOp(1, 0, math.MaxInt64), fsOp(6, 0, 0, math.MaxInt64), fsOp(6, 0, 0, math.MinInt64), fsOp(4, 0, 0, math.MinInt64, 0), fsOp(4, 0, 0, 0, math.MaxInt64)} {
		list = append(list, wrong{fmt.Sprintf("the operation %+v", o), func(run *impl.Run) { run.Op = o }, wantFsOpFault(o)})
	}
	for _, n := range []int64{-2, 9, 10, math.MinInt64, math.MaxInt64} {
		list = append(list, wrong{fmt.Sprintf("Place %d", n), func(run *impl.Run) { run.Place = n }, impl.ErrRange})
	}
	for _, n := range []int64{-1, 0, 18, 19, 21, 100000, 100001, math.MinInt64, math.MaxInt64} {
		list = append(list, wrong{fmt.Sprintf("Ts %d", n), func(run *impl.Run) { run.Ts = n }, impl.ErrRange})
	}
	for _, n := range []int64{-1, 11, math.MinInt64, math.MaxInt64} {
		list = append(list, wrong{fmt.Sprintf("Reply %d", n), func(run *impl.Run) { run.Reply = n }, impl.ErrRange})
	}
	for _, n := range []int64{-1, 10000, math.MinInt64, math.MaxInt64} {
		list = append(list, wrong{fmt.Sprintf("Value %d", n), func(run *impl.Run) { run.Value = n }, impl.ErrRange})
	}
	return list
}

func wrongFsWorlds() []fsCase {
	used := usedFs()
	list := []fsCase{{"nothing", impl.FsWorld{}, impl.ErrRange}, {"31 runs", readingFs(used, 21), impl.ErrMany}, {"100 runs", readingFs(used, 90), impl.ErrMany}, {"31 runs and no others", readingFs(newFs(), 31), impl.ErrMany}}
	for _, c := range wrongWorlds() {
		list = append(list, fsCase{"the world: " + c.name, impl.FsWorld{World: c.w}, c.code})
	}
	for _, c := range wrongRuns() {
		for _, at := range []int{0, 4, len(used.Runs) - 1} {
			list = append(list, fsCase{fmt.Sprintf("%s at %d", c.name, at), changedFs(used, func(f *impl.FsWorld) { c.change(&f.Runs[at]) }), c.code})
		}
	}
	for name, f := range map[string]impl.FsWorld{
		"a Place without transactions": {World: impl.World{Oracle: oracle(9, 9), Groups: cutStore(impl.Store{}, 1)}, Runs: []impl.Run{{Op: fsOp(8, 0, 0), Place: 0, Ts: 1}}},
		"a Ts where none was granted":  {World: impl.World{Oracle: oracle(1, 11), Groups: cutStore(impl.Store{}, 1)}, Runs: []impl.Run{{Op: fsOp(8, 0, 0), Place: -1, Ts: 1}}},
	} {
		list = append(list, fsCase{name, f, impl.ErrRange})
	}
	return list
}

func TestFsWorldFault(t *testing.T) {
	for _, c := range append(rightFsWorlds(), wrongFsWorlds()...) {
		kept := copyFs(c.f)
		if got, want := impl.FsWorldFault(c.f), wantFsWorldFault(c.f); got != c.code || want != c.code {
			t.Errorf("%s: FsWorldFault is %d, and %d by the tests, want %d", c.name, got, want, c.code)
		}
		if !equalFsWorlds(kept, c.f) {
			t.Errorf("%s: FsWorldFault changed the file system", c.name)
		}
	}
}

// Each fault beside each that is asked behind it: the first one is told; runs are gone through one by one.
func TestFsWorldFaultFirstCode(t *testing.T) {
	used := usedFs()
	last := len(used.Runs) - 1
	for _, first := range wrongRuns() {
		for _, second := range wrongRuns() {
			f := changedFs(used, func(f *impl.FsWorld) { first.change(&f.Runs[0]); second.change(&f.Runs[last]) })
			if got := impl.FsWorldFault(f); got != first.code {
				t.Errorf("%s, and then %s: %d, want %d", first.name, second.name, got, first.code)
			}
			f = changedFs(used, func(f *impl.FsWorld) { second.change(&f.Runs[0]); first.change(&f.Runs[0]) })
			if got, want := impl.FsWorldFault(f), wantFsWorldFault(f); got != want || wantFsOpFault(f.Runs[0].Op) != impl.OK && got != wantFsOpFault(f.Runs[0].Op) {
				t.Errorf("%s, and %s in one: %d, want %d", first.name, second.name, got, want)
			}
		}
		for _, f := range []impl.FsWorld{readingFs(used, 21), readingFs(newFs(), 31)} {
			if got := impl.FsWorldFault(changedFs(f, func(f *impl.FsWorld) { first.change(&f.Runs[0]) })); got != impl.ErrMany {
				t.Errorf("%s, and 31 runs: %d", first.name, got)
			}
		}
		for _, c := range wrongWorlds() {
			f := changedFs(used, func(f *impl.FsWorld) { f.World = c.w; first.change(&f.Runs[0]) })
			if got := impl.FsWorldFault(f); got != c.code {
				t.Errorf("the world: %s, and %s: %d, want %d", c.name, first.name, got, c.code)
			}
		}
	}
	for _, c := range wrongWorlds() {
		if got := impl.FsWorldFault(impl.FsWorld{World: c.w, Runs: readingFs(used, 21).Runs}); got != c.code {
			t.Errorf("the world: %s, and 31 runs: %d, want %d", c.name, got, c.code)
		}
	}
}

// Each number of a run, in the first one and in the last one, around its bounds.
func TestFsWorldFaultOfEachNumber(t *testing.T) {
	used := usedFs()
	for _, at := range []int{0, len(used.Runs) - 1} {
		for _, n := range append([]int64{999, 9998, 9999, 10000, 10001, 99999, 100000, 100001}, oddNumbers()...) {
			for i, change := range []func(run *impl.Run){
				func(run *impl.Run) { run.Place = n }, func(run *impl.Run) { run.Ts = n }, func(run *impl.Run) { run.Reply = n }, func(run *impl.Run) { run.Value = n },
				func(run *impl.Run) { run.Op.Kind = n }, func(run *impl.Run) { run.Op.Dir = n }, func(run *impl.Run) { run.Op.Name = n }, func(run *impl.Run) { run.Op.ToDir = n }, func(run *impl.Run) { run.Op.ToName = n }, func(run *impl.Run) { run.Op.Value = n },
			} {
				f := changedFs(used, func(f *impl.FsWorld) { change(&f.Runs[at]) })
				got, want := impl.FsWorldFault(f), wantFsWorldFault(f)
				if i < 4 {
					bounds := [][2]int64{{-1, 8}, {1, 17}, {0, 10}, {0, 9999}}[i]
					want = impl.ErrRange
					if within(n, bounds[0], bounds[1]) {
						want = impl.OK
					}
				}
				if got != want {
					t.Errorf("%d in the number %d of %d: %d, want %d", n, i, at, got, want)
				}
			}
		}
	}
}

func TestNewFs(t *testing.T) {
	for _, n := range append([]int64{99980, 99981, 99988, 99989, 99990, 99991, 99992, 99999, 100000, 100001}, oddNumbers()...) {
		checkFsWorld(t, fmt.Sprintf("new at %d", n), impl.NewFs(n), wantNewFs(n))
	}
	for n, code := range map[int64]int64{math.MinInt64: impl.ErrRange, 0: impl.ErrRange, 1: impl.OK, 99990: impl.OK, 99991: impl.ErrMany, 100000: impl.ErrMany, 100001: impl.ErrRange, math.MaxInt64: impl.ErrRange} {
		if got := impl.NewFs(n); got.Code != code || got.Moved {
			t.Errorf("new at %d: %+v, want the code %d", n, got, code)
		}
	}
	store := impl.Store{
		Cells:  []impl.Cell{{Key: 0, Start: 4, Value: 1}, {Key: 10, Start: 4, Value: 1000}},
		Writes: []impl.Write{{Key: 0, Commit: 5, Start: 4, Kind: 1}, {Key: 10, Commit: 5, Start: 4, Kind: 1}},
	}
	first := impl.Txn{Start: 4, Commit: 5, Until: 20, State: impl.TxnDone, At: 2, Items: items(putItem(0, 1), putItem(10, 1000))}
	f := impl.FsWorld{World: impl.World{Oracle: oracle(6, 14), Groups: cutStore(store, 1), Txns: []impl.Txn{first}}}
	checkFsWorld(t, "new", impl.NewFs(4), fsStayed(f))
	checkHistory(t, "new", impl.HistoryOf(f), history())
	checkPairs(t, "new", impl.ViewOf(f), paired(newView()...))
	checkRight(t, "new", f, true)
}

// What is started at the time 9 of madeFs, as the chapter has it of CompileFs.
func TestStartFs(t *testing.T) {
	made, with := madeFs(), carriedOut(madeFs(), fsOp(1, 2, 0))
	nine := newFs()
	for n := range int64(9) {
		nine = carriedOut(nine, fsOp(1+n/6, 0, n%6))
		if n == 5 {
			nine = carriedOut(nine, fsOp(3, 0, 0), fsOp(3, 0, 1), fsOp(3, 0, 2))
		}
	}
	for _, c := range []struct {
		name         string
		f            impl.FsWorld
		o            impl.FsOp
		reply, value int64
		items        []impl.Item
	}{
		{"a file", made, fsOp(1, 2, 0), impl.OK, 3, items(putItem(0, 4), putItem(13, 2001), putItem(40, 3), lockItem(12))},
		{"a directory", made, fsOp(2, 0, 5), impl.OK, 3, items(putItem(0, 4), putItem(13, 1000), putItem(25, 3), lockItem(10))},
		{"a file is removed", made, fsOp(3, 0, 1), impl.OK, 0, items(deleteItem(21), deleteItem(11), deleteItem(181), lockItem(10))},
		{"a directory is removed", made, fsOp(3, 0, 2), impl.OK, 0, items(deleteItem(22), deleteItem(12), lockItem(10), lockItem(40), lockItem(41), lockItem(42), lockItem(43), lockItem(44), lockItem(45))},
		{"a file is moved", made, fsOp(4, 0, 1, 2, 3), impl.OK, 0, items(deleteItem(21), putItem(43, 1), lockItem(10), lockItem(11), lockItem(12))},
		{"a directory is moved", made, fsOp(4, 0, 2, 0, 0), impl.OK, 0, items(deleteItem(22), putItem(20, 2), lockItem(10), lockItem(12))},
		{"a file is linked", made, fsOp(5, 0, 1, 2, 3), impl.OK, 0, items(putItem(11, 2002), putItem(43, 1), lockItem(10), lockItem(21), lockItem(12))},
		{"a file is written", made, fsOp(6, 0, 1, 66), impl.OK, 0, items(putItem(181, 66), lockItem(10), lockItem(21), lockItem(11))},
		{"what is there is written", made, fsOp(6, 0, 1, 55), impl.OK, 0, items(putItem(181, 55), lockItem(10), lockItem(21), lockItem(11))},
		{"a file is read", made, fsOp(7, 0, 1), impl.OK, 55, nil}, {"a file is looked at", made, fsOp(8, 0, 1), impl.OK, 2001, nil}, {"a directory is looked at", made, fsOp(8, 0, 2), impl.OK, 1000, nil},
		{"a file without bytes is read", with, fsOp(7, 2, 0), impl.OK, 0, nil},
		{"it is there", made, fsOp(1, 0, 1), impl.ErrTaken, 0, nil}, {"there is none", made, fsOp(3, 0, 3), impl.ErrNone, 0, nil}, {"no directory", made, fsOp(1, 1, 0), impl.ErrDir, 0, nil}, {"a directory elsewhere", made, fsOp(4, 0, 2, 2, 0), impl.ErrState, 0, nil},
		{"a directory is linked", made, fsOp(5, 0, 2, 0, 3), impl.ErrDir, 0, nil}, {"a directory is read", made, fsOp(7, 0, 2), impl.ErrDir, 0, nil}, {"it is not empty", with, fsOp(3, 0, 2), impl.ErrForm, 0, nil}, {"no more inodes", nine, fsOp(1, 7, 0), impl.ErrMany, 0, nil},
	} {
		ts := c.f.World.Oracle.Next
		run := impl.Run{Op: c.o, Place: -1, Ts: ts, Reply: c.reply, Value: c.value}
		next := changedFs(c.f, func(f *impl.FsWorld) {
			f.World.Oracle = wantGranted(f.World.Oracle).Oracle
			if c.items != nil {
				run.Place = int64(len(f.World.Txns))
				f.World.Txns = append(f.World.Txns, impl.Txn{Start: ts, Until: 20, State: impl.TxnFirst, Items: c.items})
			}
			f.Runs = append(f.Runs, run)
		})
		got := impl.StartFs(c.f, c.o)
		checkFsWorld(t, c.name, got, fsMoved(next))
		checkFsWorld(t, c.name, got, wantStartFs(c.f, c.o))
		checkRight(t, c.name, got.FsWorld, true)
		checkRight(t, c.name+", to its end", mustFs(impl.DriveFs(got.FsWorld)), true)
	}
}

// Until is Now and Patience, up to the last time.
func TestStartFsUntil(t *testing.T) {
	for _, now := range []int64{0, 1, 21, 99979, 99980, 99981, 99999, 100000} {
		f := changedFs(madeFs(), func(f *impl.FsWorld) { f.World.Now = now })
		for _, o := range []impl.FsOp{fsOp(1, 0, 0), fsOp(8, 0, 1)} {
			checkFsWorld(t, fmt.Sprintf("now %d", now), impl.StartFs(f, o), wantStartFs(f, o))
		}
		if got := impl.StartFs(f, fsOp(1, 0, 0)).FsWorld.World.Txns[4].Until; got != min(now+20, 100000) {
			t.Errorf("now %d: until %d", now, got)
		}
	}
}

// lockedFs has a write of the file 1 at the time 9, which may be waited for until 20; its bytes are locked.
func lockedFs() impl.FsWorld { return stepped(started(madeFs(), fsOp(6, 0, 1, 66)), 4, 1) }

// manyFs has n transactions that are at their end.
func manyFs(n int) impl.FsWorld {
	f := madeFs()
	for len(f.World.Txns) < n {
		f = carriedOut(f, fsOp(6, 0, 1, int64(len(f.World.Txns))))
	}
	return f
}

// withNext has the oracle granted up to next.
func withNext(f impl.FsWorld, next, bound int64) impl.FsWorld {
	return changedFs(f, func(f *impl.FsWorld) { f.World.Oracle = oracle(next, bound) })
}

// Each code of StartFs, and two that would be so at once.
func TestStartFsCodes(t *testing.T) {
	make0, look1, wrong, far := fsOp(1, 0, 0), fsOp(8, 0, 1), fsOp(0, 0, 0), fsOp(1, 10, 0)
	made, locked, many := madeFs(), lockedFs(), manyFs(16)
	atEnd := func(f impl.FsWorld) impl.FsWorld { return withNext(f, 100000, 100000) }
	lockedMany := stepped(started(manyFs(15), fsOp(6, 0, 1, 5)), 15, 1)
	badRun := changedFs(made, func(f *impl.FsWorld) { f.Runs[0].Reply = 11 })
	for _, c := range []struct {
		name string
		f    impl.FsWorld
		o    impl.FsOp
		code int64
	}{
		{"it is no operation", made, wrong, impl.ErrForm}, {"its Dir is none", made, far, impl.ErrRange}, {"a Value that is not its own", made, fsOp(1, 0, 0, 5), impl.ErrForm},
		{"29 runs", readingFs(made, 26), make0, impl.OK}, {"29 runs, and it reads", readingFs(made, 26), look1, impl.OK}, {"30 runs", readingFs(made, 27), make0, impl.ErrMany}, {"30 runs, and it reads", readingFs(made, 27), look1, impl.ErrMany},
		{"15 transactions", manyFs(15), make0, impl.OK}, {"16", many, make0, impl.ErrMany}, {"16, and it reads", many, look1, impl.OK}, {"16, and it finds a Reply", many, fsOp(1, 0, 1), impl.OK},
		{"no time is left", atEnd(made), make0, impl.ErrMany}, {"no time is left, and it reads", atEnd(made), look1, impl.ErrMany}, {"a lease too many", withNext(made, 99991, 99991), look1, impl.ErrMany}, {"the last lease", withNext(made, 99990, 99990), make0, impl.OK},
		{"the last time", withNext(made, 99999, 100000), look1, impl.OK}, {"the last time, and it writes", withNext(made, 99999, 100000), make0, impl.OK}, {"below a bound", withNext(made, 99995, 99999), make0, impl.OK},
		{"locked", locked, make0, impl.ErrLocked}, {"locked, and it reads", locked, look1, impl.ErrLocked}, {"locked, and it finds a Reply", locked, fsOp(1, 0, 1), impl.ErrLocked},
		{"a fault, and no operation", badRun, wrong, impl.ErrRange}, {"a fault, and 30 runs", changedFs(readingFs(made, 27), func(f *impl.FsWorld) { f.Runs[29].Op.Kind = 9 }), make0, impl.ErrForm}, {"a fault, and locked", changedFs(locked, func(f *impl.FsWorld) { f.Runs[0].Op.Kind = 9 }), make0, impl.ErrForm},
		{"no operation, and 30 runs", readingFs(made, 27), wrong, impl.ErrForm}, {"no operation, and locked", locked, far, impl.ErrRange}, {"no operation, and no time", atEnd(made), far, impl.ErrRange}, {"no operation, and 16", many, wrong, impl.ErrForm},
		{"30 runs, and locked", readingFs(locked, 26), look1, impl.ErrMany}, {"30 runs, and a file that is there", readingFs(made, 27), fsOp(1, 0, 1), impl.ErrMany},
		{"no time, and locked", atEnd(locked), look1, impl.ErrMany}, {"locked, and 16", lockedMany, make0, impl.ErrLocked}, {"locked no more, and 16", laterFs(lockedMany, 21), make0, impl.ErrMany}, {"locked no more, and 16, and it reads", laterFs(lockedMany, 21), look1, impl.OK},
	} {
		kept := copyFs(c.f)
		got := impl.StartFs(c.f, c.o)
		checkFsWorld(t, c.name, got, wantStartFs(c.f, c.o))
		if got.Code != c.code || got.Moved != (c.code == impl.OK) {
			t.Errorf("%s: %+v, want the code %d", c.name, got, c.code)
		}
		if !equalFsWorlds(kept, c.f) {
			t.Errorf("%s: the file system changed", c.name)
		}
	}
}

// lockedAt has a lock more, and the next time is 50; a put has its cell.
func lockedAt(key, start, kind, primary, until int64) impl.FsWorld {
	return withStore(withNext(madeFs(), 50, 55), func(s impl.Store) impl.Store { return held(s, key, start, kind, primary, until) })
}

func withStore(f impl.FsWorld, change func(s impl.Store) impl.Store) impl.FsWorld {
	return changedFs(f, func(f *impl.FsWorld) {
		f.World.Groups = inRanges(change(wantUnionOf(f.World.Groups)), f.World.Groups.Ranges)
	})
}

// A lock of any key, ahead of the time that is read at, at it and behind it, and ahead of the time until which it may be waited for and behind that.
func TestStartFsMeetsALock(t *testing.T) {
	for _, k := range allKeys() {
		for _, start := range []int64{1, 49, 50, 51, 99000} {
			for _, now := range []int64{0, 6, 7, 8, 100000} {
				f := changedFs(lockedAt(k.key, start, impl.WriteDelete, k.key, 7), func(f *impl.FsWorld) { f.World.Now = now })
				if start == 1 && wantStatus(wantUnionOf(f.World.Groups), k.key, 1) != 1 {
					continue // it was done at that time
				}
				want := int64(impl.OK)
				if start <= 50 && now <= 7 {
					want = impl.ErrLocked
				}
				for _, o := range []impl.FsOp{fsOp(8, 0, 1), fsOp(1, 2, 0)} {
					got := impl.StartFs(f, o)
					if got.Code != want {
						t.Fatalf("a lock of %d at %d, now %d: %+v, want the code %d", k.key, start, now, got, want)
					}
					if all := impl.UnionOf(got.FsWorld.World.Groups).Store; want == impl.OK && (len(all.Locks) == 0) != (start <= 50) {
						t.Fatalf("a lock of %d at %d, now %d: %+v then", k.key, start, now, all)
					}
					if k.key%7 == 0 {
						checkFsWorld(t, "a lock", got, wantStartFs(f, o))
					}
				}
			}
		}
	}
}

// What it meets is resolved, and the groups are as they are then, cut as they were; the value is what there is at its time.
func TestStartFsResolves(t *testing.T) {
	read := fsOp(7, 0, 1)
	done := withStore(lockedAt(181, 30, impl.WritePut, 25, 1000), func(s impl.Store) impl.Store { return wrote(s, 25, 40, 30, impl.WriteLock) })
	back := withStore(lockedAt(181, 30, impl.WritePut, 25, 1000), func(s impl.Store) impl.Store { return wrote(s, 25, 30, 30, impl.WriteBack) })
	both := withStore(lockedAt(181, 30, impl.WritePut, 25, 7), func(s impl.Store) impl.Store { return held(s, 25, 30, impl.WriteLock, 25, 7) })
	late := withStore(lockedAt(181, 30, impl.WritePut, 25, 1000), func(s impl.Store) impl.Store { return wrote(s, 25, 60, 30, impl.WriteLock) })
	taken := withStore(lockedAt(181, 30, impl.WritePut, 181, 7), func(s impl.Store) impl.Store { return wrote(s, 181, 30, 29, impl.WriteLock) })
	full := withStore(both, func(s impl.Store) impl.Store { return crowded(s, 200) })
	room := withStore(both, func(s impl.Store) impl.Store { return crowded(s, 198) })
	one := withStore(both, func(s impl.Store) impl.Store { return crowded(s, 199) })
	for _, c := range []struct {
		name             string
		f                impl.FsWorld
		now, code, value int64
	}{
		{"its primary is done", done, 0, impl.OK, 1181}, {"done at a time behind it", late, 0, impl.OK, 55}, {"taken back", back, 0, impl.OK, 55}, {"both locked", both, 7, impl.ErrLocked, 0}, {"both locked, and over", both, 8, impl.OK, 55},
		{"that time is taken", taken, 8, impl.ErrTaken, 0}, {"that time is taken, and locked", taken, 7, impl.ErrLocked, 0}, {"no room", full, 8, impl.ErrMany, 0}, {"room for one", one, 8, impl.ErrMany, 0}, {"room for both", room, 8, impl.OK, 55}, {"no room, and locked", full, 7, impl.ErrLocked, 0},
	} {
		for _, cuts := range [][]int64{nil, {43}, {10, 20, 25, 180, 181}} {
			f := changedFs(c.f, func(f *impl.FsWorld) {
				f.World.Now, f.World.Groups = c.now, cutStore(wantUnionOf(c.f.World.Groups), 3, cuts...)
			})
			got := impl.StartFs(f, read)
			checkFsWorld(t, c.name, got, wantStartFs(f, read))
			if got.Code != c.code {
				t.Errorf("%s: %+v, want the code %d", c.name, got, c.code)
				continue
			}
			if c.code != impl.OK {
				continue
			}
			if run := got.FsWorld.Runs[3]; run != (impl.Run{Op: read, Place: -1, Ts: 50, Value: c.value}) || got.FsWorld.World.Oracle != oracle(51, 55) || got.FsWorld.World.Now != c.now {
				t.Errorf("%s: %+v", c.name, got)
			}
			if then := got.FsWorld.World.Groups; !slices.Equal(then.Ranges, f.World.Groups.Ranges) || len(impl.UnionOf(then).Store.Locks) != 0 {
				t.Errorf("%s: the groups are %+v then", c.name, then)
			}
			checkFsWorld(t, c.name+", and it writes", impl.StartFs(f, fsOp(5, 0, 1, 2, 2)), wantStartFs(f, fsOp(5, 0, 1, 2, 2)))
		}
	}
}

// The oracle behind one that is started is one further, also where it needs a lease, and where it crashed.
func TestStartFsGrantsATime(t *testing.T) {
	for _, o := range []struct{ from, then impl.Oracle }{
		{oracle(9, 11), oracle(10, 11)}, {oracle(10, 11), oracle(11, 11)}, {oracle(11, 11), oracle(12, 21)}, {oracle(30, 100000), oracle(31, 100000)}, {oracle(99990, 99990), oracle(99991, 100000)}, {oracle(99999, 100000), oracle(100000, 100000)},
	} {
		f := withNext(madeFs(), o.from.Next, o.from.Bound)
		for _, op := range []impl.FsOp{fsOp(8, 0, 1), fsOp(8, 0, 5), fsOp(6, 0, 1, 7)} {
			got := impl.StartFs(f, op)
			if got.Code != impl.OK || got.FsWorld.World.Oracle != o.then || got.FsWorld.Runs[3].Ts != o.from.Next {
				t.Errorf("from %+v: %+v", o.from, got)
			}
		}
	}
	f := madeFs()
	f = changedFs(f, worldOf(impl.FallWorld(f.World)))
	if got := impl.StartFs(f, fsOp(8, 0, 1)); got.FsWorld.Runs[3].Ts != 11 || got.FsWorld.World.Oracle != oracle(12, 21) {
		t.Errorf("behind a crash: %+v", got)
	}
}

func TestStepFs(t *testing.T) {
	used := usedFs()
	for place, moves := range []bool{false, false, false, false, false, false, false, false, true} {
		got := impl.StepFs(used, int64(place))
		checkFsWorld(t, fmt.Sprintf("a step of %d", place), got, wantStepFs(used, int64(place)))
		if got.Moved != moves || equalFsWorlds(got.FsWorld, used) == moves || !slices.Equal(got.FsWorld.Runs, used.Runs) {
			t.Errorf("a step of %d: %+v", place, got)
		}
	}
	for _, place := range []int64{-1, 9, 10, 16, math.MinInt64, math.MaxInt64} {
		checkFsWorld(t, fmt.Sprintf("a step of %d", place), impl.StepFs(used, place), noFsWorld(impl.ErrRange))
	}
	for _, c := range wrongFsWorlds() {
		for _, place := range []int64{-1, 0, 8, 9} {
			checkFsWorld(t, c.name, impl.StepFs(c.f, place), noFsWorld(c.code))
		}
	}
	f := started(madeFs(), fsOp(1, 2, 0), fsOp(8, 0, 1))
	for n := range 20 {
		got := impl.StepFs(f, 4)
		checkFsWorld(t, "step by step", got, wantStepFs(f, 4))
		if got.Moved != (n < 10) {
			t.Errorf("the step %d: %+v", n, got)
		}
		f = got.FsWorld
	}
	checkHistory(t, "done", impl.HistoryOf(f), history(done(0, 4), done(1, 6), done(2, 8), done(4, 10), done(3, 11)))
	waits := stepped(started(madeFs(), fsOp(6, 0, 1, 66), fsOp(6, 0, 1, 77)), 4, 1)
	checkFsWorld(t, "it waits", impl.StepFs(waits, 5), fsStayed(waits))
}

func TestDriveFs(t *testing.T) {
	for _, c := range []struct {
		name  string
		f     impl.FsWorld
		moves bool
		live  int64
		now   int64
	}{
		{"none but the first one", newFs(), false, 0, 0}, {"all are over", madeFs(), false, 0, 0}, {"all are over, later", laterFs(madeFs(), 99), false, 0, 99}, {"one", started(madeFs(), fsOp(1, 0, 0)), true, 0, 0}, {"one that reads", started(madeFs(), fsOp(8, 0, 1)), false, 0, 0},
		{"many, each of which waits for another one", started(madeFs(), fsOp(1, 0, 0), fsOp(3, 0, 1), fsOp(6, 0, 1, 5), fsOp(1, 0, 0), fsOp(4, 0, 1, 2, 2)), true, 0, 21},
		{"used", usedFs(), true, 0, 5}, {"behind one that left", leftFs(stepped(started(madeFs(), fsOp(6, 0, 1, 66), fsOp(6, 0, 1, 77)), 4, 2), 4), true, 0, 21},
		{"all left", leftFs(started(madeFs(), fsOp(6, 0, 1, 66)), 4), false, 0, 0},
		{"time is at its end", changedFs(leftFs(stepped(started(laterFs(madeFs(), 21), fsOp(6, 0, 1, 66), fsOp(6, 0, 1, 77)), 4, 1), 4), func(f *impl.FsWorld) {
			f.World.Now = 99990
			f.World.Groups = inRanges(withUntil(wantUnionOf(f.World.Groups), 100000), f.World.Groups.Ranges)
		}), false, 1, 99990},
		{"time comes to its end", changedFs(leftFs(stepped(started(madeFs(), fsOp(6, 0, 1, 66), fsOp(6, 0, 1, 77)), 4, 1), 4), func(f *impl.FsWorld) {
			f.World.Now = 99970
			f.World.Groups = inRanges(withUntil(wantUnionOf(f.World.Groups), 100000), f.World.Groups.Ranges)
		}), false, 1, 99991},
		{"no time is granted any more", withNext(started(madeFs(), fsOp(1, 0, 0)), 100000, 100000), true, 0, 0},
	} {
		got := impl.DriveFs(c.f)
		checkFsWorld(t, c.name, got, wantDriveFs(c.f))
		if live := impl.LiveTxns(got.FsWorld.World).Value; got.Code != impl.OK || got.Moved != c.moves || live != c.live || got.FsWorld.World.Now != c.now || !slices.Equal(got.FsWorld.Runs, c.f.Runs) {
			t.Errorf("%s: %+v, of which %d are live", c.name, got, live)
		}
		checkRight(t, c.name, got.FsWorld, true)
		if again := impl.DriveFs(got.FsWorld); c.live == 0 {
			checkFsWorld(t, c.name+", again", again, fsStayed(got.FsWorld))
		}
	}
	for _, c := range wrongFsWorlds() {
		checkFsWorld(t, c.name, impl.DriveFs(c.f), noFsWorld(c.code))
	}
}

func withUntil(s impl.Store, until int64) impl.Store {
	s = copyStore(s)
	for i := range s.Locks {
		s.Locks[i].Until = until
	}
	return s
}

// The document's example: two make the same name at once; however their steps fall, one is done, and the other one is taken back.
func TestTwoMakeTheSameName(t *testing.T) {
	from := started(newFs(), fsOp(1, 0, 1), fsOp(1, 0, 1))
	if runs := from.Runs; runs[0] != (impl.Run{Op: fsOp(1, 0, 1), Place: 1, Ts: 3, Value: 1}) || runs[1] != (impl.Run{Op: fsOp(1, 0, 1), Place: 2, Ts: 4, Value: 1}) {
		t.Errorf("both find the same: %+v", runs)
	}
	ends, seen := map[int64]int{}, map[string]int{}
	var visit func(f impl.FsWorld)
	visit = func(f impl.FsWorld) {
		told := toldWorld(f.World)
		if seen[told]++; seen[told] > 1 {
			return
		}
		checkRight(t, "two make the same name", f, true)
		if impl.LiveTxns(f.World).Value > 0 {
			for place := int64(1); place <= 2; place++ {
				visit(mustFs(impl.StepFs(f, place)))
			}
			return
		}
		dones := impl.HistoryOf(f).Dones
		if len(dones) == 0 { // each met the other one
			t.Fatalf("none is done: %+v", f)
		}
		winner := dones[0].Place
		if len(dones) != 1 || f.World.Txns[1+winner].State != impl.TxnDone || f.World.Txns[2-winner].State != impl.TxnGone {
			t.Fatalf("%+v are done of %+v", dones, f)
		}
		checkPairs(t, "one is done", impl.ViewOf(f), paired(pair(0, 2), pair(10, 1000), pair(11, 2001), pair(21, 1)))
		ends[winner]++
	}
	visit(from)
	if ends[0] == 0 || ends[1] == 0 || len(seen) < 50 {
		t.Errorf("the first one and the second one are done: %v, of %d", ends, len(seen))
	}
	driven := mustFs(impl.DriveFs(from))
	again := started(driven, fsOp(1, 0, 1), fsOp(8, 0, 1))
	if again.Runs[2].Reply != impl.ErrTaken || again.Runs[3].Value != 2001 {
		t.Errorf("made already: %+v", again.Runs)
	}
	checkRight(t, "made already", again, true)
}

// One leaves behind each of its steps: ahead of its primary's commit its run does not count, behind it it does; whoever comes later finds so.
func TestLeftAheadOfItsCommitAndBehindIt(t *testing.T) {
	for _, c := range []struct {
		o     impl.FsOp
		items int
		now   int64 // what a look at the name 1 of the directory 2 finds then; ahead of it there is none
	}{
		{fsOp(1, 2, 1), 4, 2001}, {fsOp(2, 2, 1), 4, 1000}, {fsOp(5, 0, 1, 2, 1), 5, 2002}, {fsOp(4, 0, 1, 2, 1), 5, 2001},
	} {
		begun := started(madeFs(), c.o)
		for n := range 2*c.items + 2 {
			f := leftFs(stepped(begun, 4, n), 4)
			counts := n >= c.items+2
			want := []impl.Done{done(0, 4), done(1, 6), done(2, 8)}
			if counts {
				want = append(want, done(3, 10))
			}
			for _, n := range []int64{0, 20, 21} {
				later := laterFs(f, n)
				checkHistory(t, "left", impl.HistoryOf(later), history(want...))
				checkRight(t, "left", later, true)
			}
			locked := len(impl.UnionOf(f.World.Groups).Store.Locks) > 0
			for n, waits := range map[int64]bool{0: locked && !counts, 20: locked && !counts, 21: false} {
				later := impl.StartFs(laterFs(f, n), fsOp(8, 2, 1))
				if waits {
					checkFsWorld(t, "it waits", later, noFsWorld(impl.ErrLocked))
					continue
				}
				run := mustFs(later).Runs[4]
				if counts && run.Value != c.now || !counts && (run.Reply != impl.ErrNone || run.Value != 0) || len(impl.UnionOf(later.FsWorld.World.Groups).Store.Locks) != 0 {
					t.Errorf("%+v left behind %d steps, %d later: %+v", c.o, n, n, later)
				}
				checkHistory(t, "met", impl.HistoryOf(later.FsWorld), history(append(slices.Clone(want), done(4, run.Ts))...))
				checkRight(t, "met", later.FsWorld, true)
			}
			driven := mustFs(impl.DriveFs(laterFs(f, 21)))
			checkHistory(t, "driven", impl.HistoryOf(driven), history(want...))
		}
	}
}

// doneFs has runs in place of madeFs' own: each has a Place and a Ts; the transactions 0 to 3 are done at 2, 4, 6 and 8.
func doneFs(list ...[2]int64) impl.FsWorld {
	return changedFs(madeFs(), func(f *impl.FsWorld) {
		f.Runs = nil
		for _, at := range list {
			f.Runs = append(f.Runs, impl.Run{Op: fsOp(8, 0, 0), Place: at[0], Ts: at[1]})
		}
	})
}

func TestHistoryOf(t *testing.T) {
	used := usedFs()
	for _, c := range []struct {
		name string
		f    impl.FsWorld
		want []impl.Done
	}{
		{"new", newFs(), nil}, {"no runs", doneFs(), nil}, {"no transactions", impl.FsWorld{World: impl.World{Oracle: oracle(9, 9), Groups: cutStore(impl.Store{}, 1)}}, nil}, {"made", madeFs(), []impl.Done{done(0, 4), done(1, 6), done(2, 8)}},
		{"used", used, []impl.Done{done(0, 4), done(1, 6), done(2, 8), done(3, 9), done(4, 10), done(5, 13), done(8, 17)}},
		{"those that read alone", doneFs([2]int64{-1, 5}, [2]int64{-1, 3}, [2]int64{-1, 7}), []impl.Done{done(1, 3), done(0, 5), done(2, 7)}}, {"falling", doneFs([2]int64{3, 8}, [2]int64{2, 8}, [2]int64{1, 8}, [2]int64{0, 8}), []impl.Done{done(3, 2), done(2, 4), done(1, 6), done(0, 8)}},
		{"two of one Ts", doneFs([2]int64{-1, 5}, [2]int64{-1, 5}), []impl.Done{done(0, 5), done(1, 5)}}, {"two of one Ts, and one between", doneFs([2]int64{-1, 5}, [2]int64{-1, 3}, [2]int64{-1, 5}), []impl.Done{done(1, 3), done(0, 5), done(2, 5)}},
		{"two of one Place", doneFs([2]int64{2, 1}, [2]int64{1, 1}, [2]int64{2, 7}), []impl.Done{done(1, 4), done(0, 6), done(2, 6)}}, {"a Ts that is a Commit", doneFs([2]int64{-1, 6}, [2]int64{2, 5}, [2]int64{-1, 6}), []impl.Done{done(0, 6), done(1, 6), done(2, 6)}},
		{"all of one time", doneFs([2]int64{2, 1}, [2]int64{-1, 6}, [2]int64{2, 8}, [2]int64{-1, 6}, [2]int64{2, 2}), []impl.Done{done(0, 6), done(1, 6), done(2, 6), done(3, 6), done(4, 6)}},
		{"the first transaction", doneFs([2]int64{0, 8}), []impl.Done{done(0, 2)}}, {"the Ts of one that writes says nothing", doneFs([2]int64{3, 1}, [2]int64{-1, 7}), []impl.Done{done(1, 7), done(0, 8)}},
		{"the state says nothing", changedFs(madeFs(), func(f *impl.FsWorld) { f.World.Txns[2].State = impl.TxnGone }), []impl.Done{done(0, 4), done(1, 6), done(2, 8)}}, {"nor its own Commit", changedFs(madeFs(), func(f *impl.FsWorld) { f.World.Txns[2].Commit = 8 }), []impl.Done{done(0, 4), done(1, 6), done(2, 8)}},
		{"one that is not done", changedFs(used, func(f *impl.FsWorld) { f.Runs = f.Runs[6:8] }), nil}, {"none is done", started(newFs(), fsOp(1, 0, 0), fsOp(1, 0, 1)), nil},
		{"the store's Commit", withStore(madeFs(), func(s impl.Store) impl.Store {
			s = copyStore(s)
			for i := range s.Writes {
				if s.Writes[i].Start == 5 {
					s.Writes[i].Commit = 99999
				}
			}
			return sorted(s)
		}), []impl.Done{done(0, 4), done(2, 8), done(1, 99999)}},
	} {
		kept := copyFs(c.f)
		checkHistory(t, c.name, impl.HistoryOf(c.f), history(c.want...))
		checkHistory(t, c.name+", by the tests", wantHistory(c.f), history(c.want...))
		checkTold(t, c.name, c.f)
		if !equalFsWorlds(kept, c.f) {
			t.Errorf("%s: the file system changed", c.name)
		}
	}
	var many [][2]int64
	for n := range int64(30) {
		many = append(many, [2]int64{-1 + n%5, 1 + (n*7)%8})
	}
	checkTold(t, "30 runs", doneFs(many...))
	for _, c := range wrongFsWorlds() {
		checkHistory(t, c.name, impl.HistoryOf(c.f), noHistory(c.code))
	}
}

func sorted(s impl.Store) impl.Store {
	sortStore(s)
	return s
}

func TestViewOf(t *testing.T) {
	for _, c := range []struct {
		name string
		f    impl.FsWorld
		want []impl.Pair
	}{
		{"new", newFs(), newView()}, {"no transactions", impl.FsWorld{World: impl.World{Oracle: oracle(9, 9), Groups: cutStore(impl.Store{}, 1)}}, nil},
		{"made", madeFs(), pairs(pair(0, 3), pair(10, 1000), pair(11, 2001), pair(12, 1000), pair(21, 1), pair(22, 2), pair(181, 55))},
		{"the runs say nothing", doneFs(), pairs(pair(0, 3), pair(10, 1000), pair(11, 2001), pair(12, 1000), pair(21, 1), pair(22, 2), pair(181, 55))},
		{"used", usedFs(), pairs(pair(0, 5), pair(10, 1000), pair(11, 2001), pair(12, 1000), pair(13, 2001), pair(14, 2001), pair(21, 1), pair(22, 2), pair(40, 3), pair(44, 4), pair(181, 55))},
		{"one is begun", started(newFs(), fsOp(1, 0, 0)), newView()}, {"one is done at the last time", withStore(madeFs(), func(s impl.Store) impl.Store {
			s = copyStore(s)
			for i := range s.Writes {
				if s.Writes[i].Start == 7 {
					s.Writes[i].Commit = 100000
				}
			}
			return sorted(s)
		}), pairs(pair(0, 3), pair(10, 1000), pair(11, 2001), pair(12, 1000), pair(21, 1), pair(22, 2), pair(181, 55))},
	} {
		checkPairs(t, c.name, impl.ViewOf(c.f), paired(c.want...))
		checkPairs(t, c.name+", by the tests", wantViewOf(c.f), paired(c.want...))
	}
	for _, c := range rightFsWorlds() {
		checkPairs(t, c.name, impl.ViewOf(c.f), wantViewOf(c.f))
	}
	for _, c := range wrongFsWorlds() {
		checkPairs(t, c.name, impl.ViewOf(c.f), noPairs(c.code))
	}
}

// Bent in one place: right is what was answered as if one had come behind the other, and all of what there is.
func TestHistoryRight(t *testing.T) {
	used := usedFs()
	checkRight(t, "used", used, true)
	bent := func(name string, right bool, change func(f *impl.FsWorld)) {
		t.Helper()
		checkRight(t, name, changedFs(used, change), right)
	}
	counted := map[int]bool{0: true, 1: true, 2: true, 3: true, 4: true, 5: true, 8: true}
	for at := range used.Runs {
		name := fmt.Sprintf("the run %d, ", at)
		for _, n := range []int64{0, 1, 2, 3, 6, 9, 10} {
			bent(name+"a Reply", !counted[at] || used.Runs[at].Reply == n, func(f *impl.FsWorld) { f.Runs[at].Reply = n })
		}
		for _, n := range []int64{0, 1, 2, 3, 4, 54, 55, 56, 9999} {
			bent(name+"a Value", !counted[at] || used.Runs[at].Value == n, func(f *impl.FsWorld) { f.Runs[at].Value = n })
		}
		bent(name+"it is gone", !counted[at] || at == 3 || at == 4, func(f *impl.FsWorld) { f.Runs = slices.Delete(f.Runs, at, at+1) })
		bent(name+"it is there twice", !counted[at] || at >= 2 && at <= 4, func(f *impl.FsWorld) { f.Runs = append(f.Runs, f.Runs[at]) })
		bent(name+"another operation", !counted[at], func(f *impl.FsWorld) { f.Runs[at].Op = fsOp(2, 0, 4) })
	}
	for ts, right := range map[int64]bool{1: false, 3: false, 7: false, 8: true, 9: true, 12: true, 16: true, 17: true} {
		bent(fmt.Sprintf("read at %d", ts), right, func(f *impl.FsWorld) { f.Runs[3].Ts = ts })
	}
	for ts, right := range map[int64]bool{1: false, 3: false, 4: true, 5: true, 17: true} {
		bent(fmt.Sprintf("it is there at %d", ts), right, func(f *impl.FsWorld) { f.Runs[4].Ts = ts })
	}
	for at := range used.Runs {
		if used.Runs[at].Place >= 0 {
			bent("the Ts of one that writes", true, func(f *impl.FsWorld) { f.Runs[at].Ts = 17 })
		}
	}
	for _, c := range []struct {
		at    int
		place int64
		right bool
	}{
		{0, -1, true}, {0, 0, true}, {0, 2, true}, {0, 3, false}, {0, 5, false}, {0, 8, false}, {1, 0, false}, {1, 1, true}, {1, 4, true}, {1, 7, false}, {2, -1, true}, {2, 1, true}, {2, 0, false}, {2, 4, false}, {2, 6, false}, {5, -1, true}, {5, 7, true}, {5, 3, true}, {5, 1, false}, {8, 4, true}, {8, 3, false},
		{3, 2, false}, {3, 3, true}, {3, 4, true}, {3, 5, true}, {3, 1, false}, {6, 4, false}, {6, 8, true}, {7, -1, false}, {9, -1, false}, {9, 6, true}, {9, 5, true},
	} {
		bent(fmt.Sprintf("the run %d is of the transaction %d", c.at, c.place), c.right, func(f *impl.FsWorld) { f.Runs[c.at].Place = c.place })
	}
}

// The start is what the first transaction would have made: of a whole tree asks who does something to it, and nobody else.
func TestHistoryRightOfTheFirst(t *testing.T) {
	fresh, used := newFs(), usedFs()
	checkRight(t, "new", fresh, true)
	for _, c := range []struct {
		name   string
		runs   bool // so where there are any
		change func(f *impl.FsWorld)
	}{
		{"as it was", true, func(f *impl.FsWorld) {}}, {"the next inode 5", false, func(f *impl.FsWorld) { f.World.Txns[0].Items[0].Value = 5 }}, {"the next inode 0", false, func(f *impl.FsWorld) { f.World.Txns[0].Items[0].Value = 0 }}, {"the next inode 11", false, func(f *impl.FsWorld) { f.World.Txns[0].Items[0].Value = 11 }},
		{"the root is a file", false, func(f *impl.FsWorld) { f.World.Txns[0].Items[1].Value = 2001 }}, {"the root is nothing", false, func(f *impl.FsWorld) { f.World.Txns[0].Items[1].Value = 999 }}, {"no root", false, func(f *impl.FsWorld) { f.World.Txns[0].Items, f.World.Txns[0].At = f.World.Txns[0].Items[:1], 1 }},
		{"the root is deleted", false, func(f *impl.FsWorld) { f.World.Txns[0].Items[1] = deleteItem(10) }}, {"all is locked alone", false, func(f *impl.FsWorld) { f.World.Txns[0].Items = items(lockItem(0), lockItem(10)) }}, {"a lock more", true, func(f *impl.FsWorld) { f.World.Txns[0].Items = append(f.World.Txns[0].Items, lockItem(25)) }},
		{"a file more", false, func(f *impl.FsWorld) {
			f.World.Txns[0].Items = items(putItem(0, 2), putItem(10, 1000), putItem(11, 2001), putItem(25, 1))
		}},
		{"a file without an entry", false, func(f *impl.FsWorld) {
			f.World.Txns[0].Items = items(putItem(0, 2), putItem(10, 1000), putItem(11, 2001))
		}},
		{"in another order", true, func(f *impl.FsWorld) { slices.Reverse(f.World.Txns[0].Items) }},
		{"another state", true, func(f *impl.FsWorld) { f.World.Txns[0].State = impl.TxnLeft }},
	} {
		checkRight(t, c.name, changedFs(fresh, c.change), true)
		checkRight(t, c.name+", used", changedFs(used, c.change), c.runs)
	}
	checkRight(t, "another one is the first", changedFs(used, func(f *impl.FsWorld) {
		f.World.Txns[0], f.World.Txns[1] = f.World.Txns[1], f.World.Txns[0]
		f.Runs[0].Place = 0
	}), false)
	for _, c := range wrongFsWorlds() {
		if impl.HistoryRight(c.f) {
			t.Errorf("%s: the history is right", c.name)
		}
	}
}

// begunOf has a transaction for each list of items, in their order; none is a step further.
func begunOf(lists ...[]impl.Item) impl.FsWorld {
	w := impl.NewWorld(1).World
	for _, writes := range lists {
		w = impl.BeginWorld(w, nil, writes).World
	}
	return impl.FsWorld{World: w}
}

// doneOf has them done one behind the other.
func doneOf(lists ...[]impl.Item) impl.FsWorld {
	f := begunOf()
	for _, writes := range lists {
		f.World = impl.DriveWorld(impl.BeginWorld(f.World, nil, writes).World).World
	}
	return f
}

// Without a history just two things are left to be held against each other: what the first one's items make, and what there is.
func TestHistoryRightWithoutAHistory(t *testing.T) {
	whole, entry, locks := items(putItem(0, 1), putItem(10, 1000)), items(putItem(20, 1)), items(lockItem(0), lockItem(10))
	gone := begunOf(whole)
	gone.World.Txns[0].State = impl.TxnUndo
	withRun := func(f impl.FsWorld, run impl.Run) impl.FsWorld {
		return changedFs(f, func(f *impl.FsWorld) { f.Runs = append(f.Runs, run) })
	}
	for _, c := range []struct {
		name  string
		f     impl.FsWorld
		right bool
	}{
		{"a whole tree", doneOf(whole), true}, {"a whole tree with a file", doneOf(items(putItem(0, 2), putItem(10, 1000), putItem(11, 2001), putItem(25, 1))), true},
		{"an inode alone", doneOf(items(putItem(11, 1))), true}, {"an entry alone", doneOf(entry), true}, {"another entry alone", doneOf(items(putItem(50, 1))), true}, {"bytes alone", doneOf(items(putItem(189, 9999))), true}, {"the next inode alone", doneOf(items(putItem(0, 1))), true},
		{"a root that is a file", doneOf(items(putItem(0, 1), putItem(10, 2001))), true}, {"a next inode that is none", doneOf(items(putItem(0, 11), putItem(10, 1000))), true}, {"a file without an entry", doneOf(items(putItem(0, 2), putItem(10, 1000), putItem(11, 2001))), true},
		{"locks alone", doneOf(locks), true}, {"locks alone, that are not done", begunOf(locks), true}, {"a delete alone", doneOf(items(deleteItem(10))), true}, {"a delete alone, that is not done", begunOf(items(deleteItem(10))), true},
		{"a whole tree that is not done", begunOf(whole), false}, {"an entry that is not done", begunOf(entry), false}, {"a whole tree that is taken back", impl.FsWorld{World: impl.DriveWorld(gone.World).World}, false}, {"a whole tree, left ahead of its Commit", leftFs(begunOf(whole), 0), false},
		{"a second one that is not done", changedFs(doneOf(entry), func(f *impl.FsWorld) { f.World = impl.BeginWorld(f.World, nil, whole).World }), true}, {"a second one that puts the same", doneOf(entry, entry), true}, {"a second one that locks alone", doneOf(entry, items(lockItem(20))), true}, {"a second one that deletes what is not there", doneOf(entry, items(deleteItem(21))), true},
		{"a second one that puts another value", doneOf(entry, items(putItem(20, 2))), false}, {"a second one that puts one more", doneOf(entry, items(putItem(21, 1))), false}, {"a second one that deletes it", doneOf(entry, items(deleteItem(20))), false}, {"a second one behind locks alone", doneOf(locks, entry), false}, {"the second one alone is done", stepped(begunOf(entry, items(putItem(21, 1))), 1, 4), false},
		{"no transaction", begunOf(), false}, {"no transaction, and all behind a cut", changedFs(begunOf(), func(f *impl.FsWorld) { f.World = impl.CutWorld(f.World, 20).World }), false},
		{"a run that does not count", withRun(changedFs(doneOf(entry), func(f *impl.FsWorld) { f.World = impl.BeginWorld(f.World, nil, whole).World }), impl.Run{Op: fsOp(1, 0, 0), Place: 1, Ts: 1}), true},
	} {
		if dones := impl.HistoryOf(c.f); dones.Code != impl.OK || len(dones.Dones) != 0 {
			t.Errorf("%s: %+v is the history", c.name, dones)
		}
		checkRight(t, c.name, c.f, c.right)
	}
	look := impl.Run{Op: fsOp(8, 0, 0), Ts: 2, Reply: impl.ErrNone}
	for _, place := range []int64{-1, 0} {
		look.Place = place
		checkRight(t, "one run that counts, of a whole tree", withRun(doneOf(whole), look), true)
		for _, writes := range [][]impl.Item{items(putItem(11, 1)), entry, items(putItem(0, 1), putItem(10, 2001)), items(putItem(0, 11), putItem(10, 1000)), items(putItem(10, 1000)), locks} {
			checkRight(t, "one run that counts, of no whole tree", withRun(doneOf(writes), look), false)
		}
		look.Reply = impl.OK
		checkRight(t, "one run that counts, and found something else", withRun(doneOf(whole), look), false)
		look.Reply = impl.ErrNone
	}
	checkRight(t, "one run that counts, without a transaction", withRun(changedFs(begunOf(), func(f *impl.FsWorld) { f.World.Oracle = oracle(9, 9) }), impl.Run{Op: fsOp(8, 0, 0), Place: -1, Ts: 2, Reply: impl.ErrDir}), false)
}

// What the stores have, and what the transactions have, bent in one place; all there is has to come of the history.
func TestHistoryRightOfTheStores(t *testing.T) {
	used := usedFs()
	at := func(start, key int64) func(w impl.Write) bool {
		return func(w impl.Write) bool { return w.Start == start && w.Key == key }
	}
	without := func(start, key int64) impl.FsWorld {
		return withStore(used, func(s impl.Store) impl.Store {
			s = copyStore(s)
			s.Writes = slices.DeleteFunc(s.Writes, at(start, key))
			return s
		})
	}
	with := func(start, key int64, change func(w *impl.Write)) impl.FsWorld {
		return withStore(used, func(s impl.Store) impl.Store {
			s = copyStore(s)
			change(&s.Writes[slices.IndexFunc(s.Writes, at(start, key))])
			return sorted(s)
		})
	}
	committed := func(n int64) func(w *impl.Write) { return func(w *impl.Write) { w.Commit = n } }
	for _, c := range []struct {
		name  string
		f     impl.FsWorld
		right bool
	}{
		{"the first one is not done", without(1, 0), false}, {"a make is not done", without(3, 0), false}, {"a write is not done", without(7, 181), false}, {"the last make is not done", without(15, 0), true}, {"another key of it is not done", without(7, 21), true},
		{"a make is taken back", with(3, 0, func(w *impl.Write) { w.Kind, w.Commit = impl.WriteBack, 3 }), false}, {"the last make is taken back", with(15, 0, func(w *impl.Write) { w.Kind, w.Commit = impl.WriteBack, 15 }), true},
		{"a write at a later time", with(7, 181, committed(12)), false}, {"a write at the time of a read that stands behind it", with(7, 181, committed(9)), true}, {"a make at a later time", with(3, 0, committed(7)), false}, {"the last make much later", with(15, 0, committed(99999)), true}, {"another key of it at a later time", with(7, 10, committed(99999)), true},
		{"a put is a lock alone", with(3, 0, func(w *impl.Write) { w.Kind = impl.WriteLock }), true}, {"two makes in another order", with(15, 0, committed(16)), true}, {"the last make ahead of one", withStore(with(15, 0, committed(99999)), func(s impl.Store) impl.Store {
			s = copyStore(s)
			for i := range s.Writes {
				if s.Writes[i].Key == 0 && s.Writes[i].Start == 11 {
					s.Writes[i].Commit = 100000
				}
			}
			return sorted(s)
		}), false},
		{"a cell has another value", withStore(used, func(s impl.Store) impl.Store { s = copyStore(s); s.Cells[0].Value = 9; return s }), true},
		{"a value that is written is another one", changedFs(used, func(f *impl.FsWorld) { f.World.Txns[3].Items[0].Value = 56 }), false}, {"a file that is made is a directory", changedFs(used, func(f *impl.FsWorld) { f.World.Txns[4].Items[1].Value = 1000 }), false},
		{"a lock that is a delete", changedFs(used, func(f *impl.FsWorld) { f.World.Txns[3].Items[2] = deleteItem(f.World.Txns[3].Items[2].Key) }), false}, {"a lock less", changedFs(used, func(f *impl.FsWorld) { f.World.Txns[3].Items = f.World.Txns[3].Items[:3]; f.World.Txns[3].At = 3 }), true}, {"what is not done says nothing", changedFs(used, func(f *impl.FsWorld) {
			f.World.Txns[6].Items[0].Value = 1
			f.World.Txns[8].Items = items(deleteItem(10))
		}), true},
		{"the last put of all is another one", changedFs(used, func(f *impl.FsWorld) { f.World.Txns[7].Items[2].Value = 1 }), false}, {"it puts one more", changedFs(used, func(f *impl.FsWorld) { f.World.Txns[7].Items = append(f.World.Txns[7].Items, putItem(189, 0)) }), false},
	} {
		checkRight(t, c.name, c.f, c.right)
		checkTold(t, c.name, c.f)
	}
	ghost := impl.BeginWorld(madeFs().World, nil, items(putItem(25, 1), putItem(11, 2002))).World
	checkRight(t, "one that is no run's, ahead of its end", impl.FsWorld{World: ghost, Runs: madeFs().Runs}, true)
	checkRight(t, "one that is no run's", impl.FsWorld{World: impl.DriveWorld(ghost).World, Runs: madeFs().Runs}, false)
	reader := impl.BeginWorld(madeFs().World, []int64{10, 21}, nil).World
	checkRight(t, "one that is no run's, and locks alone", impl.FsWorld{World: impl.DriveWorld(reader).World, Runs: madeFs().Runs}, true)
}

// A file system with a fault tells it, whatever else is asked of it.
func TestFsWorldsAskTheFaultFirst(t *testing.T) {
	for _, c := range wrongFsWorlds() {
		kept := copyFs(c.f)
		for _, n := range []int64{math.MinInt64, -1, 0, 1, 8, 9, 30, math.MaxInt64} {
			checkFsWorld(t, c.name, impl.StartFs(c.f, fsOp(n, n, n)), noFsWorld(c.code))
			checkFsWorld(t, c.name, impl.StartFs(c.f, fsOp(8, 0, n)), noFsWorld(c.code))
			checkFsWorld(t, c.name, impl.StepFs(c.f, n), noFsWorld(c.code))
		}
		checkFsWorld(t, c.name, impl.DriveFs(c.f), noFsWorld(c.code))
		checkHistory(t, c.name, impl.HistoryOf(c.f), noHistory(c.code))
		checkPairs(t, c.name, impl.ViewOf(c.f), noPairs(c.code))
		if impl.HistoryRight(c.f) || !equalFsWorlds(kept, c.f) {
			t.Errorf("%s: its history is right, or it changed", c.name)
		}
	}
}
