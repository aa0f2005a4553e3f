package tests

import (
	"math"
	"math/rand"
	"slices"
	"testing"

	"loop.example/g00331/impl"
)

func noRead(code int64) impl.ReadResult { return impl.ReadResult{Code: code} }

func noReads(code int64) impl.ReadAllResult { return impl.ReadAllResult{Code: code} }

// wantFateIn and the others up to wantClearIn say the chapter once more, of all stores as one: what is done to the store of a key is counted for all together.
func wantFateIn(s impl.Store, key, now int64) impl.IntResult {
	own := lockOf(s, key)
	if own == nil {
		return impl.IntResult{Code: impl.ErrNone}
	}
	until := own.Until
	switch wantStatus(s, own.Primary, own.Start) {
	case 2:
		return number(2)
	case 3:
		return number(3)
	case 1:
		until = lockOf(s, own.Primary).Until
	}
	if until < now {
		return number(3)
	}
	return number(1)
}

func wantResolveIn(s impl.Store, key, now int64) impl.StoreResult {
	fate := wantFateIn(s, key, now)
	if fate.Code != impl.OK {
		return refuse(fate.Code)
	}
	own := lockOf(s, key)
	switch fate.Value {
	case 1:
		return refuse(impl.ErrLocked)
	case 2:
		done := writeBy(s, own.Primary, func(w impl.Write) bool { return w.Start == own.Start })
		return wantCommit(s, key, own.Start, done.Commit)
	}
	first := wantRollback(s, own.Primary, own.Start)
	if first.Code != impl.OK {
		return first
	}
	return wantRollback(first.Store, key, own.Start)
}

func wantReadIn(s impl.Store, key, ts, now int64) (impl.GetResult, impl.Store) {
	if wantBlocked(s, key, ts) {
		free := wantResolveIn(s, key, now)
		if free.Code != impl.OK {
			return impl.GetResult{Code: free.Code}, impl.Store{}
		}
		s = free.Store
	}
	return wantRead(s, key, ts), s
}

func wantReadAllIn(s impl.Store, ts, now int64) (impl.ScanResult, impl.Store) {
	var all impl.ScanResult
	for _, k := range allKeys() {
		var got impl.GetResult
		if got, s = wantReadIn(s, k.key, ts, now); got.Code != impl.OK {
			return impl.ScanResult{Code: got.Code}, impl.Store{}
		}
		if got.Has {
			all.Pairs = append(all.Pairs, impl.Pair{Key: k.key, Value: got.Value})
		}
	}
	return all, s
}

func wantClearIn(s impl.Store, now int64) impl.Store {
	for _, k := range allKeys() {
		if free := wantResolveIn(s, k.key, now); free.Code == impl.OK {
			s = free.Store
		}
	}
	return s
}

// wantAskedFirst: who has no key, or no ts, tells one that is right.
func wantAskedFirst(g impl.Groups, key, ts, now int64) int64 {
	for _, code := range []int64{wantGroupsFault(g), wantFault(key)} {
		if code != impl.OK {
			return code
		}
	}
	if !within(now, 0, 100000) || !within(ts, 1, 100000) {
		return impl.ErrRange
	}
	return impl.OK
}

func wantFateOf(g impl.Groups, key, now int64) impl.IntResult {
	if code := wantAskedFirst(g, key, 1, now); code != impl.OK {
		return impl.IntResult{Code: code}
	}
	return wantFateIn(wantUnionOf(g), key, now)
}

func wantResolve(g impl.Groups, key, now int64) impl.GroupsResult {
	if code := wantAskedFirst(g, key, 1, now); code != impl.OK {
		return noGroups(code)
	}
	free := wantResolveIn(wantUnionOf(g), key, now)
	if free.Code != impl.OK {
		return noGroups(free.Code)
	}
	return grouped(inRanges(free.Store, g.Ranges))
}

func wantReadAt(g impl.Groups, key, ts, now int64) impl.ReadResult {
	if code := wantAskedFirst(g, key, ts, now); code != impl.OK {
		return noRead(code)
	}
	got, s := wantReadIn(wantUnionOf(g), key, ts, now)
	if got.Code != impl.OK {
		return noRead(got.Code)
	}
	return impl.ReadResult{Has: got.Has, Value: got.Value, Groups: inRanges(s, g.Ranges)}
}

func wantReadAll(g impl.Groups, ts, now int64) impl.ReadAllResult {
	if code := wantAskedFirst(g, 0, ts, now); code != impl.OK {
		return noReads(code)
	}
	got, s := wantReadAllIn(wantUnionOf(g), ts, now)
	if got.Code != impl.OK {
		return noReads(got.Code)
	}
	return impl.ReadAllResult{Pairs: got.Pairs, Groups: inRanges(s, g.Ranges)}
}

func wantClear(g impl.Groups, now int64) impl.GroupsResult {
	if code := wantAskedFirst(g, 0, 1, now); code != impl.OK {
		return noGroups(code)
	}
	return grouped(inRanges(wantClearIn(wantUnionOf(g), now), g.Ranges))
}

func checkFate(t *testing.T, name string, got, want impl.IntResult) {
	t.Helper()
	if got != want {
		t.Errorf("%s: fate %+v, want %+v", name, got, want)
	}
}

func checkReadAt(t *testing.T, name string, got, want impl.ReadResult) {
	t.Helper()
	if got.Has != want.Has || got.Value != want.Value {
		t.Errorf("%s: %+v, want %+v", name, got, want)
	}
	checkGroups(t, name, impl.GroupsResult{Code: got.Code, Groups: got.Groups}, impl.GroupsResult{Code: want.Code, Groups: want.Groups})
}

func checkReadAll(t *testing.T, name string, got, want impl.ReadAllResult) {
	t.Helper()
	if !slices.Equal(got.Pairs, want.Pairs) {
		t.Errorf("%s: %+v, want %+v", name, got, want)
	}
	checkGroups(t, name, impl.GroupsResult{Code: got.Code, Groups: got.Groups}, impl.GroupsResult{Code: want.Code, Groups: want.Groups})
}

// checkOfAKey asks the three that are told a key, checkOfAll the two that are not; the groups stay as they were.
func checkOfAKey(t *testing.T, name string, g impl.Groups, key, ts, now int64) {
	t.Helper()
	kept := copyGroups(g)
	checkFate(t, name, impl.FateOf(g, key, now), wantFateOf(g, key, now))
	checkGroups(t, name+", resolved", impl.ResolveAt(g, key, now), wantResolve(g, key, now))
	checkReadAt(t, name+", read", impl.ReadAt(g, key, ts, now), wantReadAt(g, key, ts, now))
	if !equalGroups(kept, g) {
		t.Errorf("%s: %d at %d, now %d, changed the groups", name, key, ts, now)
	}
}

func checkOfAll(t *testing.T, name string, g impl.Groups, ts, now int64) {
	t.Helper()
	kept := copyGroups(g)
	checkReadAll(t, name+", all read", impl.ReadAll(g, ts, now), wantReadAll(g, ts, now))
	checkGroups(t, name+", all cleared", impl.ClearAll(g, now), wantClear(g, now))
	if !equalGroups(kept, g) {
		t.Errorf("%s: all at %d, now %d, changed the groups", name, ts, now)
	}
}

// held is s with a lock more; a put has its cell, of a value that tells the key.
func held(s impl.Store, key, start, kind, primary, until int64) impl.Store {
	more := copyStore(s)
	more.Locks = append(more.Locks, impl.Lock{Key: key, Start: start, Kind: kind, Primary: primary, Until: until})
	if kind == impl.WritePut {
		more.Cells = append(more.Cells, impl.Cell{Key: key, Start: start, Value: key + 1000})
	}
	sortStore(more)
	return more
}

// wrote is s with a write more, so.
func wrote(s impl.Store, key, commit, start, kind int64) impl.Store {
	more := withWrite(s, impl.Write{Key: key, Commit: commit, Start: start, Kind: kind})
	if kind == impl.WritePut {
		more.Cells = append(more.Cells, impl.Cell{Key: key, Start: start, Value: key + 2000})
		sortStore(more)
	}
	return more
}

// put43 has a put of 43 that is said, of the time 5.
func put43(primary, until int64) impl.Store {
	return held(impl.Store{}, 43, 5, impl.WritePut, primary, until)
}

// cutsOf are s in one store, the keys 10 and 43 in two, and so in as many as there may be.
func cutsOf(s impl.Store) []impl.Groups {
	return []impl.Groups{cutStore(s, 1), cutStore(s, 7, 20), cutStore(s, 2, 43), cutStore(s, 3, 10, 11, 43, 44, 180), cutStore(s, 4, 1, 2, 43, 90, 199)}
}

// The two of the document's examples that tell of locks that were left.
func TestLeftLocksOfExamples(t *testing.T) {
	said := held(put43(10, 20), 10, 5, impl.WritePut, 10, 20)
	behind := impl.CommitKey(said, 10, 5, 8).Store
	for _, g := range cutsOf(behind) {
		got := impl.ReadAt(g, 43, 9, 0)
		done := impl.CommitKey(behind, 43, 5, 8).Store
		checkReadAt(t, "left behind its primary's commit", got, impl.ReadResult{Has: true, Value: 1043, Groups: inRanges(done, g.Ranges)})
	}
	for _, g := range cutsOf(said) {
		checkReadAt(t, "left ahead of it", impl.ReadAt(g, 43, 9, 20), noRead(impl.ErrLocked))
		back := impl.RollbackKey(impl.RollbackKey(said, 10, 5).Store, 43, 5).Store
		checkReadAt(t, "left ahead of it, its time over", impl.ReadAt(g, 43, 9, 21), impl.ReadResult{Groups: inRanges(back, g.Ranges)})
	}
}

type fateCase struct {
	name           string
	s              impl.Store
	key, now, fate int64
}

// fateCases ask of 43, put at 5, with the primary 10, where nothing else is said. Its own Until stands first, then the primary's.
func fateCases() []fateCase {
	done := func(own int64) impl.Store { return wrote(put43(10, own), 10, 8, 5, impl.WritePut) }
	alone := func(own int64) impl.Store { return wrote(put43(10, own), 10, 6, 5, impl.WriteLock) }
	back := func(own int64) impl.Store { return wrote(put43(10, own), 10, 5, 5, impl.WriteBack) }
	both := func(own, until int64) impl.Store { return held(put43(10, own), 10, 5, impl.WriteDelete, 10, until) }
	other := func(own, start, until int64) impl.Store {
		return held(put43(10, own), 10, start, impl.WriteDelete, 10, until)
	}
	const locked, isDone, isBack = impl.StatusLocked, impl.StatusDone, impl.StatusBack
	return []fateCase{
		{"done, own time over", done(0), 43, 100000, isDone}, {"done, own time not over", done(100000), 43, 0, isDone}, {"done, at its end", done(7), 43, 7, isDone},
		{"a lock alone done", alone(0), 43, 100000, isDone}, {"a delete done", wrote(put43(10, 9), 10, 100000, 5, impl.WriteDelete), 43, 0, isDone},
		{"taken back, own time over", back(0), 43, 100000, isBack}, {"taken back, own time not over", back(100000), 43, 0, isBack},
		{"locked, below", both(50, 20), 43, 21, isBack}, {"locked, at", both(0, 20), 43, 20, locked}, {"locked, above", both(0, 20), 43, 19, locked},
		{"locked, both over", both(20, 20), 43, 21, isBack}, {"locked, neither over", both(20, 20), 43, 20, locked},
		{"locked, own time alone over", both(3, 30), 43, 10, locked}, {"locked, the primary's alone over", both(30, 3), 43, 10, isBack},
		{"locked, least", both(100000, 0), 43, 0, locked}, {"locked, one more", both(100000, 0), 43, 1, isBack}, {"locked, greatest", both(0, 100000), 43, 100000, locked},
		{"none, below", put43(10, 20), 43, 21, isBack}, {"none, at", put43(10, 20), 43, 20, locked}, {"none, above", put43(10, 20), 43, 19, locked},
		{"none, least", put43(10, 0), 43, 0, locked}, {"none, one more", put43(10, 0), 43, 1, isBack}, {"none, greatest", put43(10, 100000), 43, 100000, locked},
		{"another's lock ahead, its time over", other(20, 4, 0), 43, 20, locked}, {"another's lock ahead, not over", other(20, 4, 100000), 43, 21, isBack},
		{"another's lock behind, its time over", other(20, 6, 0), 43, 20, locked}, {"another's lock behind, not over", other(20, 6, 100000), 43, 21, isBack},
		{"another one done ahead", wrote(put43(10, 20), 10, 8, 4, impl.WritePut), 43, 20, locked}, {"another one done ahead, time over", wrote(put43(10, 20), 10, 8, 4, impl.WritePut), 43, 21, isBack},
		{"another one done at the start", wrote(put43(10, 20), 10, 5, 4, impl.WritePut), 43, 20, locked}, {"another one taken back", wrote(put43(10, 20), 10, 6, 6, impl.WriteBack), 43, 20, locked},
		{"another's lock, and done", wrote(other(0, 9, 0), 10, 8, 5, impl.WritePut), 43, 100000, isDone}, {"another's lock, and taken back", wrote(other(9, 9, 9), 10, 5, 5, impl.WriteBack), 43, 0, isBack},
		{"its own primary, below", put43(43, 20), 43, 21, isBack}, {"its own primary, at", put43(43, 20), 43, 20, locked}, {"its own primary, above", put43(43, 20), 43, 19, locked},
		{"the primary itself, below", both(50, 20), 10, 21, isBack}, {"the primary itself, at", both(0, 20), 10, 20, locked},
		{"the primary of a primary counts not", held(wrote(both(0, 20), 180, 9, 5, impl.WritePut), 189, 5, impl.WriteLock, 43, 20), 189, 1, isBack},
		{"a primary with another primary", held(wrote(put43(10, 20), 180, 9, 5, impl.WritePut), 10, 5, impl.WriteLock, 180, 30), 43, 30, locked},
		{"one of that start elsewhere", wrote(put43(10, 20), 11, 8, 5, impl.WritePut), 43, 20, locked},
	}
}

func TestFateOf(t *testing.T) {
	for _, c := range fateCases() {
		for _, g := range cutsOf(c.s) {
			checkFate(t, c.name, impl.FateOf(g, c.key, c.now), number(c.fate))
			checkOfAKey(t, c.name, g, c.key, 9, c.now)
			checkOfAll(t, c.name, g, 9, c.now)
			code := int64(impl.OK)
			if c.fate == impl.StatusLocked {
				code = impl.ErrLocked
			}
			if got := impl.ResolveAt(g, c.key, c.now).Code; got != code {
				t.Errorf("%s: resolved with code %d, want %d", c.name, got, code)
			}
		}
	}
}

// A key that stands for nothing is no lock's primary: the groups have a fault then.
func TestPrimaryThatStandsForNothing(t *testing.T) {
	for _, c := range []struct{ primary, code int64 }{
		{1, impl.ErrForm}, {9, impl.ErrForm}, {26, impl.ErrForm}, {199, impl.ErrForm}, {-1, impl.ErrRange}, {200, impl.ErrRange}, {math.MinInt64, impl.ErrRange}, {math.MaxInt64, impl.ErrRange},
	} {
		for _, g := range cutsOf(put43(c.primary, 3)) {
			checkFate(t, "no such primary", impl.FateOf(g, 43, 9), impl.IntResult{Code: c.code})
			checkGroups(t, "no such primary", impl.ResolveAt(g, 43, 9), noGroups(c.code))
			checkGroups(t, "no such primary", impl.ClearAll(g, 9), noGroups(c.code))
			checkReadAt(t, "no such primary", impl.ReadAt(g, 43, 9, 9), noRead(c.code))
			checkReadAll(t, "no such primary", impl.ReadAll(g, 9, 9), noReads(c.code))
		}
	}
	for _, primary := range []int64{0, 10, 19, 20, 25, 115, 180, 189} {
		for _, g := range cutsOf(put43(primary, 3)) {
			want := wrote(wrote(impl.Store{}, primary, 5, 5, impl.WriteBack), 43, 5, 5, impl.WriteBack)
			checkGroups(t, "each primary", impl.ResolveAt(g, 43, 9), grouped(inRanges(want, g.Ranges)))
		}
	}
}

// What is there behind it, in the store of the primary and in the key's.
func TestResolveAt(t *testing.T) {
	none := impl.Store{}
	back := wrote(wrote(none, 10, 5, 5, impl.WriteBack), 43, 5, 5, impl.WriteBack)
	done := wrote(put43(10, 3), 10, 8, 5, impl.WriteDelete)
	follows := withWrite(withoutLock(done, 43, 5), impl.Write{Key: 43, Commit: 8, Start: 5, Kind: impl.WritePut})
	both := held(put43(10, 50), 10, 5, impl.WritePut, 10, 3)
	others := held(wrote(held(put43(10, 3), 10, 6, impl.WritePut, 11, 3), 10, 4, 3, impl.WritePut), 11, 5, impl.WriteLock, 10, 100000)
	othersBack := held(wrote(held(back, 10, 6, impl.WritePut, 11, 3), 10, 4, 3, impl.WritePut), 11, 5, impl.WriteLock, 10, 100000)
	for _, c := range []struct {
		name     string
		s        impl.Store
		key, now int64
		want     impl.StoreResult
	}{
		{"done", done, 43, 0, impl.StoreResult{Store: follows}},
		{"done, the time over", done, 43, 100000, impl.StoreResult{Store: follows}},
		{"the primary that is done has no lock", done, 10, 9, refuse(impl.ErrNone)},
		{"taken back ahead", wrote(put43(10, 50), 10, 5, 5, impl.WriteBack), 43, 0, impl.StoreResult{Store: back}},
		{"taken back now", both, 43, 4, impl.StoreResult{Store: back}},
		{"the primary taken back now", both, 10, 4, impl.StoreResult{Store: wrote(put43(10, 50), 10, 5, 5, impl.WriteBack)}},
		{"locked", both, 43, 3, refuse(impl.ErrLocked)},
		{"the primary locked", both, 10, 3, refuse(impl.ErrLocked)},
		{"a primary that is not there", put43(10, 3), 43, 4, impl.StoreResult{Store: back}},
		{"a primary that is not there, locked", put43(10, 3), 43, 3, refuse(impl.ErrLocked)},
		{"its own primary", put43(43, 3), 43, 4, impl.StoreResult{Store: wrote(none, 43, 5, 5, impl.WriteBack)}},
		{"its own primary, locked", put43(43, 3), 43, 3, refuse(impl.ErrLocked)},
		{"others stay", others, 43, 4, impl.StoreResult{Store: othersBack}},
		{"no lock", put43(10, 3), 44, 4, refuse(impl.ErrNone)},
		{"no lock, beside it", put43(10, 3), 42, 4, refuse(impl.ErrNone)},
		{"no lock, the primary", put43(10, 3), 10, 4, refuse(impl.ErrNone)},
		{"nothing at all", none, 43, 4, refuse(impl.ErrNone)},
	} {
		for _, g := range cutsOf(c.s) {
			want := noGroups(c.want.Code)
			if c.want.Code == impl.OK {
				want.Groups = inRanges(c.want.Store, g.Ranges)
			}
			checkGroups(t, c.name, impl.ResolveAt(g, c.key, c.now), want)
			checkOfAKey(t, c.name, g, c.key, 5, c.now)
			checkOfAll(t, c.name, g, 5, c.now)
			if c.want.Code == impl.OK && impl.ResolveAt(impl.ResolveAt(g, c.key, c.now).Groups, c.key, c.now).Code != impl.ErrNone {
				t.Errorf("%s: resolved twice", c.name)
			}
		}
	}
}

// A code of a commit, or of one of two that are taken back, is told alone: nothing of the other one is there.
func TestResolveTellsTheCodeOfOne(t *testing.T) {
	done := wrote(put43(10, 3), 10, 8, 5, impl.WritePut)
	both := held(put43(10, 3), 10, 5, impl.WritePut, 10, 3)
	back := wrote(put43(10, 3), 10, 5, 5, impl.WriteBack)
	for _, c := range []struct {
		name      string
		s         impl.Store
		now, code int64
	}{
		{"done, and the key has a write of that Commit", wrote(done, 43, 8, 7, impl.WriteDelete), 9, impl.ErrTaken},
		{"so, taken back at it", wrote(done, 43, 8, 8, impl.WriteBack), 9, impl.ErrTaken},
		{"done, and the key has one ahead", wrote(done, 43, 7, 6, impl.WriteDelete), 9, impl.OK},
		{"done, and the key has one behind", wrote(done, 43, 9, 6, impl.WriteDelete), 9, impl.OK},
		{"the key has a write at the start", wrote(both, 43, 5, 4, impl.WriteLock), 9, impl.ErrTaken},
		{"so, the primary is taken back", wrote(back, 43, 5, 4, impl.WritePut), 9, impl.ErrTaken},
		{"so, the primary is not there", wrote(put43(10, 3), 43, 5, 4, impl.WritePut), 9, impl.ErrTaken},
		{"so, its own primary", wrote(put43(43, 3), 43, 5, 4, impl.WritePut), 9, impl.ErrTaken},
		{"the primary has a write at the start", wrote(both, 10, 5, 4, impl.WritePut), 9, impl.ErrTaken},
		{"so, and is not there", wrote(put43(10, 3), 10, 5, 4, impl.WriteDelete), 9, impl.ErrTaken},
		{"both have", wrote(wrote(both, 10, 5, 4, impl.WritePut), 43, 5, 3, impl.WriteLock), 9, impl.ErrTaken},
		{"both have, and the time is not over", wrote(wrote(both, 10, 5, 4, impl.WritePut), 43, 5, 3, impl.WriteLock), 3, impl.ErrLocked},
	} {
		for _, g := range cutsOf(c.s) {
			if got := impl.ResolveAt(g, 43, c.now).Code; got != c.code {
				t.Errorf("%s: code %d, want %d", c.name, got, c.code)
			}
			if got := impl.ReadAt(g, 43, 6, c.now).Code; got != c.code {
				t.Errorf("%s: read with code %d, want %d", c.name, got, c.code)
			}
			checkOfAKey(t, c.name, g, 43, 6, c.now)
			checkOfAKey(t, c.name, g, 10, 6, c.now)
			checkOfAll(t, c.name, g, 6, c.now)
		}
	}
}

// crowded has n writes, all that are more of the keys 12, 90 and 189; none of its stores is full where it is cut between them.
func crowded(s impl.Store, n int) impl.Store {
	for i := int64(0); len(s.Writes) < n; i++ {
		s = wrote(s, []int64{12, 90, 189}[i%3], 1000+i, 1000+i, impl.WriteBack)
	}
	return s
}

// One write more, or two, where all stores together have up to MaxCells of them.
func TestResolveWhenFull(t *testing.T) {
	done := wrote(put43(10, 3), 10, 8, 5, impl.WritePut)
	back := wrote(put43(10, 3), 10, 5, 5, impl.WriteBack)
	both := held(put43(10, 3), 10, 5, impl.WritePut, 10, 3)
	for _, c := range []struct {
		name      string
		s         impl.Store
		n         int
		now, code int64
	}{
		{"done", done, 198, 9, impl.OK}, {"done", done, 199, 9, impl.OK}, {"done", done, 200, 9, impl.ErrMany},
		{"the primary taken back", back, 198, 9, impl.OK}, {"the primary taken back", back, 199, 9, impl.OK}, {"the primary taken back", back, 200, 9, impl.ErrMany},
		{"both", both, 197, 9, impl.OK}, {"both", both, 198, 9, impl.OK}, {"both", both, 199, 9, impl.ErrMany}, {"both", both, 200, 9, impl.ErrMany},
		{"a primary that is not there", put43(10, 3), 198, 9, impl.OK}, {"a primary that is not there", put43(10, 3), 199, 9, impl.ErrMany}, {"a primary that is not there", put43(10, 3), 200, 9, impl.ErrMany},
		{"its own primary", put43(43, 3), 199, 9, impl.OK}, {"its own primary", put43(43, 3), 200, 9, impl.ErrMany},
		{"locked", both, 200, 3, impl.ErrLocked}, {"no time", both, 200, 100001, impl.ErrRange},
		{"done, that Commit is taken", wrote(done, 43, 8, 7, impl.WriteDelete), 200, 9, impl.ErrTaken},
		{"the primary's start is taken", wrote(both, 10, 5, 4, impl.WriteLock), 200, 9, impl.ErrTaken},
		{"the key's start is taken, no room for the primary", wrote(both, 43, 5, 4, impl.WriteLock), 200, 9, impl.ErrMany},
		{"the key's start is taken, room for the primary", wrote(both, 43, 5, 4, impl.WriteLock), 199, 9, impl.ErrTaken},
	} {
		for _, g := range append(cutsOf(crowded(c.s, c.n)), cutStore(crowded(c.s, c.n), 1, 11, 20, 80, 100)) {
			got := impl.ResolveAt(g, 43, c.now)
			if got.Code != c.code {
				t.Errorf("%s, %d writes: code %d, want %d", c.name, c.n, got.Code, c.code)
			}
			checkOfAKey(t, c.name, g, 43, 5, c.now)
			checkOfAll(t, c.name, g, 5, c.now)
		}
	}
	unread := crowded(both, 200)
	for _, g := range cutsOf(unread) {
		checkReadAt(t, "what is not blocked needs no room", impl.ReadAt(g, 43, 4, 9), impl.ReadResult{Groups: g})
		checkReadAt(t, "what is blocked does", impl.ReadAt(g, 43, 5, 9), noRead(impl.ErrMany))
		checkReadAll(t, "all, of which one is blocked", impl.ReadAll(g, 5, 9), noReads(impl.ErrMany))
		checkGroups(t, "nothing is cleared without room", impl.ClearAll(g, 9), grouped(g))
	}
}

// As many cells, or locks, as there may be: what is resolved needs none.
func TestResolveBesideFullCells(t *testing.T) {
	s := held(held(impl.Store{}, 43, 205, impl.WritePut, 180, 3), 180, 205, impl.WritePut, 180, 3)
	s.Cells = append(fullCells(198), s.Cells...)
	for _, g := range append(cutsOf(s), cutStore(s, 1, 20, 90)) {
		got := impl.ResolveAt(g, 43, 4)
		want := impl.Store{Cells: fullCells(198), Writes: []impl.Write{{Key: 43, Commit: 205, Start: 205, Kind: 4}, {Key: 180, Commit: 205, Start: 205, Kind: 4}}}
		checkGroups(t, "200 cells", got, grouped(inRanges(want, g.Ranges)))
		checkOfAKey(t, "200 cells", g, 43, 205, 4)
		checkOfAll(t, "200 cells", g, 205, 4)
	}
	done := wrote(withoutLock(s, 180, 205), 180, 206, 205, impl.WriteLock)
	for _, g := range append(cutsOf(done), cutStore(done, 1, 20, 90)) {
		got := impl.ResolveAt(g, 43, 4)
		if all := impl.UnionOf(got.Groups).Store; got.Code != impl.OK || len(all.Cells) != 200 || len(all.Locks) != 0 || len(all.Writes) != 2 {
			t.Errorf("200 cells, done: %+v", got)
		}
		checkOfAKey(t, "200 cells, done", g, 43, 205, 4)
	}
	each := impl.Store{Locks: lockEach()}
	for _, g := range cutsOf(each) {
		cleared := impl.UnionOf(impl.ClearAll(g, 10).Groups).Store
		if len(cleared.Locks) != 0 || len(cleared.Writes) != len(each.Locks) {
			t.Errorf("a lock of each key, cleared: %+v", cleared)
		}
		checkGroups(t, "a lock of each key, none over", impl.ClearAll(g, 9), grouped(g))
		checkOfAll(t, "a lock of each key", g, 6, 10)
		checkReadAll(t, "a lock of each key, ahead of them", impl.ReadAll(g, 5, 10), impl.ReadAllResult{Groups: g})
	}
}

// 43 was put at 2 and done at 4, and put again at 5: ahead of, at and behind that lock.
func TestReadAt(t *testing.T) {
	s := wrote(put43(10, 20), 43, 4, 2, impl.WritePut)
	done, both := wrote(s, 10, 8, 5, impl.WriteLock), held(s, 10, 5, impl.WriteLock, 10, 30)
	settled := withWrite(withoutLock(done, 43, 5), impl.Write{Key: 43, Commit: 8, Start: 5, Kind: impl.WritePut})
	gone := wrote(wrote(wrote(impl.Store{}, 43, 4, 2, impl.WritePut), 43, 5, 5, impl.WriteBack), 10, 5, 5, impl.WriteBack)
	const nothing, old, next = -1, 2043, 1043
	for _, c := range []struct {
		name         string
		s            impl.Store
		key, ts, now int64
		code, has    int64
		want         impl.Store
		stays        bool
	}{
		{"far ahead", done, 43, 1, 0, impl.OK, nothing, done, true}, {"ahead of what was done first", done, 43, 3, 0, impl.OK, nothing, done, true},
		{"ahead of the lock", done, 43, 4, 0, impl.OK, old, done, true}, {"at the lock", done, 43, 5, 0, impl.OK, old, settled, false},
		{"behind the lock", done, 43, 6, 0, impl.OK, old, settled, false}, {"ahead of its Commit", done, 43, 7, 100000, impl.OK, old, settled, false},
		{"at its Commit", done, 43, 8, 0, impl.OK, next, settled, false}, {"behind its Commit", done, 43, 9, 0, impl.OK, next, settled, false},
		{"at the last time", done, 43, 100000, 0, impl.OK, next, settled, false}, {"the primary", done, 10, 8, 0, impl.OK, nothing, done, true},
		{"a key without a lock", done, 44, 8, 0, impl.OK, nothing, done, true},
		{"locked, ahead of it", both, 43, 4, 30, impl.OK, old, both, true}, {"locked, at it", both, 43, 5, 30, impl.ErrLocked, 0, impl.Store{}, false},
		{"locked, behind it", both, 43, 6, 30, impl.ErrLocked, 0, impl.Store{}, false}, {"over, ahead of it", both, 43, 4, 31, impl.OK, old, both, true},
		{"over, at it", both, 43, 5, 31, impl.OK, old, gone, false}, {"over, behind it", both, 43, 99, 31, impl.OK, old, gone, false},
		{"the primary not there, locked", s, 43, 5, 20, impl.ErrLocked, 0, impl.Store{}, false}, {"the primary not there, over", s, 43, 5, 21, impl.OK, old, gone, false},
		{"taken back, and nothing ahead", put43(10, 20), 43, 9, 21, impl.OK, nothing, wrote(wrote(impl.Store{}, 43, 5, 5, 4), 10, 5, 5, 4), false},
	} {
		for _, g := range cutsOf(c.s) {
			want := noRead(c.code)
			if c.code == impl.OK {
				want.Groups = inRanges(c.want, g.Ranges)
			}
			if c.has > 0 {
				want.Has, want.Value = true, c.has
			}
			got := impl.ReadAt(g, c.key, c.ts, c.now)
			checkReadAt(t, c.name, got, want)
			checkReadAt(t, c.name, got, wantReadAt(g, c.key, c.ts, c.now))
			if c.code == impl.OK && equalGroups(got.Groups, g) != c.stays {
				t.Errorf("%s: the groups then: %+v", c.name, got.Groups)
			}
		}
	}
}

func TestReadAll(t *testing.T) {
	pair := func(key, value int64) impl.Pair { return impl.Pair{Key: key, Value: value} }
	s := wrote(wrote(wrote(impl.Store{}, 189, 3, 2, impl.WritePut), 0, 3, 2, impl.WritePut), 25, 4, 2, impl.WritePut)
	s = wrote(s, 25, 7, 6, impl.WriteDelete)
	mixed := held(wrote(held(held(s, 43, 5, 1, 10, 20), 11, 5, 2, 10, 0), 10, 8, 5, 1), 180, 9, 1, 180, 30)
	for _, c := range []struct {
		name    string
		s       impl.Store
		ts, now int64
		code    int64
		pairs   []impl.Pair
		locks   int
	}{
		{"nothing at all", impl.Store{}, 9, 9, impl.OK, nil, 0}, {"ahead of all", s, 2, 9, impl.OK, nil, 0},
		{"some", s, 3, 9, impl.OK, []impl.Pair{pair(0, 2000), pair(189, 2189)}, 0}, {"all", s, 4, 9, impl.OK, []impl.Pair{pair(0, 2000), pair(25, 2025), pair(189, 2189)}, 0},
		{"one gone", s, 7, 9, impl.OK, []impl.Pair{pair(0, 2000), pair(189, 2189)}, 0},
		{"ahead of the locks", mixed, 4, 99, impl.OK, []impl.Pair{pair(0, 2000), pair(25, 2025), pair(189, 2189)}, 3},
		{"at the first ones", mixed, 5, 0, impl.OK, []impl.Pair{pair(0, 2000), pair(25, 2025), pair(189, 2189)}, 1},
		{"behind them", mixed, 8, 0, impl.OK, []impl.Pair{pair(0, 2000), pair(10, 2010), pair(43, 1043), pair(189, 2189)}, 1},
		{"one tells a code", mixed, 9, 30, impl.ErrLocked, nil, 0}, {"it is over", mixed, 9, 31, impl.OK, []impl.Pair{pair(0, 2000), pair(10, 2010), pair(43, 1043), pair(189, 2189)}, 0},
		{"the last key tells a code", held(s, 189, 5, 3, 189, 9), 5, 9, impl.ErrLocked, nil, 0}, {"the first key tells a code", held(s, 0, 5, 3, 189, 9), 5, 9, impl.ErrLocked, nil, 0},
	} {
		for _, g := range append(cutsOf(c.s), cutStore(c.s, 1, 10, 20, 43, 180, 189)) {
			got := impl.ReadAll(g, c.ts, c.now)
			if got.Code != c.code || !slices.Equal(got.Pairs, c.pairs) {
				t.Errorf("%s: %+v, want %d, %+v", c.name, got, c.code, c.pairs)
			}
			if all := wantUnionOf(got.Groups); len(all.Locks) != c.locks || c.code == impl.OK && len(all.Cells) == 0 && len(c.s.Cells) > 0 {
				t.Errorf("%s: the groups then: %+v, want %d locks", c.name, got.Groups, c.locks)
			}
			checkOfAll(t, c.name, g, c.ts, c.now)
		}
	}
}

func TestClearAll(t *testing.T) {
	waits := held(held(put43(10, 0), 10, 5, impl.WritePut, 10, 30), 44, 6, impl.WriteLock, 44, 9)
	taken := wrote(held(wrote(held(put43(10, 3), 180, 5, 1, 10, 3), 43, 5, 4, impl.WriteLock), 11, 7, 3, 11, 3), 10, 5, 5, impl.WriteBack)
	rise := held(held(held(impl.Store{}, 20, 5, 3, 10, 50), 21, 5, 3, 10, 3), 22, 5, 3, 10, 50)
	for _, c := range []struct {
		name  string
		s     impl.Store
		now   int64
		locks []int64
	}{
		{"nothing at all", impl.Store{}, 9, nil}, {"no lock", wrote(impl.Store{}, 10, 8, 5, 1), 9, nil},
		{"one", put43(10, 3), 4, nil}, {"one, and it stays", put43(10, 3), 3, []int64{43}},
		{"all stay", waits, 9, []int64{10, 43, 44}}, {"some stay", waits, 10, []int64{10, 43}}, {"some stay, at the end", waits, 30, []int64{10, 43}}, {"none stays", waits, 31, nil},
		{"one tells a code, others are cleared", taken, 4, []int64{43}}, {"one tells a code, and one stays", taken, 3, []int64{11, 43}},
		{"what is cleared counts for those behind it, not for those ahead", rise, 4, []int64{20}},
		{"no room for the last", crowded(held(held(put43(43, 3), 10, 5, 3, 10, 3), 180, 5, 3, 180, 3), 198), 4, []int64{180}},
		{"no room for two, and for one of its own", crowded(held(put43(10, 3), 180, 5, 3, 180, 3), 199), 4, []int64{43}},
	} {
		for _, g := range append(cutsOf(c.s), cutStore(c.s, 1, 11, 21, 44, 90, 180)) {
			got := impl.ClearAll(g, c.now)
			var keys []int64
			for _, l := range wantUnionOf(got.Groups).Locks {
				keys = append(keys, l.Key)
			}
			if got.Code != impl.OK || !slices.Equal(keys, c.locks) {
				t.Errorf("%s: code %d, locks of %v, want %v", c.name, got.Code, keys, c.locks)
			}
			checkOfAll(t, c.name, g, 9, c.now)
			if !slices.Equal(got.Groups.Ranges, g.Ranges) {
				t.Errorf("%s: the ranges are %v", c.name, got.Groups.Ranges)
			}
		}
	}
}

// Which code comes first, where several are wrong, and the ends of all numbers.
func TestResolveNumbers(t *testing.T) {
	right := cutStore(held(put43(10, 100000), 10, 5, 1, 10, 100000), 1, 20)
	wrong := cutStore(impl.Store{Cells: fullCells(201)}, 1)
	const no = -1
	for _, c := range []struct {
		g            impl.Groups
		key, ts, now int64
		fate, read   int64
		all, clear   int64
	}{
		{right, 43, 5, 0, impl.OK, impl.ErrLocked, impl.ErrLocked, impl.OK}, {right, 43, 4, 100000, impl.OK, impl.OK, impl.OK, impl.OK}, {right, 43, 1, 0, impl.OK, impl.OK, impl.OK, impl.OK},
		{right, 43, 100000, 100000, impl.OK, impl.ErrLocked, impl.ErrLocked, impl.OK}, {right, 44, 5, 0, impl.ErrNone, impl.OK, impl.ErrLocked, impl.OK},
		{right, 43, 5, -1, impl.ErrRange, impl.ErrRange, impl.ErrRange, impl.ErrRange}, {right, 43, 5, 100001, impl.ErrRange, impl.ErrRange, impl.ErrRange, impl.ErrRange},
		{right, 44, 5, -1, impl.ErrRange, impl.ErrRange, impl.ErrRange, impl.ErrRange}, {right, 43, 4, math.MinInt64, impl.ErrRange, impl.ErrRange, impl.ErrRange, impl.ErrRange},
		{right, 43, 4, math.MaxInt64, impl.ErrRange, impl.ErrRange, impl.ErrRange, impl.ErrRange},
		{right, 43, 0, 9, impl.OK, impl.ErrRange, impl.ErrRange, impl.OK}, {right, 43, 100001, 9, impl.OK, impl.ErrRange, impl.ErrRange, impl.OK}, {right, 43, -1, 9, impl.OK, impl.ErrRange, impl.ErrRange, impl.OK},
		{right, 44, math.MinInt64, 9, impl.ErrNone, impl.ErrRange, impl.ErrRange, impl.OK}, {right, 43, math.MaxInt64, 9, impl.OK, impl.ErrRange, impl.ErrRange, impl.OK},
		{right, 1, 5, 9, impl.ErrForm, impl.ErrForm, no, no}, {right, 1, 0, -1, impl.ErrForm, impl.ErrForm, impl.ErrRange, impl.ErrRange}, {right, 26, 0, 100001, impl.ErrForm, impl.ErrForm, no, no},
		{right, -1, 5, 9, impl.ErrRange, impl.ErrRange, no, no}, {right, 200, 5, 9, impl.ErrRange, impl.ErrRange, no, no}, {right, math.MinInt64, 5, 9, impl.ErrRange, impl.ErrRange, no, no},
		{right, math.MaxInt64, 5, 9, impl.ErrRange, impl.ErrRange, no, no},
		{wrong, 10, 5, 9, impl.ErrMany, impl.ErrMany, impl.ErrMany, impl.ErrMany}, {wrong, 1, 0, -1, impl.ErrMany, impl.ErrMany, impl.ErrMany, impl.ErrMany},
		{wrong, -1, 100001, 100001, impl.ErrMany, impl.ErrMany, impl.ErrMany, impl.ErrMany}, {impl.Groups{}, 1, 0, -1, impl.ErrMany, impl.ErrMany, impl.ErrMany, impl.ErrMany},
	} {
		resolve := c.fate
		if c.fate == impl.OK {
			resolve = impl.ErrLocked
		}
		got := []int64{impl.FateOf(c.g, c.key, c.now).Code, impl.ResolveAt(c.g, c.key, c.now).Code, impl.ReadAt(c.g, c.key, c.ts, c.now).Code}
		if !slices.Equal(got, []int64{c.fate, resolve, c.read}) {
			t.Errorf("%d at %d, now %d: codes %v, want %d, %d, %d", c.key, c.ts, c.now, got, c.fate, resolve, c.read)
		}
		if got := []int64{impl.ReadAll(c.g, c.ts, c.now).Code, impl.ClearAll(c.g, c.now).Code}; c.all != no && !slices.Equal(got, []int64{c.all, c.clear}) {
			t.Errorf("all at %d, now %d: codes %v, want %d, %d", c.ts, c.now, got, c.all, c.clear)
		}
		checkOfAKey(t, "numbers", c.g, c.key, c.ts, c.now)
		checkOfAll(t, "numbers", c.g, c.ts, c.now)
	}
}

// P1: groups with a fault tell it, whatever else is asked of them.
func TestResolveAsksTheFaultFirst(t *testing.T) {
	for _, c := range wrongGroups() {
		for _, n := range []int64{math.MinInt64, -1, 0, 1, 10, 43, 100000, math.MaxInt64} {
			checkFate(t, c.name, impl.FateOf(c.g, n, n), impl.IntResult{Code: c.code})
			checkGroups(t, c.name, impl.ResolveAt(c.g, n, n), noGroups(c.code))
			checkGroups(t, c.name, impl.ClearAll(c.g, n), noGroups(c.code))
			checkReadAt(t, c.name, impl.ReadAt(c.g, n, n, n), noRead(c.code))
			checkReadAll(t, c.name, impl.ReadAll(c.g, n, n), noReads(c.code))
		}
	}
}

// P1: each function at right groups of all kinds, and at any number.
func TestResolveAtOddNumbers(t *testing.T) {
	odd := []int64{math.MinInt64, -1, 0, 1, 9, 10, 12, 20, 21, 43, 189, 200, 99999, 100000, 100001, math.MaxInt64}
	for _, c := range rightGroups() {
		for i, key := range odd {
			for j, now := range odd {
				checkOfAKey(t, c.name, c.g, key, odd[(i+j)%len(odd)], now)
			}
			for _, now := range []int64{-1, 0, 13, 31, 100000, 100001} {
				checkOfAll(t, c.name, c.g, key, now)
			}
		}
	}
	g := cutStore(held(put43(10, 20), 10, 5, 1, 10, 30), 1, 20)
	for _, n := range oddNumbers() {
		checkOfAKey(t, "each number", g, n, n, 25)
		checkOfAKey(t, "each number", g, 43, n, n)
		checkOfAll(t, "each number", g, n, n)
	}
}

// leftTxn says what one wants at its start, and leaves: nothing done, the primary alone done or taken back, or never said.
func leftTxn(r *rand.Rand, s impl.Store, start, until int64) impl.Store {
	keys, n := allKeys(), 1+r.Intn(4)
	var mine []int64
	for range n {
		key := []int64{0, 10, 11, 20, 25, 43, 180, 189}[r.Intn(8)]
		if r.Intn(3) == 0 {
			key = keys[r.Intn(len(keys))].key
		}
		mine = append(mine, key)
	}
	did := func(next impl.StoreResult) {
		if next.Code == impl.OK {
			s = next.Store
		}
	}
	ends := r.Intn(5)
	for i, key := range mine {
		if i > 0 || ends != 0 {
			did(impl.Prewrite(s, key, start, 1+r.Int63n(3), 0, mine[0], until))
		}
	}
	switch ends {
	case 1:
		did(impl.CommitKey(s, mine[0], start, start+1+r.Int63n(3)))
	case 2:
		did(impl.RollbackKey(s, mine[0], start))
	}
	return s
}

// leftStores are what many left, one behind the other in time, each with one Until, as in a world.
func leftStores(seed int64) (stores []impl.Store) {
	r := rand.New(rand.NewSource(seed))
	for range 30 {
		var s impl.Store
		for i := range int64(4 + r.Intn(14)) {
			s = leftTxn(r, s, 1+i*4, r.Int63n(41))
		}
		stores = append(stores, s)
	}
	return stores
}

// rawStores are right stores whose locks need not have come of transactions, some of them nearly full.
func rawStores(seed int64) (stores []impl.Store) {
	r := rand.New(rand.NewSource(seed))
	for i := range 40 {
		s := madeStore(r, 10+i*3)
		for j := range s.Locks {
			s.Locks[j].Primary = []int64{s.Locks[j].Key, 0, 10, 20, 25, 180, 189}[r.Intn(7)]
			s.Locks[j].Until = r.Int63n(41)
		}
		if i%2 == 0 {
			s = crowded(s, 190+r.Intn(11))
		}
		stores = append(stores, s)
	}
	return stores
}

func someTimes() []int64 { return []int64{0, 1, 7, 15, 22, 30, 40, 41, 100000} }

// All five, at what was left and at raw locks, cut in any way, against the document's words of one store.
func TestResolveAtEachTime(t *testing.T) {
	r := rand.New(rand.NewSource(84))
	told := map[int64]int{}
	for _, s := range append(leftStores(85), rawStores(86)...) {
		for _, g := range []impl.Groups{cutStore(s, 1), cutStore(s, 1, anyCut(r)...), cutStore(s, 1, 10, 20, 25, 90, 180)} {
			for _, now := range someTimes() {
				for _, key := range []int64{0, 10, 11, 20, 25, 43, 180, 189} {
					checkOfAKey(t, "each time", g, key, 1+r.Int63n(70), now)
					told[impl.ResolveAt(g, key, now).Code]++
				}
				checkOfAll(t, "each time", g, 1+r.Int63n(70), now)
			}
		}
	}
	for _, code := range []int64{impl.OK, impl.ErrNone, impl.ErrLocked, impl.ErrMany, impl.ErrTaken} {
		if told[code] < 30 {
			t.Errorf("only %d resolved with code %d", told[code], code)
		}
	}
}

// P10: what becomes of a lock is what became of its primary, at the same Commit; and it is what its fate told.
func TestResolvedIsWhatThePrimaryIs(t *testing.T) {
	r := rand.New(rand.NewSource(87))
	became := map[int64]int{}
	for _, s := range append(leftStores(88), rawStores(89)...) {
		g := cutStore(s, 1, anyCut(r)...)
		for _, lock := range s.Locks {
			for _, now := range someTimes() {
				free, fate := impl.ResolveAt(g, lock.Key, now), impl.FateOf(g, lock.Key, now)
				if (fate.Value == impl.StatusLocked) != (free.Code == impl.ErrLocked) || fate.Code != impl.OK {
					t.Fatalf("%+v, now %d: fate %+v, code %d", lock, now, fate, free.Code)
				}
				if free.Code != impl.OK {
					continue
				}
				all := impl.UnionOf(free.Groups).Store
				own, primary := impl.StatusOf(all, lock.Key, lock.Start), impl.StatusOf(all, lock.Primary, lock.Start)
				became[own.Value]++
				if own != primary || own.Value != fate.Value || impl.LockAt(all, lock.Key).Code != impl.ErrNone {
					t.Fatalf("%+v, now %d: %+v, the primary %+v, its fate %+v", lock, now, own, primary, fate)
				}
				if impl.CommitOf(all, lock.Key, lock.Start) != impl.CommitOf(all, lock.Primary, lock.Start) {
					t.Fatalf("%+v, now %d: done at another time than its primary", lock, now)
				}
			}
		}
	}
	if became[impl.StatusDone] < 100 || became[impl.StatusBack] < 100 || len(became) != 2 {
		t.Errorf("too few of a kind: %v", became)
	}
}

// P10: what is read of all is what is read of each, one behind the other; and of each alone, where that tells no code.
func TestReadAllIsReadOfEach(t *testing.T) {
	r := rand.New(rand.NewSource(90))
	told := map[int64]int{}
	for _, s := range append(leftStores(91), rawStores(92)...) {
		g := cutStore(s, 1, anyCut(r)...)
		for _, ts := range []int64{1, 6, 13, 21, 34, 60, 100000} {
			now := []int64{0, 15, 38, 41}[r.Intn(4)]
			all, want := impl.ReadAll(g, ts, now), impl.ReadAllResult{Groups: g}
			told[all.Code]++
			for _, k := range allKeys() {
				got := impl.ReadAt(want.Groups, k.key, ts, now)
				if got.Code != impl.OK {
					want = noReads(got.Code)
					break
				}
				want.Groups = got.Groups
				if got.Has {
					want.Pairs = append(want.Pairs, impl.Pair{Key: k.key, Value: got.Value})
				}
				if alone := impl.ReadAt(g, k.key, ts, now); alone.Code == impl.OK && (alone.Has != got.Has || alone.Value != got.Value) {
					t.Fatalf("%d read at %d alone: %+v, behind the others %+v", k.key, ts, alone, got)
				}
			}
			checkReadAll(t, "each", all, want)
			if all.Code != impl.OK {
				continue
			}
			if scan := impl.ScanAt(impl.UnionOf(all.Groups).Store, 0, 200, ts); !equalScans(scan, impl.ScanResult{Pairs: all.Pairs}) {
				t.Fatalf("read at %d: %+v, and scanned then: %+v", ts, all.Pairs, scan)
			}
		}
	}
	if told[impl.OK] < 100 || told[impl.ErrLocked] < 50 {
		t.Errorf("too few of a kind: %v", told)
	}
}

// P10: what may be cleared is: a lock stays only where, when its turn came, resolving it told a code.
func TestWhatMayBeClearedIs(t *testing.T) {
	r := rand.New(rand.NewSource(93))
	for _, s := range append(leftStores(94), rawStores(95)...) {
		g := cutStore(s, 1, anyCut(r)...)
		for _, now := range someTimes() {
			then := g
			for _, lock := range s.Locks {
				if free := impl.ResolveAt(then, lock.Key, now); free.Code == impl.OK {
					then = free.Groups
				}
			}
			checkGroups(t, "cleared one by one", impl.ClearAll(g, now), grouped(then))
		}
	}
	for _, s := range leftStores(96) {
		for _, now := range someTimes() {
			cleared := impl.ClearAll(cutStore(s, 1, anyCut(r)...), now).Groups
			for _, lock := range impl.UnionOf(cleared).Store.Locks {
				if code := impl.ResolveAt(cleared, lock.Key, now).Code; code != impl.ErrLocked || lock.Until < now {
					t.Fatalf("%+v stays, now %d, and tells %d", lock, now, code)
				}
			}
			checkGroups(t, "cleared twice", impl.ClearAll(cleared, now), grouped(cleared))
			if now == 100000 && len(impl.UnionOf(cleared).Store.Locks) != 0 {
				t.Fatalf("%+v: locks stay when all their time is over", cleared)
			}
		}
	}
}

// P10: what was done stays done, at its time; what was taken back is not done; what could be read is read so still.
func TestWhatWasDoneStaysDone(t *testing.T) {
	r := rand.New(rand.NewSource(97))
	for _, s := range append(leftStores(98), rawStores(99)...) {
		g := cutStore(s, 1, anyCut(r)...)
		for _, now := range someTimes() {
			cleared := impl.UnionOf(impl.ClearAll(g, now).Groups).Store
			for _, w := range s.Writes {
				got := impl.WriteOf(cleared, w.Key, w.Start)
				if got.Code != impl.OK || got.Writes[0] != w {
					t.Fatalf("%+v is %+v behind a clearing", w, got)
				}
			}
			for _, key := range []int64{0, 10, 11, 20, 25, 43, 180, 189} {
				for _, ts := range []int64{1, 6, 13, 21, 34, 60, 100000} {
					before := impl.GetAt(s, key, ts)
					if before.Code == impl.OK && impl.GetAt(cleared, key, ts) != before {
						t.Fatalf("%d at %d: %+v, behind a clearing %+v", key, ts, before, impl.GetAt(cleared, key, ts))
					}
				}
			}
		}
	}
}

// However it is cut, what is resolved, read and cleared is all together as in one store.
func TestResolvedHoweverItIsCut(t *testing.T) {
	r := rand.New(rand.NewSource(100))
	union := func(code int64, g impl.Groups) impl.StoreResult {
		if code != impl.OK {
			return refuse(code)
		}
		return impl.UnionOf(g)
	}
	for _, s := range append(leftStores(101), rawStores(102)...) {
		one, many := impl.NewGroups(s, 1).Groups, cutStore(s, 1, 10, 20, 25, 90, 180)
		key, ts, now := []int64{0, 10, 20, 25, 180, 189}[r.Intn(6)], 1+r.Int63n(60), r.Int63n(42)
		for _, g := range []impl.Groups{many, cutStore(s, 1, anyCut(r)...)} {
			free, freeOne := impl.ResolveAt(g, key, now), impl.ResolveAt(one, key, now)
			checkStored(t, "resolved", union(free.Code, free.Groups), union(freeOne.Code, freeOne.Groups))
			read, readOne := impl.ReadAt(g, key, ts, now), impl.ReadAt(one, key, ts, now)
			checkStored(t, "read", union(read.Code, read.Groups), union(readOne.Code, readOne.Groups))
			all, allOne := impl.ReadAll(g, ts, now), impl.ReadAll(one, ts, now)
			checkStored(t, "all read", union(all.Code, all.Groups), union(allOne.Code, allOne.Groups))
			checkStored(t, "cleared", impl.UnionOf(impl.ClearAll(g, now).Groups), impl.UnionOf(impl.ClearAll(one, now).Groups))
			if read.Has != readOne.Has || read.Value != readOne.Value || !slices.Equal(all.Pairs, allOne.Pairs) || impl.FateOf(g, key, now) != impl.FateOf(one, key, now) {
				t.Fatalf("%d at %d, now %d, of %+v: cut in another way, another answer", key, ts, now, g)
			}
		}
	}
}

// memoryGroups have what is done, taken back and locked, and stores in which nothing changes.
func memoryGroups() (list []impl.Groups) {
	s := wrote(held(put43(10, 20), 180, 5, 2, 10, 20), 10, 8, 5, 1)
	s = held(held(wrote(s, 189, 4, 3, 1), 21, 9, 1, 25, 3), 20, 12, 3, 20, 100000)
	for _, from := range []impl.Store{s, plainStore(), crowded(s, 199), {}} {
		list = append(list, cutStore(from, 1), cutStore(from, 1, 20), cutStore(from, 1, 10, 21, 25, 90, 180))
	}
	return list
}

// P1: arguments stay as they were, answers are new memory, also where nothing changes.
func TestResolveNewMemory(t *testing.T) {
	for _, g := range memoryGroups() {
		for _, n := range []int64{-1, 0, 1, 10, 11, 20, 21, 43, 180, 189, 200} {
			for name, call := range map[string]func(g impl.Groups) impl.Groups{
				"FateOf":    func(g impl.Groups) impl.Groups { impl.FateOf(g, n, 9); return impl.Groups{} },
				"ResolveAt": func(g impl.Groups) impl.Groups { return impl.ResolveAt(g, n, 9).Groups },
				"ReadAt":    func(g impl.Groups) impl.Groups { return impl.ReadAt(g, n, 9, 9).Groups },
				"ReadAll":   func(g impl.Groups) impl.Groups { return impl.ReadAll(g, n, 9).Groups },
				"ClearAll":  func(g impl.Groups) impl.Groups { return impl.ClearAll(g, n).Groups },
			} {
				checkGroupsMemory(t, name, g, call)
			}
		}
	}
}

// P1: so of the pairs of an answer.
func TestPairsAreNewMemory(t *testing.T) {
	for _, from := range memoryGroups() {
		for _, ts := range []int64{1, 4, 8, 9, 11, 12, 100000} {
			g, stays := roomyGroups(from)
			first, second := impl.ReadAll(g, ts, 9), impl.ReadAll(g, ts, 9)
			pairs, firstGroups, secondGroups := slices.Clone(second.Pairs), copyGroups(first.Groups), copyGroups(second.Groups)
			for i := range first.Pairs[:cap(first.Pairs)] {
				first.Pairs[:cap(first.Pairs)][i] = impl.Pair{Key: -7, Value: -7}
			}
			if !stays() || !slices.Equal(second.Pairs, pairs) || !equalGroups(first.Groups, firstGroups) || !equalGroups(second.Groups, secondGroups) {
				t.Errorf("pairs read at %d share memory", ts)
			}
			for _, spoilOne := range append(spoilLists(second.Groups), spoilLists(g)...) {
				spoilOne()
			}
			if !slices.Equal(second.Pairs, pairs) {
				t.Errorf("pairs read at %d changed with the groups", ts)
			}
			checkReadAll(t, "again", impl.ReadAll(from, ts, 9), impl.ReadAllResult{Code: second.Code, Pairs: pairs, Groups: secondGroups})
		}
	}
}

type resolveAnswers struct {
	fate           impl.IntResult
	free, cleared  impl.GroupsResult
	read, readLate impl.ReadResult
	all            impl.ReadAllResult
}

func askResolve(g impl.Groups, n int64) resolveAnswers {
	return resolveAnswers{impl.FateOf(g, n, 22), impl.ResolveAt(g, n, 22), impl.ClearAll(g, n), impl.ReadAt(g, n, 30, 22), impl.ReadAt(g, n, 100000, 41), impl.ReadAll(g, n, 41)}
}

// P1: whatever was asked ahead of it, and beside it, an answer is the same; the order of a map is not to be seen.
func TestResolveAnswersHangOnArguments(t *testing.T) {
	for _, s := range []impl.Store{leftStores(103)[7], rawStores(104)[39]} {
		for _, g := range []impl.Groups{cutStore(s, 1), cutStore(s, 1, 10, 20, 25, 90, 180)} {
			checkSteady(t, func(n int64) any { return askResolve(g, n) })
		}
	}
}
