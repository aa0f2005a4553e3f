package tests

import (
	"math"
	"math/rand"
	"reflect"
	"slices"
	"testing"

	"loop.example/g00331/impl"
)

func TestStatusConstants(t *testing.T) {
	if impl.StatusNone != 0 || impl.StatusLocked != 1 || impl.StatusDone != 2 || impl.StatusBack != 3 {
		t.Error("states")
	}
}

// allKinds has on 11 a write of each kind and a lock that deletes, on 12 a lock alone; on 13 a cell that nobody needs.
func allKinds() impl.Store {
	return impl.Store{
		Cells: []impl.Cell{{Key: 11, Start: 2, Value: 5}, {Key: 13, Start: 2, Value: 6}},
		Locks: []impl.Lock{{Key: 11, Start: 20, Kind: impl.WriteDelete, Primary: 12, Until: 30}, {Key: 12, Start: 20, Kind: impl.WriteLock, Primary: 12, Until: 30}},
		Writes: []impl.Write{
			{Key: 11, Commit: 4, Start: 2, Kind: impl.WritePut}, {Key: 11, Commit: 6, Start: 6, Kind: impl.WriteBack},
			{Key: 11, Commit: 8, Start: 5, Kind: impl.WriteLock}, {Key: 11, Commit: 9, Start: 7, Kind: impl.WriteDelete},
		},
	}
}

// number is what tells value, or, where there is none, that alone.
func number(value int64) impl.IntResult {
	if value == 0 {
		return impl.IntResult{Code: impl.ErrNone}
	}
	return impl.IntResult{Value: value}
}

func TestStatusOfEach(t *testing.T) {
	for _, c := range []struct{ key, start, status, commit int64 }{
		{11, 2, impl.StatusDone, 4}, {11, 7, impl.StatusDone, 9}, {11, 5, impl.StatusDone, 8},
		{11, 6, impl.StatusBack, 0}, {11, 20, impl.StatusLocked, 0}, {12, 20, impl.StatusLocked, 0},
		{11, 4, impl.StatusNone, 0}, {11, 8, impl.StatusNone, 0}, {11, 19, impl.StatusNone, 0}, {11, 21, impl.StatusNone, 0},
		{12, 2, impl.StatusNone, 0}, {12, 6, impl.StatusNone, 0}, {13, 2, impl.StatusNone, 0}, {13, 20, impl.StatusNone, 0},
		{11, 0, impl.StatusNone, 0}, {11, -2, impl.StatusNone, 0}, {11, 100001, impl.StatusNone, 0},
		{11, math.MinInt64, impl.StatusNone, 0}, {11, math.MaxInt64, impl.StatusNone, 0},
	} {
		if got := impl.StatusOf(allKinds(), c.key, c.start); got != (impl.IntResult{Value: c.status}) {
			t.Errorf("StatusOf %d, %d: %+v, want %d", c.key, c.start, got, c.status)
		}
		if got := impl.CommitOf(allKinds(), c.key, c.start); got != number(c.commit) {
			t.Errorf("CommitOf %d, %d: %+v, want %d", c.key, c.start, got, c.commit)
		}
	}
	for key, code := range map[int64]int64{1: impl.ErrForm, 26: impl.ErrForm, 199: impl.ErrForm, -1: impl.ErrRange, 200: impl.ErrRange, math.MinInt64: impl.ErrRange, math.MaxInt64: impl.ErrRange} {
		for _, start := range []int64{2, 0, 20, math.MinInt64, math.MaxInt64} {
			status, commit := impl.StatusOf(allKinds(), key, start), impl.CommitOf(allKinds(), key, start)
			if want := (impl.IntResult{Code: code}); status != want || commit != want {
				t.Errorf("%d, %d: %+v and %+v, want %d alone", key, start, status, commit, code)
			}
		}
	}
}

// What chapter 3 did to one, from its first word to its end.
func TestStatusOnTheWay(t *testing.T) {
	for _, c := range []struct {
		name   string
		s      impl.Store
		status int64
	}{{"nothing", impl.Store{}, impl.StatusNone}, {"said", put10(), impl.StatusLocked}, {"done", done10(), impl.StatusDone}, {"taken back", back10(), impl.StatusBack}} {
		if got := impl.StatusOf(c.s, 10, 3); got != (impl.IntResult{Value: c.status}) {
			t.Errorf("%s: %+v, want %d", c.name, got, c.status)
		}
		for _, start := range []int64{1, 2, 4, 5} {
			if got := impl.StatusOf(c.s, 10, start); got != (impl.IntResult{}) {
				t.Errorf("%s, of %d: %+v, want none", c.name, start, got)
			}
		}
	}
}

func TestCountWrites(t *testing.T) {
	s := allKinds()
	s.Writes = append(s.Writes, impl.Write{Key: 13, Commit: 3, Start: 3, Kind: impl.WriteBack})
	for key, want := range map[int64]impl.IntResult{
		11: {Value: 4}, 13: {Value: 1}, 12: {}, 10: {}, 0: {}, 189: {}, 190: {Code: impl.ErrForm}, 9: {Code: impl.ErrForm},
		-1: {Code: impl.ErrRange}, 200: {Code: impl.ErrRange}, math.MinInt64: {Code: impl.ErrRange}, math.MaxInt64: {Code: impl.ErrRange},
	} {
		if got := impl.CountWrites(s, key); got != want {
			t.Errorf("CountWrites %d: %+v, want %+v", key, got, want)
		}
	}
	if got := impl.CountWrites(impl.Store{Writes: fullWrites(200)}, 10); got != (impl.IntResult{Value: 200}) {
		t.Errorf("all writes: %+v", got)
	}
	if got := impl.CountWrites(impl.Store{}, 10); got != (impl.IntResult{}) {
		t.Errorf("no writes: %+v", got)
	}
}

func TestOldestLock(t *testing.T) {
	locks := func(starts ...int64) (s impl.Store) {
		for i, start := range starts {
			s.Locks = append(s.Locks, impl.Lock{Key: 10 + int64(i), Start: start, Kind: impl.WriteLock, Primary: 10})
		}
		return s
	}
	for _, c := range []struct {
		s      impl.Store
		oldest int64
	}{
		{impl.Store{}, 0}, {impl.Store{Locks: []impl.Lock{}}, 0}, {done10(), 0}, {put10(), 3}, {plainStore(), 12}, {impl.Store{Locks: lockEach()}, 6},
		{locks(1), 1}, {locks(100000), 100000}, {locks(4, 2, 9), 2}, {locks(2, 4, 9), 2}, {locks(9, 4, 2), 2}, {locks(9, 3, 5, 3, 3), 3}, {locks(7, 7, 7), 7},
	} {
		if got := impl.OldestLock(c.s); got != number(c.oldest) {
			t.Errorf("OldestLock of %+v: %+v, want %d", c.s.Locks, got, c.oldest)
		}
	}
}

// A sweep on both sides of a put, a delete, a lock alone and one taken back; cells go with what needs them.
func TestSweepAroundWrites(t *testing.T) {
	cells := []impl.Cell{{Key: 10, Start: 2, Value: 5}, {Key: 10, Start: 8, Value: 6}, {Key: 10, Start: 15, Value: 7}}
	writes := []impl.Write{
		{Key: 10, Commit: 4, Start: 2, Kind: impl.WritePut}, {Key: 10, Commit: 6, Start: 5, Kind: impl.WriteLock},
		{Key: 10, Commit: 7, Start: 7, Kind: impl.WriteBack}, {Key: 10, Commit: 10, Start: 8, Kind: impl.WritePut},
		{Key: 10, Commit: 12, Start: 11, Kind: impl.WriteDelete}, {Key: 10, Commit: 13, Start: 13, Kind: impl.WriteBack},
		{Key: 10, Commit: 14, Start: 9, Kind: impl.WriteLock}, {Key: 10, Commit: 16, Start: 15, Kind: impl.WritePut},
		{Key: 10, Commit: 18, Start: 17, Kind: impl.WriteLock},
	}
	for _, c := range []struct {
		safe   int64
		cells  []int
		writes []int
	}{
		{1, []int{0, 1, 2}, []int{0, 1, 2, 3, 4, 5, 6, 7, 8}},
		{3, []int{0, 1, 2}, []int{0, 1, 2, 3, 4, 5, 6, 7, 8}},
		{4, []int{0, 1, 2}, []int{0, 1, 2, 3, 4, 5, 6, 7, 8}},
		{5, []int{0, 1, 2}, []int{0, 1, 2, 3, 4, 5, 6, 7, 8}},
		{6, []int{0, 1, 2}, []int{0, 2, 3, 4, 5, 6, 7, 8}},
		{7, []int{0, 1, 2}, []int{0, 3, 4, 5, 6, 7, 8}},
		{9, []int{0, 1, 2}, []int{0, 3, 4, 5, 6, 7, 8}},
		{10, []int{1, 2}, []int{3, 4, 5, 6, 7, 8}},
		{11, []int{1, 2}, []int{3, 4, 5, 6, 7, 8}},
		{12, []int{2}, []int{5, 6, 7, 8}},
		{13, []int{2}, []int{6, 7, 8}},
		{14, []int{2}, []int{7, 8}},
		{15, []int{2}, []int{7, 8}},
		{16, []int{2}, []int{7, 8}},
		{17, []int{2}, []int{7, 8}},
		{18, []int{2}, []int{7}},
		{100000, []int{2}, []int{7}},
	} {
		var want impl.Store
		for _, i := range c.cells {
			want.Cells = append(want.Cells, cells[i])
		}
		for _, i := range c.writes {
			want.Writes = append(want.Writes, writes[i])
		}
		checkStored(t, "around writes", impl.SweepStore(impl.Store{Cells: cells, Writes: writes}, c.safe), impl.StoreResult{Store: want})
	}
}

// The last of a key, by kind, with its Commit at 5: safe below it, at it and above it.
func TestSweepTheLast(t *testing.T) {
	cell := []impl.Cell{{Key: 10, Start: 3, Value: 7}}
	for kind := int64(impl.WritePut); kind <= impl.WriteLock; kind++ {
		s := impl.Store{Cells: cell, Writes: []impl.Write{{Key: 10, Commit: 5, Start: 3, Kind: kind}}}
		for _, safe := range []int64{1, 3, 4, 5, 6, 100000} {
			var want impl.Store
			if safe < 5 || kind == impl.WritePut {
				want.Writes = s.Writes
			}
			if kind == impl.WritePut {
				want.Cells = cell
			}
			checkStored(t, "the last", impl.SweepStore(s, safe), impl.StoreResult{Store: want})
		}
	}
	back := impl.Store{Cells: cell, Writes: back10().Writes}
	checkStored(t, "taken back, below", impl.SweepStore(back, 2), impl.StoreResult{Store: back10()})
	checkStored(t, "taken back, at", impl.SweepStore(back, 3), impl.StoreResult{})
	checkStored(t, "taken back, above", impl.SweepStore(back, 4), impl.StoreResult{})
	checkStored(t, "taken back at the end", impl.SweepStore(impl.Store{Writes: []impl.Write{{Key: 10, Commit: 100000, Start: 100000, Kind: impl.WriteBack}}}, 100000), impl.StoreResult{})
}

// Two keys have their own last ones, also where times and starts are the same.
func TestSweepKeyByKey(t *testing.T) {
	s := impl.Store{
		Cells: []impl.Cell{{Key: 10, Start: 2, Value: 1}, {Key: 11, Start: 2, Value: 2}, {Key: 11, Start: 4, Value: 3}, {Key: 189, Start: 1, Value: 4}},
		Writes: []impl.Write{
			{Key: 10, Commit: 3, Start: 2, Kind: impl.WritePut}, {Key: 11, Commit: 3, Start: 2, Kind: impl.WritePut},
			{Key: 11, Commit: 5, Start: 4, Kind: impl.WritePut}, {Key: 12, Commit: 3, Start: 2, Kind: impl.WriteDelete},
			{Key: 12, Commit: 9, Start: 4, Kind: impl.WriteDelete}, {Key: 189, Commit: 2, Start: 1, Kind: impl.WritePut},
		},
	}
	checkStored(t, "key by key", impl.SweepStore(s, 5), impl.StoreResult{Store: impl.Store{
		Cells: []impl.Cell{{Key: 10, Start: 2, Value: 1}, {Key: 11, Start: 4, Value: 3}, {Key: 189, Start: 1, Value: 4}},
		Writes: []impl.Write{
			{Key: 10, Commit: 3, Start: 2, Kind: impl.WritePut}, {Key: 11, Commit: 5, Start: 4, Kind: impl.WritePut},
			{Key: 12, Commit: 9, Start: 4, Kind: impl.WriteDelete}, {Key: 189, Commit: 2, Start: 1, Kind: impl.WritePut},
		},
	}})
}

// A lock above safe stays, and so does the cell that it needs; one that is not above it stops the sweep.
func TestSweepBesideLocks(t *testing.T) {
	s := impl.Store{
		Cells: []impl.Cell{{Key: 10, Start: 3, Value: 7}, {Key: 10, Start: 5, Value: 8}, {Key: 11, Start: 5, Value: 9}, {Key: 12, Start: 5, Value: 1}, {Key: 13, Start: 5, Value: 2}},
		Locks: []impl.Lock{
			{Key: 10, Start: 5, Kind: impl.WritePut, Primary: 10, Until: 9}, {Key: 11, Start: 5, Kind: impl.WriteDelete, Primary: 10, Until: 9},
			{Key: 12, Start: 5, Kind: impl.WriteLock, Primary: 10, Until: 9}, {Key: 14, Start: 6, Kind: impl.WriteLock, Primary: 14},
		},
		Writes: []impl.Write{{Key: 10, Commit: 4, Start: 4, Kind: impl.WriteBack}},
	}
	swept := impl.Store{Cells: []impl.Cell{{Key: 10, Start: 5, Value: 8}}, Locks: s.Locks}
	checkStored(t, "a lock just above", impl.SweepStore(s, 4), impl.StoreResult{Store: swept})
	unswept := impl.Store{Cells: swept.Cells, Locks: s.Locks, Writes: s.Writes}
	checkStored(t, "locks above", impl.SweepStore(s, 3), impl.StoreResult{Store: unswept})
	checkStored(t, "locks far above", impl.SweepStore(s, 1), impl.StoreResult{Store: unswept})
	for _, safe := range []int64{5, 6, 7, 99999, 100000} {
		checkStored(t, "a lock that is not above", impl.SweepStore(s, safe), refuse(impl.ErrLocked))
	}
	last := impl.Store{Locks: []impl.Lock{{Key: 10, Start: 9, Kind: 3, Primary: 10}, {Key: 11, Start: 5, Kind: 2, Primary: 10}}}
	checkStored(t, "the last lock is below", impl.SweepStore(last, 6), refuse(impl.ErrLocked))
	checkStored(t, "all locks are above", impl.SweepStore(last, 4), impl.StoreResult{Store: last})
	checkStored(t, "a lock at the end", impl.SweepStore(impl.Store{Locks: []impl.Lock{{Key: 10, Start: 100000, Kind: 3, Primary: 10}}}, 100000), refuse(impl.ErrLocked))
}

func TestSweepTimes(t *testing.T) {
	for _, safe := range []int64{math.MinInt64, -100000, -1, 0, 100001, math.MaxInt32, math.MaxInt64 - 1, math.MaxInt64} {
		for _, s := range []impl.Store{{}, plainStore(), put10(), done10(), {Locks: lockEach()}} {
			checkStored(t, "no time", impl.SweepStore(s, safe), refuse(impl.ErrRange))
		}
	}
	for _, safe := range []int64{1, 2, 99999, 100000} {
		checkStored(t, "nothing", impl.SweepStore(impl.Store{}, safe), impl.StoreResult{})
		checkStored(t, "cells that nobody needs", impl.SweepStore(impl.Store{Cells: fullCells(200)}, safe), impl.StoreResult{})
	}
	checkStored(t, "plain", impl.SweepStore(plainStore(), 11), impl.StoreResult{Store: changed(func(s *impl.Store) {
		s.Cells = []impl.Cell{s.Cells[0], s.Cells[2], s.Cells[3], s.Cells[5]}
		s.Writes = []impl.Write{s.Writes[0], s.Writes[5], s.Writes[6], s.Writes[7], s.Writes[8]}
	})})
}

// A fault of the store comes first, ahead of all that is wrong with the numbers.
func TestStatusAsksTheStore(t *testing.T) {
	checkFaultFirst(t, func(s impl.Store, n, code int64) {
		for i, got := range []impl.IntResult{impl.StatusOf(s, n, n), impl.StatusOf(s, 10, 9), impl.CommitOf(s, n, n), impl.CommitOf(s, 10, 9),
			impl.OldestLock(s), impl.CountWrites(s, n), impl.CountWrites(s, 10)} {
			if got != (impl.IntResult{Code: code}) {
				t.Errorf("call %d at %d of %+v: %+v, want %d alone", i, n, s, got, code)
			}
		}
		checkStored(t, "a store with a fault", impl.SweepStore(s, n), refuse(code))
	})
}

// wantStatus and wantSweep ask for no fault: the store is right.
func wantStatus(s impl.Store, key, start int64) int64 {
	write := writeBy(s, key, func(w impl.Write) bool { return w.Start == start })
	lock := lockOf(s, key)
	switch {
	case write != nil && write.Kind != 4:
		return 2
	case write != nil:
		return 3
	case lock != nil && lock.Start == start:
		return 1
	}
	return 0
}

func wantSweep(s impl.Store, safe int64) impl.StoreResult {
	if !within(safe, 1, 100000) {
		return refuse(impl.ErrRange)
	}
	if slices.ContainsFunc(s.Locks, func(l impl.Lock) bool { return l.Start <= safe }) {
		return refuse(impl.ErrLocked)
	}
	left := impl.Store{Locks: s.Locks}
	for _, w := range s.Writes {
		later := writeBy(s, w.Key, func(o impl.Write) bool { return o.Kind <= 2 && o.Commit > w.Commit && o.Commit <= safe })
		if w.Commit > safe || w.Kind == 1 && later == nil {
			left.Writes = append(left.Writes, w)
		}
	}
	for _, c := range s.Cells {
		byWrite := slices.ContainsFunc(left.Writes, func(w impl.Write) bool { return w.Kind == 1 && w.Key == c.Key && w.Start == c.Start })
		byLock := slices.ContainsFunc(left.Locks, func(l impl.Lock) bool { return l.Kind == 1 && l.Key == c.Key && l.Start == c.Start })
		if byWrite || byLock {
			left.Cells = append(left.Cells, c)
		}
	}
	return impl.StoreResult{Store: left}
}

// All four that tell a number, at keys and times that meet what the store has, and at odd ones.
func TestStatusAtEachTime(t *testing.T) {
	for _, s := range phaseStores(21) {
		for _, key := range []int64{-1, 0, 1, 10, 11, 20, 25, 180, 189, 190, 200} {
			fault := wantFault(key)
			for _, start := range append(oddTimes(), 17, 20, 23, 26, 29, 30, 31, 32, 35) {
				status, commit := impl.IntResult{Value: wantStatus(s, key, start)}, impl.IntResult{Code: impl.ErrNone}
				if status.Value == impl.StatusDone {
					commit = impl.IntResult{Value: writeBy(s, key, func(w impl.Write) bool { return w.Start == start }).Commit}
				}
				if fault != impl.OK {
					status, commit = impl.IntResult{Code: fault}, impl.IntResult{Code: fault}
				}
				if got := impl.StatusOf(s, key, start); got != status {
					t.Errorf("StatusOf(%+v, %d, %d) = %+v, want %+v", s, key, start, got, status)
				}
				if got := impl.CommitOf(s, key, start); got != commit {
					t.Errorf("CommitOf(%+v, %d, %d) = %+v, want %+v", s, key, start, got, commit)
				}
			}
			count := impl.IntResult{Code: fault}
			for _, w := range s.Writes {
				if w.Key == key {
					count.Value++
				}
			}
			if got := impl.CountWrites(s, key); got != count {
				t.Errorf("CountWrites(%+v, %d) = %+v, want %+v", s, key, got, count)
			}
		}
	}
}

// lockedLater is s with its locks, and the cells that they need, of times behind all its writes.
func lockedLater(s impl.Store) impl.Store {
	moved := copyStore(s)
	for i, lock := range s.Locks {
		moved.Locks[i].Start = min(lock.Start+40, 100000)
		if lock.Kind == impl.WritePut {
			moved = withoutCell(moved, lock.Key, lock.Start)
			moved.Cells = append(moved.Cells, impl.Cell{Key: lock.Key, Start: moved.Locks[i].Start, Value: wantCell(s, lock.Key, lock.Start).Value})
		}
	}
	sortStore(moved)
	return moved
}

func sweepStores(seed int64) (stores []impl.Store) {
	for _, s := range phaseStores(seed) {
		stores = append(stores, s, unlocked(s), lockedLater(s))
	}
	return stores
}

func TestSweepAtEachTime(t *testing.T) {
	swept := 0
	for _, s := range sweepStores(22) {
		for safe := int64(-1); safe <= 42; safe++ {
			got := impl.SweepStore(s, safe)
			checkStored(t, "swept", got, wantSweep(s, safe))
			if got.Code == impl.OK && !equalStores(got.Store, s) {
				swept++
			}
		}
		for _, safe := range []int64{75, 200, 99999, 100000, 100001, math.MaxInt64, math.MinInt64} {
			checkStored(t, "swept", impl.SweepStore(s, safe), wantSweep(s, safe))
		}
	}
	if swept < 100 {
		t.Errorf("only %d sweeps changed something", swept)
	}
}

// sweptKeys are keys that most stores of these tests have something of.
func sweptKeys() []int64 { return []int64{0, 10, 20, 21, 25, 43, 180, 189} }

// P5: behind a sweep all from that time on is read as before; key by key, and all at once.
func TestSweptIsReadAsBefore(t *testing.T) {
	tried := 0
	for _, s := range sweepStores(23) {
		for _, safe := range []int64{1, 3, 7, 12, 19, 27, 34, 40, 100000} {
			swept := impl.SweepStore(s, safe)
			if swept.Code != impl.OK {
				continue
			}
			tried++
			for _, ts := range []int64{safe, safe + 1, safe + 2, safe + 5, safe + 11, safe + 40, 99999, 100000} {
				if ts > 100000 || ts < safe {
					continue
				}
				before, after := impl.ScanAt(s, 0, 200, ts), impl.ScanAt(swept.Store, 0, 200, ts)
				if !equalScans(before, after) {
					t.Fatalf("%+v swept at %d, read at %d: %+v, want %+v", s, safe, ts, after, before)
				}
				for _, key := range sweptKeys() {
					before, after := impl.GetAt(s, key, ts), impl.GetAt(swept.Store, key, ts)
					if before != after || impl.BlockedAt(s, key, ts) != impl.BlockedAt(swept.Store, key, ts) {
						t.Fatalf("%d of %+v swept at %d, read at %d: %+v, want %+v", key, s, safe, ts, after, before)
					}
				}
			}
		}
	}
	if tried < 100 {
		t.Errorf("only %d were swept", tried)
	}
}

// What is swept twice is as if it had been swept at the later time alone.
func TestSweptTwice(t *testing.T) {
	for _, s := range sweepStores(24) {
		for _, first := range []int64{1, 5, 13, 22, 36} {
			once := impl.SweepStore(s, first)
			if once.Code != impl.OK {
				continue
			}
			checkStored(t, "swept again", impl.SweepStore(once.Store, first), once)
			for _, second := range []int64{first + 1, first + 4, first + 17, 100000} {
				checkStored(t, "swept later", impl.SweepStore(once.Store, second), impl.SweepStore(s, second))
			}
		}
	}
}

// P5: who goes on with what was swept has the answers of who goes on with what was not.
func TestGoneOnBehindASweep(t *testing.T) {
	r := rand.New(rand.NewSource(25))
	keys := []int64{0, 10, 20, 189}
	for range 10 {
		var whole, swept impl.Store
		sweeps, safe := 0, int64(0)
		for now := int64(2); now < 150; now++ {
			key := keys[r.Intn(len(keys))]
			start := max(safe+1, now-r.Int63n(8))
			if lock := lockOf(whole, key); lock != nil && r.Intn(4) > 0 {
				start = lock.Start
			}
			call := func(s impl.Store) impl.StoreResult { return impl.Prewrite(s, key, start, 1+now%3, 0, key, now) }
			switch r.Intn(5) {
			case 0, 1:
				call = func(s impl.Store) impl.StoreResult { return impl.CommitKey(s, key, start, now) }
			case 2:
				call = func(s impl.Store) impl.StoreResult { return impl.RollbackKey(s, key, start) }
			}
			one, other := call(whole), call(swept)
			if one.Code != other.Code {
				t.Fatalf("at %d: code %d, and %d in what was swept", now, one.Code, other.Code)
			}
			if one.Code == impl.OK {
				whole, swept = one.Store, other.Store
			}
			if r.Intn(8) == 0 {
				if got := impl.SweepStore(swept, max(1, now-10)); got.Code == impl.OK {
					swept, safe, sweeps = got.Store, max(1, now-10), sweeps+1
				}
			}
			for _, ts := range []int64{max(1, safe), safe + 1, safe + 4, now, now + 1} {
				for _, k := range keys {
					if got, want := impl.GetAt(swept, k, ts), impl.GetAt(whole, k, ts); got != want {
						t.Fatalf("%d at %d, swept at %d: %+v, want %+v", k, ts, safe, got, want)
					}
				}
			}
		}
		if sweeps == 0 || len(swept.Writes) >= len(whole.Writes) {
			t.Errorf("%d sweeps, %d writes are left of %d", sweeps, len(swept.Writes), len(whole.Writes))
		}
	}
}

// P1: arguments stay as they were, answers are new memory, also where nothing changes.
func TestStatusNewMemory(t *testing.T) {
	for name, call := range map[string]func(s impl.Store) impl.Store{
		"swept":          func(s impl.Store) impl.Store { return impl.SweepStore(s, 11).Store },
		"nothing swept":  func(s impl.Store) impl.Store { return impl.SweepStore(s, 1).Store },
		"stopped":        func(s impl.Store) impl.Store { return impl.SweepStore(s, 12).Store },
		"no time":        func(s impl.Store) impl.Store { return impl.SweepStore(s, 0).Store },
		"status":         func(s impl.Store) impl.Store { impl.StatusOf(s, 10, 9); return impl.Store{} },
		"status, locked": func(s impl.Store) impl.Store { impl.StatusOf(s, 21, 12); return impl.Store{} },
		"commit":         func(s impl.Store) impl.Store { impl.CommitOf(s, 10, 9); return impl.Store{} },
		"oldest":         func(s impl.Store) impl.Store { impl.OldestLock(s); return impl.Store{} },
		"count":          func(s impl.Store) impl.Store { impl.CountWrites(s, 10); return impl.Store{} },
	} {
		for _, from := range []impl.Store{plainStore(), withoutCell(plainStore(), 43, 5)} {
			checkOwnMemory(t, name, from, call)
		}
	}
}

type statusAnswers struct {
	status, commit, count, oldest impl.IntResult
	swept                         impl.StoreResult
}

func askStatus(s impl.Store, key int64) statusAnswers {
	return statusAnswers{impl.StatusOf(s, key, 12), impl.CommitOf(s, key, 12), impl.CountWrites(s, key), impl.OldestLock(s), impl.SweepStore(s, key)}
}

// P1: whatever was asked ahead of it, and beside it, an answer is the same; the order of a map is not to be seen.
func TestStatusAnswersHangOnArguments(t *testing.T) {
	s := lockedLater(madeStore(rand.New(rand.NewSource(26)), 150))
	checkSteady(t, func(key int64) any { return askStatus(s, key) })
	if first, second := askStatus(s, 10), askStatus(copyStore(s), 10); !reflect.DeepEqual(first, second) {
		t.Errorf("%+v, and of the same store %+v", first, second)
	}
}
