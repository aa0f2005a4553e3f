package tests

import (
	"fmt"
	"math"
	"slices"
	"testing"

	"loop.example/g00331/impl"
)

func TestWorldConstants(t *testing.T) {
	if impl.MaxTxns != 16 || impl.Patience != 20 {
		t.Error("bounds")
	}
}

func noWorld(code int64) impl.WorldResult { return impl.WorldResult{Code: code} }

func movedTo(w impl.World) impl.WorldResult { return impl.WorldResult{Moved: true, World: w} }

func stayed(w impl.World) impl.WorldResult { return impl.WorldResult{World: w} }

func copyWorld(w impl.World) impl.World {
	kept := impl.World{Now: w.Now, Oracle: w.Oracle, Groups: copyGroups(w.Groups), Txns: []impl.Txn{}}
	for _, txn := range w.Txns {
		kept.Txns = append(kept.Txns, changedTxn(txn, func(*impl.Txn) {}))
	}
	return kept
}

func equalWorlds(a, b impl.World) bool {
	same := a.Now == b.Now && a.Oracle == b.Oracle && equalGroups(a.Groups, b.Groups)
	return same && slices.EqualFunc(a.Txns, b.Txns, equalTxns)
}

func changedWorld(w impl.World, change func(w *impl.World)) impl.World {
	next := copyWorld(w)
	change(&next)
	return next
}

// checkWorld: the code, Moved, all of the world, and no fault in it; beside a code nothing.
func checkWorld(t *testing.T, name string, got, want impl.WorldResult) {
	t.Helper()
	if got.Code != want.Code || got.Moved != want.Moved || !equalWorlds(got.World, want.World) {
		t.Errorf("%s: %+v, want %+v", name, got, want)
	}
	if fault := wantWorldFault(got.World); got.Code == impl.OK && fault != impl.OK {
		t.Errorf("%s: %+v has the fault %d", name, got.World, fault)
	}
}

// wantWorldFault and the others up to wantFall say the chapter once more, with its own numbers.
func wantWorldFault(w impl.World) int64 {
	if !within(w.Now, 0, 100000) {
		return impl.ErrRange
	}
	for _, code := range []int64{wantOracleFault(w.Oracle), wantGroupsFault(w.Groups)} {
		if code != impl.OK {
			return code
		}
	}
	if len(w.Txns) > 16 {
		return impl.ErrMany
	}
	seen := map[int64]bool{}
	for _, txn := range w.Txns {
		if code := wantTxnFault(txn); code != impl.OK {
			return code
		}
		if max(txn.Start, txn.Commit) >= w.Oracle.Next {
			return impl.ErrRange
		}
		if seen[txn.Start] {
			return impl.ErrTaken
		}
		seen[txn.Start] = true
	}
	return impl.OK
}

func wantNewWorld(first int64) impl.WorldResult {
	if !within(first, 1, 100000) {
		return noWorld(impl.ErrRange)
	}
	return stayed(impl.World{Oracle: oracle(first, first), Groups: cutStore(impl.Store{}, 1)})
}

func wantBegin(w impl.World, reads []int64, writes []impl.Item) impl.WorldResult {
	if code := wantWorldFault(w); code != impl.OK {
		return noWorld(code)
	}
	if len(w.Txns) == 16 {
		return noWorld(impl.ErrMany)
	}
	granted := wantGranted(w.Oracle)
	if granted.Code != impl.OK {
		return noWorld(granted.Code)
	}
	until := w.Now + 20
	if until > 100000 {
		until = 100000
	}
	begun := wantNewTxn(granted.Ts, until, reads, writes)
	if begun.Code != impl.OK {
		return noWorld(begun.Code)
	}
	next := copyWorld(w)
	next.Oracle, next.Txns = granted.Oracle, append(next.Txns, begun.Txn)
	return movedTo(next)
}

func wantPlace(w impl.World, place int64) int64 {
	if code := wantWorldFault(w); code != impl.OK {
		return code
	}
	if !within(place, 0, int64(len(w.Txns))-1) {
		return impl.ErrRange
	}
	return impl.OK
}

// A step has one of these happen.
const (
	saysNext    = "says what it will do"
	frees       = "meets a lock, and resolves it"
	waits       = "meets a lock, and waits"
	isLate      = "is taken back, as it may not say it"
	getsTime    = "has its Commit"
	getsNone    = "is taken back, as there is no time left"
	doesPrimary = "does the first one"
	comesLate   = "is taken back, as it comes too late"
	doesNext    = "does one more"
	doesNot     = "goes on behind one that is not done"
	isDone      = "is done"
	takesNext   = "takes one back"
	takesNot    = "goes on behind one that is not taken back"
	isGone      = "is gone"
	isOver      = "is over"
)

func allHappenings() []string {
	return []string{saysNext, frees, waits, isLate, getsTime, getsNone, doesPrimary, comesLate, doesNext, doesNot, isDone, takesNext, takesNot, isGone, isOver}
}

// wantStep does to all stores as one what is done to the store of a key, and tells what happened.
func wantStep(w impl.World, place int64) (impl.WorldResult, string) {
	if code := wantPlace(w, place); code != impl.OK {
		return noWorld(code), ""
	}
	next, all := copyWorld(w), wantUnionOf(w.Groups)
	happened := wantStepIn(&next, &next.Txns[place], all)
	return impl.WorldResult{Moved: happened != waits && happened != isOver, World: next}, happened
}

func wantStepIn(w *impl.World, txn *impl.Txn, all impl.Store) string {
	did := func(next impl.StoreResult) int64 {
		if next.Code == impl.OK {
			w.Groups = inRanges(next.Store, w.Groups.Ranges)
		}
		return next.Code
	}
	undo := func(why string) string { txn.State, txn.At = 5, 0; return why }
	ended := txn.At == int64(len(txn.Items))
	switch {
	case txn.State == 1 && !ended:
		item := txn.Items[txn.At]
		switch did(wantPrewrite(all, said{item.Key, txn.Start, item.Kind, item.Value, txn.Items[0].Key, txn.Until})) {
		case impl.OK:
			txn.At++
			return saysNext
		case impl.ErrLocked:
			if did(wantResolveIn(all, item.Key, w.Now)) != impl.OK {
				return waits
			}
			return frees
		}
		return undo(isLate)
	case txn.State == 1:
		granted := wantGranted(w.Oracle)
		if granted.Code != impl.OK {
			return undo(getsNone)
		}
		w.Oracle, txn.Commit, txn.State = granted.Oracle, granted.Ts, 2
		return getsTime
	case txn.State == 2:
		if did(wantCommit(all, txn.Items[0].Key, txn.Start, txn.Commit)) != impl.OK {
			return undo(comesLate)
		}
		txn.State, txn.At = 3, 1
		return doesPrimary
	case txn.State == 3 && !ended:
		txn.At++
		if did(wantCommit(all, txn.Items[txn.At-1].Key, txn.Start, txn.Commit)) != impl.OK {
			return doesNot
		}
		return doesNext
	case txn.State == 3:
		txn.State = 4
		return isDone
	case txn.State == 5 && !ended:
		txn.At++
		if did(wantRollback(all, txn.Items[txn.At-1].Key, txn.Start)) != impl.OK {
			return takesNot
		}
		return takesNext
	case txn.State == 5:
		txn.State = 6
		return isGone
	}
	return isOver
}

func wantLeave(w impl.World, place int64) impl.WorldResult {
	if code := wantPlace(w, place); code != impl.OK {
		return noWorld(code)
	}
	if slices.Contains([]int64{4, 6, 7}, w.Txns[place].State) {
		return noWorld(impl.ErrState)
	}
	return movedTo(changedWorld(w, func(w *impl.World) { w.Txns[place].State = 7 }))
}

func wantTick(w impl.World, n int64) impl.WorldResult {
	if code := wantWorldFault(w); code != impl.OK {
		return noWorld(code)
	}
	if !within(n, 0, 1000) || w.Now > 100000-n {
		return noWorld(impl.ErrRange)
	}
	return impl.WorldResult{Moved: n > 0, World: changedWorld(w, func(w *impl.World) { w.Now += n })}
}

func wantCut(w impl.World, at int64) impl.WorldResult {
	if code := wantWorldFault(w); code != impl.OK {
		return noWorld(code)
	}
	if !within(at, -9, 199) {
		return noWorld(impl.ErrRange)
	}
	cut := wantMergeGroups(w.Groups, -at)
	if at > 0 {
		cut = wantSplitGroups(w.Groups, at)
	}
	if cut.Code != impl.OK {
		return noWorld(cut.Code)
	}
	return movedTo(changedWorld(w, func(w *impl.World) { w.Groups = cut.Groups }))
}

func wantFall(w impl.World) impl.WorldResult {
	if code := wantWorldFault(w); code != impl.OK {
		return noWorld(code)
	}
	next := changedWorld(w, func(w *impl.World) { w.Oracle.Next = w.Oracle.Bound })
	return impl.WorldResult{Moved: w.Oracle.Next < w.Oracle.Bound, World: next}
}

// checkStep asks for one step against the chapter's words, and that Moved is what changed; the world stays as it was.
func checkStep(t *testing.T, name string, w impl.World, place int64) (next impl.World, happened string) {
	t.Helper()
	kept := copyWorld(w)
	got := impl.StepWorld(w, place)
	want, happened := wantStep(w, place)
	checkWorld(t, name+", step", got, want)
	if got.Code == impl.OK && got.Moved == equalWorlds(got.World, w) {
		t.Errorf("%s: moved %v, from %+v to %+v", name, got.Moved, w, got.World)
	}
	if !equalWorlds(kept, w) {
		t.Errorf("%s: a step of %d changed the world", name, place)
	}
	return got.World, happened
}

// checkAllOfWorld asks all that take a world, with n in place of each number.
func checkAllOfWorld(t *testing.T, name string, w impl.World, n int64) {
	t.Helper()
	kept := copyWorld(w)
	if got, want := impl.WorldFault(w), wantWorldFault(w); got != want {
		t.Errorf("%s: %+v has the fault %d, want %d", name, w, got, want)
	}
	checkStep(t, name, w, n)
	checkWorld(t, name+", left", impl.LeaveWorld(w, n), wantLeave(w, n))
	checkWorld(t, name+", tick", impl.TickWorld(w, n), wantTick(w, n))
	checkWorld(t, name+", cut", impl.CutWorld(w, n), wantCut(w, n))
	checkWorld(t, name+", fall", impl.FallWorld(w), wantFall(w))
	reads, writes := []int64{n, 10}, []impl.Item{putItem(20, n), deleteItem(43)}
	checkWorld(t, name+", begun", impl.BeginWorld(w, reads, nil), wantBegin(w, reads, nil))
	checkWorld(t, name+", begun", impl.BeginWorld(w, nil, writes), wantBegin(w, nil, writes))
	if !equalWorlds(kept, w) {
		t.Errorf("%s at %d: %+v became %+v", name, n, kept, w)
	}
}

// plainWorld has an own txn of each state, of the times 5, 15 and so on, beside a store with something of all kinds.
func plainWorld() impl.World {
	w := impl.World{Now: 3, Oracle: oracle(79, 85), Groups: cutStore(plainStore(), 1, 20, 43)}
	for state := int64(1); state <= 7; state++ {
		txn := txnIn(state, 3)
		txn.Start += 10 * (state - 1)
		if txn.Commit > 0 {
			txn.Commit = txn.Start + 4
		}
		w.Txns = append(w.Txns, txn)
	}
	return w
}

// manyTxns are n that just began, of the times from start on.
func manyTxns(n int, start int64) (list []impl.Txn) {
	for i := range int64(n) {
		list = append(list, impl.Txn{Start: start + i, Until: 20, State: impl.TxnFirst, Items: someItems(1 + int(i)%12)})
	}
	return list
}

type worldCase struct {
	name string
	w    impl.World
	code int64
}

func rightWorlds() []worldCase {
	plain, empty := plainWorld(), impl.World{Oracle: oracle(1, 1), Groups: cutStore(impl.Store{}, 1)}
	list := []worldCase{{"plain", plain, impl.OK}, {"empty", empty, impl.OK}, {"empty lists in place of none", copyWorld(empty), impl.OK}}
	for _, c := range []struct {
		name   string
		change func(w *impl.World)
	}{
		{"now 0", func(w *impl.World) { w.Now = 0 }}, {"now MaxTs", func(w *impl.World) { w.Now = 100000 }},
		{"now ahead of the times", func(w *impl.World) { w.Now, w.Oracle = 1, oracle(50000, 50000) }},
		{"a start one below Next", func(w *impl.World) { w.Txns[6].Start = 78 }}, {"a Commit one below Next", func(w *impl.World) { w.Txns[3].Commit = 78 }},
		{"the last times", func(w *impl.World) {
			w.Oracle, w.Txns[1].Start, w.Txns[1].Commit = oracle(100000, 100000), 99998, 99999
		}},
		{"no txns", func(w *impl.World) { w.Txns = nil }}, {"one", func(w *impl.World) { w.Txns = w.Txns[:1] }}, {"two", func(w *impl.World) { w.Txns = w.Txns[2:4] }},
		{"as many txns as there may be", func(w *impl.World) { w.Txns = manyTxns(16, 63) }},
		{"a Commit that is a Start", func(w *impl.World) { w.Txns[1].Commit = w.Txns[2].Start }}, {"two of one Commit", func(w *impl.World) { w.Txns[1].Commit = w.Txns[2].Commit }},
		{"starts that fall", func(w *impl.World) { slices.Reverse(w.Txns) }}, {"all of the same keys", func(w *impl.World) { w.Groups = cutStore(impl.Store{}, 1) }},
		{"times in the store that are not granted", func(w *impl.World) {
			w.Groups = cutStore(wrote(plainStore(), 189, 90000, 80000, impl.WritePut), 1)
		}},
		{"full groups", func(w *impl.World) { w.Groups = fullGroups() }},
	} {
		list = append(list, worldCase{c.name, changedWorld(plain, c.change), impl.OK})
	}
	return list
}

func wrongWorlds() []worldCase {
	list := []worldCase{{"nothing", impl.World{}, impl.ErrRange}}
	add := func(name string, code int64, change func(w *impl.World)) {
		list = append(list, worldCase{name, changedWorld(plainWorld(), change), code})
	}
	for _, now := range []int64{math.MinInt64, -1, 100001, math.MaxInt64 - 20, math.MaxInt64} {
		add(fmt.Sprintf("now %d", now), impl.ErrRange, func(w *impl.World) { w.Now = now })
	}
	for _, o := range []impl.Oracle{{}, oracle(0, 85), oracle(79, 0), oracle(79, 100001), oracle(-1, -1), oracle(86, 85), oracle(79, 78), oracle(math.MinInt64, math.MaxInt64)} {
		add(fmt.Sprintf("the oracle %+v", o), wantOracleFault(o), func(w *impl.World) { w.Oracle = o })
	}
	for _, c := range wrongGroups() {
		add("groups: "+c.name, c.code, func(w *impl.World) { w.Groups = c.g })
	}
	for _, n := range []int{17, 18, 100} {
		add(fmt.Sprintf("%d txns", n), impl.ErrMany, func(w *impl.World) { w.Oracle, w.Txns = oracle(900, 900), manyTxns(n, 63) })
	}
	for i, c := range wrongTxns() {
		add("txn: "+c.name, c.code, func(w *impl.World) { w.Txns[i%7] = c.txn })
	}
	for place := range int64(7) {
		add("a start at Next", impl.ErrRange, func(w *impl.World) { w.Txns[place] = impl.Txn{Start: 79, State: 1 + place%2*5, Items: someItems(1)} })
		add("a start above Next", impl.ErrRange, func(w *impl.World) { w.Txns[place] = impl.Txn{Start: 100000, State: 1, Items: someItems(1)} })
		add("a start at Next, below Bound", impl.ErrRange, func(w *impl.World) { w.Txns[place] = impl.Txn{Start: 80, State: 6, Items: someItems(1)} })
		if state := place + 1; state > 1 {
			add("a Commit at Next", impl.ErrRange, func(w *impl.World) { w.Txns[place].Commit = 79 })
			add("a Commit above Next", impl.ErrRange, func(w *impl.World) { w.Txns[place].Commit = 100000 })
		}
		for ahead := range place {
			add("two of one Start", impl.ErrTaken, func(w *impl.World) {
				w.Txns[place] = impl.Txn{Start: w.Txns[ahead].Start, State: 7, Items: someItems(1)}
			})
		}
	}
	return list
}

func TestWorldFault(t *testing.T) {
	for _, c := range append(rightWorlds(), wrongWorlds()...) {
		kept := copyWorld(c.w)
		if got, want := impl.WorldFault(c.w), wantWorldFault(c.w); got != c.code || want != c.code {
			t.Errorf("%s: WorldFault is %d, and %d by the tests, want %d", c.name, got, want, c.code)
		}
		if !equalWorlds(kept, c.w) {
			t.Errorf("%s: WorldFault changed the world", c.name)
		}
	}
}

// Start and Commit around the oracle's Next, in each state that may have them.
func TestWorldFaultBesideNext(t *testing.T) {
	for _, next := range []int64{3, 50, 99999, 100000} {
		for _, bound := range []int64{next, 100000} {
			for state := int64(1); state <= 7; state++ {
				for _, start := range []int64{1, next - 2, next - 1, next, next + 1, 100000} {
					for _, commit := range []int64{0, 1, next - 1, next, next + 1, 100000} {
						w := impl.World{Oracle: oracle(next, bound), Groups: cutStore(impl.Store{}, 1)}
						w.Txns = []impl.Txn{{Start: start, Commit: commit, State: state, Items: someItems(2)}}
						if got, want := impl.WorldFault(w), wantWorldFault(w); got != want {
							t.Errorf("Next %d, Start %d, Commit %d, state %d: %d, want %d", next, start, commit, state, got, want)
						}
					}
				}
			}
		}
	}
}

// Each fault beside each that is asked behind it: the first one is told.
func TestWorldFaultFirstCode(t *testing.T) {
	faults := []struct {
		name  string
		wrong func(w *impl.World)
		code  int64
	}{
		{"now", func(w *impl.World) { w.Now = -1 }, impl.ErrRange},
		{"the oracle", func(w *impl.World) { w.Oracle.Bound = 78 }, impl.ErrForm},
		{"the groups", func(w *impl.World) { w.Groups.Ranges[1].Epoch = 0 }, impl.ErrRange},
		{"a store", func(w *impl.World) { w.Groups.Stores[2].Writes = fullWrites(201) }, impl.ErrMany},
		{"the first txn", func(w *impl.World) { w.Txns[0].Items[0].Key = 26 }, impl.ErrForm},
		{"the second one's start", func(w *impl.World) { w.Txns[1].Start, w.Txns[1].Commit = 78, 79 }, impl.ErrRange},
		{"the second one again", func(w *impl.World) { w.Txns[1].Start = w.Txns[0].Start }, impl.ErrTaken},
		{"the third one's items", func(w *impl.World) { w.Txns[2].Items = nil }, impl.ErrMany},
		{"the third one's Commit", func(w *impl.World) { w.Txns[2].Commit = 79 }, impl.ErrRange},
		{"the last one's key twice", func(w *impl.World) { w.Txns[6].Items[1].Key = w.Txns[6].Items[0].Key }, impl.ErrTaken},
		{"the last one's start", func(w *impl.World) { w.Txns[6].Start = 79 }, impl.ErrRange},
		{"the last one again", func(w *impl.World) { w.Txns[6].Start = w.Txns[3].Start }, impl.ErrTaken},
	}
	for i, first := range faults {
		for _, second := range faults[i:] {
			w := changedWorld(plainWorld(), func(w *impl.World) { second.wrong(w); first.wrong(w) })
			if got := impl.WorldFault(w); got != first.code || wantWorldFault(w) != first.code {
				t.Errorf("%s and %s: %d, want %d", first.name, second.name, got, first.code)
			}
		}
		if i < 4 {
			w := changedWorld(plainWorld(), func(w *impl.World) { w.Txns = manyTxns(17, 63); first.wrong(w) })
			if got := impl.WorldFault(w); got != first.code {
				t.Errorf("%s and too many: %d, want %d", first.name, got, first.code)
			}
		}
	}
	many := changedWorld(plainWorld(), func(w *impl.World) { w.Txns = make([]impl.Txn, 17) })
	if got := impl.WorldFault(many); got != impl.ErrMany {
		t.Errorf("too many, and each of them wrong: %d", got)
	}
	own := changedWorld(plainWorld(), func(w *impl.World) {
		w.Txns[6] = impl.Txn{Start: w.Txns[0].Start, Commit: 79, State: 7, Items: someItems(1)}
	})
	if got := impl.WorldFault(own); got != impl.ErrRange {
		t.Errorf("one of the same start with a Commit at Next: %d", got)
	}
}

func TestNewWorld(t *testing.T) {
	for _, first := range append(oddBounds(), oddNumbers()...) {
		checkWorld(t, fmt.Sprintf("new of %d", first), impl.NewWorld(first), wantNewWorld(first))
	}
	for _, first := range []int64{1, 2, 50000, 99999, 100000} {
		got := impl.NewWorld(first)
		whole := impl.Groups{Ranges: spans(span(0, 200, 1)), Stores: []impl.Store{{}}}
		checkWorld(t, "new", got, impl.WorldResult{World: impl.World{Oracle: oracle(first, first), Groups: whole}})
	}
	for _, first := range []int64{math.MinInt64, -1, 0, 100001, math.MaxInt64} {
		checkWorld(t, "no time", impl.NewWorld(first), noWorld(impl.ErrRange))
	}
}

func TestBeginWorld(t *testing.T) {
	first := impl.BeginWorld(impl.NewWorld(7).World, []int64{10, 20, 10}, []impl.Item{putItem(20, 4), deleteItem(43)})
	begun := impl.Txn{Start: 7, Until: 20, State: impl.TxnFirst, Items: []impl.Item{putItem(20, 4), deleteItem(43), lockItem(10)}}
	want := impl.World{Oracle: oracle(8, 17), Groups: cutStore(impl.Store{}, 1), Txns: []impl.Txn{begun}}
	checkWorld(t, "the first one", first, movedTo(want))
	later := impl.TickWorld(first.World, 5).World
	second := impl.Txn{Start: 8, Until: 25, State: impl.TxnFirst, Items: []impl.Item{lockItem(0)}}
	want = changedWorld(want, func(w *impl.World) { w.Now, w.Oracle.Next, w.Txns = 5, 9, append(w.Txns, second) })
	checkWorld(t, "the second one", impl.BeginWorld(later, []int64{0}, nil), movedTo(want))
	for _, c := range rightWorlds() {
		for _, n := range []int{1, 2, 12} {
			checkWorld(t, c.name, impl.BeginWorld(c.w, nil, someItems(n)), wantBegin(c.w, nil, someItems(n)))
			checkWorld(t, c.name, impl.BeginWorld(c.w, someKeys(n), nil), wantBegin(c.w, someKeys(n), nil))
			checkWorld(t, c.name, impl.BeginWorld(c.w, someKeys(n), someItems(n)), wantBegin(c.w, someKeys(n), someItems(n)))
		}
	}
}

// How long the one that begins may be waited for, up to the last time.
func TestBeginWorldUntil(t *testing.T) {
	for now, until := range map[int64]int64{0: 20, 1: 21, 7: 27, 99979: 99999, 99980: 100000, 99981: 100000, 99999: 100000, 100000: 100000} {
		w := changedWorld(plainWorld(), func(w *impl.World) { w.Now = now })
		got := impl.BeginWorld(w, []int64{10}, nil)
		if got.Code != impl.OK || !got.Moved || len(got.World.Txns) != 8 || got.World.Txns[7].Until != until {
			t.Errorf("begun at %d: %+v, want until %d", now, got, until)
		}
		checkWorld(t, "begun", got, wantBegin(w, []int64{10}, nil))
	}
}

// The codes in their order: too many, no time, and those of the new one.
func TestBeginWorldCodes(t *testing.T) {
	fifteen := changedWorld(plainWorld(), func(w *impl.World) { w.Txns = manyTxns(15, 63) })
	sixteen := changedWorld(plainWorld(), func(w *impl.World) { w.Txns = manyTxns(16, 63) })
	at := func(w impl.World, next, bound int64) impl.World {
		return changedWorld(w, func(w *impl.World) { w.Oracle = oracle(next, bound) })
	}
	one, wrong := []impl.Item{putItem(20, 1)}, []impl.Item{putItem(26, 1)}
	for _, c := range []struct {
		name   string
		w      impl.World
		reads  []int64
		writes []impl.Item
		code   int64
	}{
		{"the last one that may be", fifteen, nil, one, impl.OK}, {"one more", sixteen, nil, one, impl.ErrMany},
		{"one more, and wrong", sixteen, []int64{-1}, wrong, impl.ErrMany}, {"one more, without a time", at(sixteen, 99991, 99991), nil, wrong, impl.ErrMany},
		{"the last lease", at(fifteen, 99990, 99990), nil, one, impl.OK}, {"none behind it", at(fifteen, 99991, 99991), nil, one, impl.ErrMany},
		{"the last time", at(fifteen, 99999, 100000), nil, one, impl.OK}, {"no time", at(fifteen, 100000, 100000), nil, one, impl.ErrMany},
		{"no time, and wrong", at(fifteen, 100000, 100000), []int64{26}, wrong, impl.ErrMany},
		{"nothing", fifteen, nil, nil, impl.ErrMany}, {"nothing, in empty lists", fifteen, []int64{}, []impl.Item{}, impl.ErrMany},
		{"twelve reads", fifteen, someKeys(12), nil, impl.OK}, {"thirteen reads", fifteen, someKeys(13), nil, impl.ErrMany},
		{"thirteen reads of one key", fifteen, slices.Repeat([]int64{20}, 13), nil, impl.ErrMany}, {"twelve writes", fifteen, nil, someItems(12), impl.OK},
		{"thirteen writes", fifteen, nil, someItems(13), impl.ErrMany}, {"twelve of both", fifteen, someKeys(12)[6:], someItems(6), impl.OK},
		{"thirteen of both", fifteen, []int64{0}, someItems(12), impl.ErrMany}, {"far too many", fifteen, make([]int64, 5000), make([]impl.Item, 5000), impl.ErrMany},
		{"a read of nothing", fifteen, []int64{10, 26}, one, impl.ErrForm}, {"a read beyond", fifteen, []int64{200}, one, impl.ErrRange}, {"the least read", fifteen, []int64{math.MinInt64}, nil, impl.ErrRange},
		{"a write of nothing", fifteen, nil, wrong, impl.ErrForm}, {"the greatest key", fifteen, nil, []impl.Item{putItem(math.MaxInt64, 1)}, impl.ErrRange},
		{"a put of one more", fifteen, nil, []impl.Item{putItem(20, 10000)}, impl.ErrRange}, {"a delete with a value", fifteen, nil, []impl.Item{{Key: 20, Kind: 2, Value: 1}}, impl.ErrForm},
		{"a kind that is none", fifteen, nil, []impl.Item{{Key: 20, Kind: 4}}, impl.ErrRange}, {"written twice", fifteen, nil, []impl.Item{putItem(20, 1), lockItem(20)}, impl.ErrTaken},
	} {
		got, want := impl.BeginWorld(c.w, c.reads, c.writes), wantBegin(c.w, c.reads, c.writes)
		checkWorld(t, c.name, got, want)
		if got.Code != c.code {
			t.Errorf("%s: code %d, want %d", c.name, got.Code, c.code)
		}
	}
}

func TestLeaveWorld(t *testing.T) {
	w := plainWorld()
	codes := []int64{impl.OK, impl.OK, impl.OK, impl.ErrState, impl.OK, impl.ErrState, impl.ErrState}
	for place, code := range codes {
		for at := range int64(4) {
			from := changedWorld(w, func(w *impl.World) { w.Txns[place].At = at })
			got := impl.LeaveWorld(from, int64(place))
			want := noWorld(code)
			if code == impl.OK {
				want = movedTo(changedWorld(from, func(w *impl.World) { w.Txns[place].State = impl.TxnLeft }))
			}
			checkWorld(t, fmt.Sprintf("state %d, at %d", place+1, at), got, want)
			if code == impl.OK && impl.LeaveWorld(got.World, int64(place)).Code != impl.ErrState {
				t.Errorf("state %d left twice", place+1)
			}
		}
	}
}

// Places at their ends, of a step and of one that leaves; a place that is none tells it also where all are over.
func TestPlacesOfWorlds(t *testing.T) {
	for _, c := range rightWorlds() {
		n := int64(len(c.w.Txns))
		for _, place := range []int64{math.MinInt64, -1, n, n + 1, 16, 17, math.MaxInt64} {
			if within(place, 0, n-1) {
				continue
			}
			checkWorld(t, c.name, impl.StepWorld(c.w, place), noWorld(impl.ErrRange))
			checkWorld(t, c.name, impl.LeaveWorld(c.w, place), noWorld(impl.ErrRange))
		}
		for place := range n {
			_, happened := checkStep(t, c.name, c.w, place)
			checkWorld(t, c.name, impl.LeaveWorld(c.w, place), wantLeave(c.w, place))
			if impl.IsOver(c.w.Txns[place]) != (happened == isOver) {
				t.Errorf("%s: %d %s", c.name, place, happened)
			}
		}
	}
}

func TestTickWorld(t *testing.T) {
	for _, c := range []struct{ now, n, code int64 }{
		{0, 0, impl.OK}, {0, 1, impl.OK}, {0, 7, impl.OK}, {0, 1000, impl.OK}, {0, 1001, impl.ErrRange}, {0, -1, impl.ErrRange}, {5, -5, impl.ErrRange}, {100000, -1, impl.ErrRange},
		{98999, 1000, impl.OK}, {99000, 1000, impl.OK}, {99001, 1000, impl.ErrRange}, {99001, 999, impl.OK}, {99999, 1, impl.OK}, {99999, 2, impl.ErrRange},
		{100000, 0, impl.OK}, {100000, 1, impl.ErrRange}, {100000, 1000, impl.ErrRange}, {100000, 1001, impl.ErrRange},
		{3, math.MinInt64, impl.ErrRange}, {3, math.MaxInt64, impl.ErrRange}, {100000, math.MaxInt64, impl.ErrRange}, {100000, math.MinInt64, impl.ErrRange}, {3, math.MaxInt64 - 2, impl.ErrRange},
	} {
		w := changedWorld(plainWorld(), func(w *impl.World) { w.Now = c.now })
		want := noWorld(c.code)
		if c.code == impl.OK {
			want = impl.WorldResult{Moved: c.n != 0, World: changedWorld(w, func(w *impl.World) { w.Now = c.now + c.n })}
		}
		checkWorld(t, fmt.Sprintf("%d and %d", c.now, c.n), impl.TickWorld(w, c.n), want)
		checkWorld(t, "tick", impl.TickWorld(w, c.n), wantTick(w, c.n))
	}
}

func TestCutWorld(t *testing.T) {
	s := plainStore()
	in := func(g impl.Groups) impl.World {
		return changedWorld(plainWorld(), func(w *impl.World) { w.Groups = g })
	}
	six := cutStore(s, 1, 10, 20, 43, 90, 180)
	for _, c := range []struct {
		name string
		g    impl.Groups
		at   int64
		code int64
		cut  impl.Groups
	}{
		{"split", cutStore(s, 1), 20, impl.OK, inRanges(s, spans(span(0, 20, 2), span(20, 200, 2)))},
		{"split at 1", cutStore(s, 1), 1, impl.OK, inRanges(s, spans(span(0, 1, 2), span(1, 200, 2)))},
		{"split at MaxKey", cutStore(s, 1), 199, impl.OK, inRanges(s, spans(span(0, 199, 2), span(199, 200, 2)))},
		{"behind MaxKey", cutStore(s, 1), 200, impl.ErrRange, impl.Groups{}}, {"the greatest", cutStore(s, 1), math.MaxInt64, impl.ErrRange, impl.Groups{}},
		{"split where one begins", cutStore(s, 1, 20), 20, impl.ErrTaken, impl.Groups{}}, {"split where there are all", six, 50, impl.ErrMany, impl.Groups{}},
		{"split up to the last epoch", cutStore(s, 9998), 20, impl.OK, inRanges(s, spans(span(0, 20, 9999), span(20, 200, 9999)))},
		{"split in the last epoch", cutStore(s, 9999), 20, impl.ErrMany, impl.Groups{}},
		{"joined at 0", cutStore(s, 1, 20), 0, impl.OK, cutStore(s, 3)}, {"one that has none behind it", cutStore(s, 1), 0, impl.ErrRange, impl.Groups{}},
		{"joined at 1", cutStore(s, 1, 20, 43), -1, impl.OK, inRanges(s, spans(span(0, 20, 1), span(20, 200, 4)))},
		{"the last one joined", cutStore(s, 1, 20, 43), -2, impl.ErrRange, impl.Groups{}}, {"joined at 4", six, -4, impl.OK, inRanges(s, append(cutAt(1, 10, 20, 43, 90)[:4], span(90, 200, 7)))},
		{"the last of all joined", six, -5, impl.ErrRange, impl.Groups{}}, {"-9", six, -9, impl.ErrRange, impl.Groups{}}, {"-10", six, -10, impl.ErrRange, impl.Groups{}}, {"-11", six, -11, impl.ErrRange, impl.Groups{}},
		{"the least", six, math.MinInt64, impl.ErrRange, impl.Groups{}}, {"one above the least", six, math.MinInt64 + 1, impl.ErrRange, impl.Groups{}},
		{"joined in the last epoch", cutStore(s, 9998, 20), 0, impl.ErrMany, impl.Groups{}},
	} {
		w := in(c.g)
		want := noWorld(c.code)
		if c.code == impl.OK {
			want = movedTo(in(c.cut))
		}
		checkWorld(t, c.name, impl.CutWorld(w, c.at), want)
	}
	for _, w := range []impl.World{in(cutStore(s, 1)), in(six), in(cutStore(s, 9998, 20)), in(fullGroups())} {
		for at := int64(-14); at <= 204; at++ {
			checkWorld(t, fmt.Sprintf("cut at %d", at), impl.CutWorld(w, at), wantCut(w, at))
		}
	}
}

func TestFallWorld(t *testing.T) {
	for _, c := range []struct {
		next, bound int64
		moved       bool
	}{{79, 85, true}, {84, 85, true}, {85, 85, false}, {100000, 100000, false}, {99999, 100000, true}, {79, 100000, true}} {
		w := changedWorld(plainWorld(), func(w *impl.World) { w.Oracle = oracle(c.next, c.bound) })
		want := changedWorld(w, func(w *impl.World) { w.Oracle = oracle(c.bound, c.bound) })
		got := impl.FallWorld(w)
		checkWorld(t, "fall", got, impl.WorldResult{Moved: c.moved, World: want})
		checkWorld(t, "fall twice", impl.FallWorld(got.World), stayed(want))
	}
}

// A stepCase is one step of a transaction that puts 7 to 10 and 8 to 43 (Start 5, Until 25, Now 3), alone in its world.
type stepCase struct {
	name       string
	s          impl.Store
	state, at  int64
	want       impl.Store
	wantState  int64
	wantAt     int64
	happened   string
	change     func(w *impl.World)
	wantChange func(w *impl.World)
}

func (c stepCase) world(s impl.Store) impl.World {
	txn := impl.Txn{Start: 5, Until: 25, State: c.state, At: c.at, Items: []impl.Item{putItem(10, 7), putItem(43, 8)}}
	if within(c.state, impl.TxnSecond, impl.TxnDone) {
		txn.Commit = 8
	}
	w := impl.World{Now: 3, Oracle: oracle(9, 19), Groups: cutStore(s, 1), Txns: []impl.Txn{txn}}
	if c.change != nil {
		c.change(&w)
	}
	return w
}

func checkStepCases(t *testing.T, cases []stepCase) {
	t.Helper()
	for _, c := range cases {
		for _, g := range append(cutsOf(c.s), cutStore(c.s, 1, 11, 20, 80, 100)) {
			w := changedWorld(c.world(c.s), func(w *impl.World) { w.Groups = g })
			next := changedWorld(w, func(w *impl.World) {
				w.Groups = inRanges(c.want, g.Ranges)
				w.Txns[0].State, w.Txns[0].At = c.wantState, c.wantAt
			})
			if c.wantChange != nil {
				c.wantChange(&next)
			}
			want := impl.WorldResult{Moved: c.happened != waits && c.happened != isOver, World: next}
			checkWorld(t, c.name, impl.StepWorld(w, 0), want)
			if _, happened := checkStep(t, c.name, w, 0); happened != c.happened {
				t.Errorf("%s: it %s, want: it %s", c.name, happened, c.happened)
			}
		}
	}
}

// own is s with a cell and a lock of the case's transaction.
func own(s impl.Store, key, value int64) impl.Store {
	s = copyStore(s)
	s.Cells = append(s.Cells, impl.Cell{Key: key, Start: 5, Value: value})
	s.Locks = append(s.Locks, impl.Lock{Key: key, Start: 5, Kind: impl.WritePut, Primary: 10, Until: 25})
	sortStore(s)
	return s
}

// settled is s where what own has of key is done at 8.
func settled(s impl.Store, key int64) impl.Store {
	return withWrite(withoutLock(s, key, 5), impl.Write{Key: key, Commit: 8, Start: 5, Kind: impl.WritePut})
}

// takenBack is s where what the case's transaction has of key is taken back.
func takenBack(s impl.Store, key int64) impl.Store {
	return withWrite(withoutLock(withoutCell(s, key, 5), key, 5), impl.Write{Key: key, Commit: 5, Start: 5, Kind: impl.WriteBack})
}

// crowdedCells has n cells, all that are more of the keys 12, 90 and 189.
func crowdedCells(s impl.Store, n int) impl.Store {
	s = copyStore(s)
	for i := int64(0); len(s.Cells) < n; i++ {
		s.Cells = append(s.Cells, impl.Cell{Key: []int64{12, 90, 189}[i%3], Start: 1000 + i, Value: i})
	}
	sortStore(s)
	return s
}

func TestStepFirst(t *testing.T) {
	none := impl.Store{}
	first, both := own(none, 10, 7), own(own(none, 10, 7), 43, 8)
	stale := impl.Store{Cells: []impl.Cell{{Key: 10, Start: 5, Value: 99}}}
	ahead := wrote(none, 10, 4, 2, impl.WritePut)
	behind := wrote(wrote(none, 10, 7, 6, impl.WriteLock), 10, 9, 9, impl.WriteBack)
	kinds := func(kind int64) func(w *impl.World) {
		return func(w *impl.World) { w.Txns[0].Items[0] = impl.Item{Key: 10, Kind: kind} }
	}
	const says, undo = impl.TxnFirst, impl.TxnUndo
	checkStepCases(t, []stepCase{
		{"the first one", none, 1, 0, first, says, 1, saysNext, nil, nil},
		{"the last one", first, 1, 1, both, says, 2, saysNext, nil, nil},
		{"the last one, and no lock of the first", none, 1, 1, own(none, 43, 8), says, 2, saysNext, nil, nil},
		{"a delete", none, 1, 0, held(none, 10, 5, impl.WriteDelete, 10, 25), says, 1, saysNext, kinds(2), nil},
		{"a lock alone", none, 1, 0, held(none, 10, 5, impl.WriteLock, 10, 25), says, 1, saysNext, kinds(3), nil},
		{"a delete where an own cell is", stale, 1, 0, impl.Store{Cells: stale.Cells, Locks: held(none, 10, 5, 2, 10, 25).Locks}, says, 1, saysNext, kinds(2), nil},
		{"its own lock is there", first, 1, 0, first, says, 1, saysNext, nil, nil},
		{"its own lock, of another kind", held(none, 10, 5, 3, 43, 0), 1, 0, held(none, 10, 5, 3, 43, 0), says, 1, saysNext, nil, nil},
		{"its own cell is there", stale, 1, 0, first, says, 1, saysNext, nil, nil},
		{"a put that was done ahead", ahead, 1, 0, own(ahead, 10, 7), says, 1, saysNext, nil, nil},
		{"a lock alone and what was taken back behind", behind, 1, 0, own(behind, 10, 7), says, 1, saysNext, nil, nil},
		{"its Until at its end", none, 1, 0, ownUntil(10, 7, 100000), says, 1, saysNext, func(w *impl.World) { w.Txns[0].Until = 100000 }, nil},
		{"its time is over already", none, 1, 0, ownUntil(10, 7, 0), says, 1, saysNext, func(w *impl.World) { w.Txns[0].Until = 0 }, nil},
		{"a put that was done at its start", wrote(none, 10, 5, 4, 1), 1, 0, wrote(none, 10, 5, 4, 1), undo, 0, isLate, nil, nil},
		{"a delete that was done behind it", wrote(none, 10, 8, 6, 2), 1, 0, wrote(none, 10, 8, 6, 2), undo, 0, isLate, nil, nil},
		{"it was taken back", takenBack(none, 10), 1, 0, takenBack(none, 10), undo, 0, isLate, nil, nil},
		{"it was done", settled(first, 10), 1, 0, settled(first, 10), undo, 0, isLate, nil, nil},
		{"the last one was taken back", takenBack(first, 43), 1, 1, takenBack(first, 43), undo, 0, isLate, nil, nil},
		{"too late, and a lock of another one", held(wrote(none, 10, 8, 6, 2), 10, 7, 3, 10, 0), 1, 0, held(wrote(none, 10, 8, 6, 2), 10, 7, 3, 10, 0), undo, 0, isLate, nil, nil},
	})
}

// ownUntil has a put of key and value by the case's transaction, to be waited for until another time.
func ownUntil(key, value, until int64) impl.Store {
	s := own(impl.Store{}, key, value)
	s.Locks[0].Until = until
	return s
}

// What is waited for, and what is resolved in place of it: a lock of another one (Start 4), Now is 3.
func TestStepMeetsALock(t *testing.T) {
	none := impl.Store{}
	other := func(until int64) impl.Store { return held(none, 10, 4, impl.WritePut, 20, until) }
	back := wrote(wrote(none, 10, 4, 4, 4), 20, 4, 4, 4)
	withPrimary := func(own, primarys int64) impl.Store { return held(other(own), 20, 4, impl.WriteLock, 20, primarys) }
	primaryDone := wrote(other(100000), 20, 6, 4, impl.WriteDelete)
	follows := withWrite(withoutLock(primaryDone, 10, 4), impl.Write{Key: 10, Commit: 6, Start: 4, Kind: impl.WritePut})
	primaryBack := wrote(other(100000), 20, 4, 4, impl.WriteBack)
	selfTaken := wrote(held(none, 10, 4, impl.WriteLock, 10, 0), 10, 4, 3, impl.WriteLock)
	commitTaken := wrote(primaryDone, 10, 6, 6, impl.WriteBack)
	at := func(now int64) func(w *impl.World) { return func(w *impl.World) { w.Now = now } }
	const says = impl.TxnFirst
	cases := []stepCase{
		{"its time is over", other(2), 1, 0, back, says, 0, frees, nil, nil},
		{"its time ends now", other(3), 1, 0, other(3), says, 0, waits, nil, nil},
		{"its time is not over", other(4), 1, 0, other(4), says, 0, waits, nil, nil},
		{"at 0", other(0), 1, 0, other(0), says, 0, waits, at(0), nil},
		{"at 1", other(0), 1, 0, back, says, 0, frees, at(1), nil},
		{"at the last time", other(99999), 1, 0, back, says, 0, frees, at(100000), nil},
		{"at the last time, and not over", other(100000), 1, 0, other(100000), says, 0, waits, at(100000), nil},
		{"the primary's time is over", withPrimary(50, 2), 1, 0, back, says, 0, frees, nil, nil},
		{"the primary's time is not over", withPrimary(2, 3), 1, 0, withPrimary(2, 3), says, 0, waits, nil, nil},
		{"the primary is done", primaryDone, 1, 0, follows, says, 0, frees, nil, nil},
		{"the primary was taken back", primaryBack, 1, 0, back, says, 0, frees, nil, nil},
		{"it may not be taken back", selfTaken, 1, 0, selfTaken, says, 0, waits, nil, nil},
		{"it may not be done", commitTaken, 1, 0, commitTaken, says, 0, waits, nil, nil},
		{"no room to take it back", crowded(other(2), 199), 1, 0, crowded(other(2), 199), says, 0, waits, nil, nil},
		{"no room to do it", crowded(primaryDone, 200), 1, 0, crowded(primaryDone, 200), says, 0, waits, nil, nil},
		{"a lock that waits at the last item", held(own(none, 10, 7), 43, 6, 3, 43, 3), 1, 1, held(own(none, 10, 7), 43, 6, 3, 43, 3), says, 1, waits, nil, nil},
		{"a lock that is over at the last item", held(own(none, 10, 7), 43, 6, 3, 43, 2), 1, 1, wrote(own(none, 10, 7), 43, 6, 6, 4), says, 1, frees, nil, nil},
		{"a lock of the last one is not met yet", held(none, 43, 6, 3, 43, 9), 1, 0, own(held(none, 43, 6, 3, 43, 9), 10, 7), says, 1, saysNext, nil, nil},
	}
	checkStepCases(t, cases)
	for _, c := range cases {
		w := c.world(c.s)
		then := impl.StepWorld(w, 0).World
		if c.happened == waits {
			checkWorld(t, c.name+", again", impl.StepWorld(then, 0), stayed(w))
		}
		if c.happened == frees {
			if _, happened := checkStep(t, c.name+", again", then, 0); happened != saysNext && c.name != "the primary is done" {
				t.Errorf("%s, then it %s", c.name, happened)
			}
		}
	}
}

func TestStepToCommit(t *testing.T) {
	both := own(own(impl.Store{}, 10, 7), 43, 8)
	at := func(next, bound int64) func(w *impl.World) {
		return func(w *impl.World) { w.Oracle = oracle(next, bound) }
	}
	got := func(commit, next, bound int64) func(w *impl.World) {
		return func(w *impl.World) { w.Txns[0].Commit, w.Oracle = commit, oracle(next, bound) }
	}
	const second, undo = impl.TxnSecond, impl.TxnUndo
	checkStepCases(t, []stepCase{
		{"a time", both, 1, 2, both, second, 2, getsTime, nil, got(9, 10, 19)},
		{"the next time behind its start", both, 1, 2, both, second, 2, getsTime, at(6, 6), got(6, 7, 16)},
		{"the last of a lease", both, 1, 2, both, second, 2, getsTime, at(18, 19), got(18, 19, 19)},
		{"a new lease", both, 1, 2, both, second, 2, getsTime, at(19, 19), got(19, 20, 29)},
		{"the last lease", both, 1, 2, both, second, 2, getsTime, at(99990, 99990), got(99990, 99991, 100000)},
		{"the last time", both, 1, 2, both, second, 2, getsTime, at(99999, 100000), got(99999, 100000, 100000)},
		{"no lease left", both, 1, 2, both, undo, 0, getsNone, at(99991, 99991), nil},
		{"no time left", both, 1, 2, both, undo, 0, getsNone, at(100000, 100000), nil},
		{"no lock is asked for", impl.Store{}, 1, 2, impl.Store{}, second, 2, getsTime, nil, got(9, 10, 19)},
		{"full", crowded(both, 200), 1, 2, crowded(both, 200), second, 2, getsTime, nil, got(9, 10, 19)},
	})
}

// Commits that come in time, and those that come too late.
func TestStepSecond(t *testing.T) {
	none := impl.Store{}
	both := own(own(none, 10, 7), 43, 8)
	taken := wrote(both, 10, 8, 6, impl.WriteLock)
	at := func(at int64) stepCase {
		return stepCase{fmt.Sprintf("done, %d at their end", at), both, 2, at, settled(both, 10), impl.TxnRest, 1, doesPrimary, nil, nil}
	}
	late := func(name string, s impl.Store) stepCase {
		return stepCase{name, s, 2, 2, s, impl.TxnUndo, 0, comesLate, nil, nil}
	}
	checkStepCases(t, []stepCase{
		at(0), at(1), at(2),
		{"its time is over, and nobody met it", both, 2, 2, settled(both, 10), impl.TxnRest, 1, doesPrimary, func(w *impl.World) { w.Now = 100000 }, nil},
		{"it was done at that Commit", settled(both, 10), 2, 2, settled(both, 10), impl.TxnRest, 1, doesPrimary, nil, nil},
		{"its other lock is gone", own(none, 10, 7), 2, 2, settled(own(none, 10, 7), 10), impl.TxnRest, 1, doesPrimary, nil, nil},
		{"full but for one", crowded(both, 199), 2, 2, settled(crowded(both, 199), 10), impl.TxnRest, 1, doesPrimary, nil, nil},
		late("it was taken back", takenBack(both, 10)), late("both were taken back", takenBack(takenBack(both, 10), 43)), late("there is no lock", own(none, 43, 8)),
		late("nothing is there", none), late("another one's lock", held(none, 10, 4, 1, 10, 0)), late("it was done at another Commit", wrote(own(none, 43, 8), 10, 7, 5, 3)),
		late("another one has that Commit", taken), late("another one was taken back at it", wrote(both, 10, 8, 8, 4)), late("full", crowded(both, 200)),
		late("full, and taken back", crowded(takenBack(both, 10), 200)),
	})
}

func TestStepRest(t *testing.T) {
	none := impl.Store{}
	both := own(own(none, 10, 7), 43, 8)
	half := settled(both, 10)
	const rest = impl.TxnRest
	not := func(name string, s impl.Store, at int64) stepCase {
		return stepCase{name, s, 3, at, s, rest, at + 1, doesNot, nil, nil}
	}
	checkStepCases(t, []stepCase{
		{"the next one", half, 3, 1, settled(half, 43), rest, 2, doesNext, nil, nil},
		{"the first one", both, 3, 0, half, rest, 1, doesNext, nil, nil},
		{"it was done ahead", settled(half, 43), 3, 1, settled(half, 43), rest, 2, doesNext, nil, nil},
		{"full but for one", crowded(half, 199), 3, 1, settled(crowded(half, 199), 43), rest, 2, doesNext, nil, nil},
		not("no lock", withoutLock(half, 43, 5), 1), not("nothing", none, 1), not("another one's lock", held(none, 43, 6, 1, 43, 0), 1), not("it was taken back", takenBack(half, 43), 1),
		not("it was done at another Commit", wrote(none, 43, 7, 5, 2), 1), not("that Commit is taken", wrote(half, 43, 8, 7, 3), 1), not("full", crowded(half, 200), 1),
		not("the first one was taken back", takenBack(none, 10), 0),
		{"all are", settled(half, 43), 3, 2, settled(half, 43), impl.TxnDone, 2, isDone, nil, nil},
		{"all are, and a lock stays", half, 3, 2, half, impl.TxnDone, 2, isDone, nil, nil},
		{"all are, and nothing is there", none, 3, 2, none, impl.TxnDone, 2, isDone, nil, nil},
	})
}

func TestStepUndo(t *testing.T) {
	none := impl.Store{}
	both := own(own(none, 10, 7), 43, 8)
	const undo = impl.TxnUndo
	commit := func(w *impl.World) { w.Txns[0].Commit = 8 }
	not := func(name string, s impl.Store, at int64) stepCase {
		return stepCase{name, s, 5, at, s, undo, at + 1, takesNot, nil, nil}
	}
	checkStepCases(t, []stepCase{
		{"the first one", both, 5, 0, takenBack(both, 10), undo, 1, takesNext, nil, nil},
		{"the next one", takenBack(both, 10), 5, 1, takenBack(takenBack(both, 10), 43), undo, 2, takesNext, nil, nil},
		{"with a Commit", both, 5, 0, takenBack(both, 10), undo, 1, takesNext, commit, nil},
		{"one that was never said", none, 5, 0, takenBack(none, 10), undo, 1, takesNext, nil, nil},
		{"a cell alone", withoutLock(both, 43, 5), 5, 1, takenBack(both, 43), undo, 2, takesNext, nil, nil},
		{"another one's lock stays", held(none, 10, 6, 1, 10, 9), 5, 0, takenBack(held(none, 10, 6, 1, 10, 9), 10), undo, 1, takesNext, nil, nil},
		{"it was taken back ahead", takenBack(both, 10), 5, 0, takenBack(both, 10), undo, 1, takesNext, nil, nil},
		{"so, full", crowded(takenBack(both, 10), 200), 5, 0, crowded(takenBack(both, 10), 200), undo, 1, takesNext, nil, nil},
		{"full but for one", crowded(both, 199), 5, 0, takenBack(crowded(both, 199), 10), undo, 1, takesNext, nil, nil},
		not("it was done", settled(both, 10), 0), not("another one was done at its start", wrote(both, 10, 5, 4, 1), 0), not("full", crowded(both, 200), 0), not("full, the next one", crowded(both, 200), 1),
		{"all are", takenBack(takenBack(none, 10), 43), 5, 2, takenBack(takenBack(none, 10), 43), impl.TxnGone, 2, isGone, nil, nil},
		{"all are, and locks stay", both, 5, 2, both, impl.TxnGone, 2, isGone, commit, nil},
	})
}

// Those that are over do not move, however many items are at their end, and whatever is there.
func TestStepOfOneThatIsOver(t *testing.T) {
	both := own(own(impl.Store{}, 10, 7), 43, 8)
	for _, state := range []int64{impl.TxnDone, impl.TxnGone, impl.TxnLeft} {
		for at := range int64(3) {
			for _, s := range []impl.Store{{}, both, settled(both, 10), takenBack(both, 10), held(impl.Store{}, 10, 4, 1, 10, 0), crowded(both, 200)} {
				checkStepCases(t, []stepCase{{fmt.Sprintf("state %d at %d", state, at), s, state, at, s, state, at, isOver, nil, nil}})
			}
		}
	}
}

// All stores together have MaxCells cells, or writes, or one less; none of them alone has. (There are too few keys for so many locks.)
func TestStepWhenFull(t *testing.T) {
	none := impl.Store{}
	stale := impl.Store{Cells: []impl.Cell{{Key: 10, Start: 5, Value: 99}}}
	const says, undo = impl.TxnFirst, impl.TxnUndo
	lock := func(w *impl.World) { w.Txns[0].Items[0] = lockItem(10) }
	checkStepCases(t, []stepCase{
		{"199 cells, a put", crowdedCells(none, 199), 1, 0, own(crowdedCells(none, 199), 10, 7), says, 1, saysNext, nil, nil},
		{"200 cells, a put", crowdedCells(none, 200), 1, 0, crowdedCells(none, 200), undo, 0, isLate, nil, nil},
		{"200 cells, a put over its own", crowdedCells(stale, 200), 1, 0, crowdedCells(own(none, 10, 7), 200), says, 1, saysNext, nil, nil},
		{"200 cells, a lock alone", crowdedCells(none, 200), 1, 0, held(crowdedCells(none, 200), 10, 5, 3, 10, 25), says, 1, saysNext, lock, nil},
		{"200 cells, its lock is there", crowdedCells(own(none, 10, 7), 200), 1, 0, crowdedCells(own(none, 10, 7), 200), says, 1, saysNext, nil, nil},
		{"200 cells, another one's lock", crowdedCells(held(none, 10, 4, 3, 10, 3), 200), 1, 0, crowdedCells(held(none, 10, 4, 3, 10, 3), 200), says, 0, waits, nil, nil},
		{"200 cells, it is done", crowdedCells(own(none, 10, 7), 200), 2, 2, settled(crowdedCells(own(none, 10, 7), 200), 10), impl.TxnRest, 1, doesPrimary, nil, nil},
		{"200 cells, it is taken back", crowdedCells(own(none, 10, 7), 200), 5, 0, takenBack(crowdedCells(own(none, 10, 7), 200), 10), undo, 1, takesNext, nil, nil},
		{"200 writes, a put", crowded(none, 200), 1, 0, own(crowded(none, 200), 10, 7), says, 1, saysNext, nil, nil},
		{"200 of both, the last one", crowdedCells(crowded(own(none, 10, 7), 200), 200), 1, 1, crowdedCells(crowded(own(none, 10, 7), 200), 200), undo, 0, isLate, nil, nil},
	})
	each := impl.Store{Locks: lockEach()[1:]}
	each.Locks = slices.DeleteFunc(each.Locks, func(l impl.Lock) bool { return l.Key == 10 })
	checkStepCases(t, []stepCase{{"a lock of each other key", each, 1, 0, own(each, 10, 7), says, 1, saysNext, nil, nil}})
}

// runAlone steps place until nothing moves, up to n times.
func runAlone(w impl.World, place int64, n int) impl.World {
	for range n {
		w = impl.StepWorld(w, place).World
	}
	return w
}

// The document's examples that tell of a world.
func TestWorldOfExamples(t *testing.T) {
	name := []impl.Item{putItem(43, 1)}
	w := impl.BeginWorld(impl.BeginWorld(impl.NewWorld(1).World, nil, name).World, nil, name).World
	for range 9 {
		w = impl.StepWorld(impl.StepWorld(w, 0).World, 1).World
	}
	if states := []int64{w.Txns[0].State, w.Txns[1].State}; !slices.Equal(states, []int64{impl.TxnDone, impl.TxnGone}) {
		t.Errorf("two make the same name at once: %v", states)
	}
	two := []impl.Item{putItem(10, 7), putItem(43, 8)}
	begun := impl.BeginWorld(impl.BeginWorld(impl.NewWorld(1).World, nil, two).World, []int64{43}, nil).World
	left := impl.LeaveWorld(runAlone(begun, 0, 4), 0).World
	met := impl.StepWorld(left, 1)
	if got := impl.GetAt(impl.UnionOf(met.World.Groups).Store, 43, 3); !met.Moved || !got.Has || got.Value != 8 {
		t.Errorf("left behind its primary's commit: %+v", got)
	}
	left = impl.LeaveWorld(runAlone(begun, 0, 3), 0).World
	for n, moved := range map[int64]bool{0: false, 20: false, 21: true} {
		met := impl.StepWorld(impl.TickWorld(left, n).World, 1)
		if all := impl.UnionOf(met.World.Groups).Store; met.Moved != moved || impl.StatusOf(all, 10, 1).Value == impl.StatusBack != moved {
			t.Errorf("left ahead of it, %d later: %+v", n, met)
		}
	}
}

// One alone, of each number of items, comes to its end in just as many steps as it has to.
func TestOneAlone(t *testing.T) {
	for n := 1; n <= 12; n++ {
		for _, at := range [][]int64{{}, {22}, {21, 22, 30, 31, 35}} {
			w := impl.BeginWorld(changedWorld(impl.NewWorld(4).World, func(w *impl.World) { w.Groups = cutStore(impl.Store{}, 1, at...) }), nil, someItems(n)).World
			w = runAlone(w, 0, n)
			if all := impl.UnionOf(w.Groups).Store; len(all.Locks) != n || w.Txns[0].At != int64(n) || w.Txns[0].State != impl.TxnFirst {
				t.Errorf("%d items said: %+v", n, w)
			}
			w = runAlone(w, 0, 2)
			if all := impl.UnionOf(w.Groups).Store; len(all.Writes) != 1 || w.Txns[0].State != impl.TxnRest || w.Txns[0].Commit != 5 {
				t.Errorf("%d items, the first one done: %+v", n, w)
			}
			w = runAlone(w, 0, n)
			all := impl.UnionOf(w.Groups).Store
			if len(all.Writes) != n || len(all.Locks) != 0 || w.Txns[0].State != impl.TxnDone {
				t.Errorf("%d items done: %+v", n, w)
			}
			for _, item := range someItems(n) {
				got, want := impl.GetAt(all, item.Key, 5), impl.GetResult{Has: item.Kind == impl.WritePut, Value: item.Value}
				if got != want {
					t.Errorf("%+v is read as %+v", item, got)
				}
			}
			checkWorld(t, "done", impl.StepWorld(w, 0), stayed(w))
		}
	}
}
