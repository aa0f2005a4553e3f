package tests

import (
	"fmt"
	"math"
	"math/rand"
	"slices"
	"testing"

	"loop.example/g00331/impl"
)

// An event is one call that goes on from a world, what the chapter says of it, and the place of a step (-1: it is none).
type event struct {
	name  string
	place int64
	do    func(w impl.World) impl.WorldResult
	want  func(w impl.World) impl.WorldResult
}

func stepEvent(place int64) event {
	return event{"step", place, func(w impl.World) impl.WorldResult { return impl.StepWorld(w, place) },
		func(w impl.World) impl.WorldResult { want, _ := wantStep(w, place); return want }}
}

func leaveEvent(place int64) event {
	return event{"leave", -1, func(w impl.World) impl.WorldResult { return impl.LeaveWorld(w, place) },
		func(w impl.World) impl.WorldResult { return wantLeave(w, place) }}
}

func tickEvent(n int64) event {
	return event{"tick", -1, func(w impl.World) impl.WorldResult { return impl.TickWorld(w, n) },
		func(w impl.World) impl.WorldResult { return wantTick(w, n) }}
}

func cutEvent(at int64) event {
	return event{"cut", -1, func(w impl.World) impl.WorldResult { return impl.CutWorld(w, at) },
		func(w impl.World) impl.WorldResult { return wantCut(w, at) }}
}

func fallEvent() event { return event{"fall", -1, impl.FallWorld, wantFall} }

func beginEvent(reads []int64, writes []impl.Item) event {
	return event{"begin", -1, func(w impl.World) impl.WorldResult { return impl.BeginWorld(w, reads, writes) },
		func(w impl.World) impl.WorldResult { return wantBegin(w, reads, writes) }}
}

// fewWants are reads and writes of a few keys, so that many meet.
func fewWants(r *rand.Rand) (reads []int64, writes []impl.Item) {
	keys := []int64{0, 10, 20, 43, 180}
	r.Shuffle(len(keys), func(i, j int) { keys[i], keys[j] = keys[j], keys[i] })
	for _, key := range keys[:1+r.Intn(3)] {
		switch r.Intn(4) {
		case 0:
			reads = append(reads, key)
		case 1:
			writes = append(writes, deleteItem(key))
		default:
			writes = append(writes, putItem(key, r.Int63n(10000)))
		}
	}
	return reads, writes
}

// anyEvent picks mostly steps; some of what it picks tells a code.
func anyEvent(r *rand.Rand, txns int64) event {
	switch r.Intn(24) {
	case 0:
		return leaveEvent(r.Int63n(txns))
	case 1:
		return tickEvent([]int64{0, 1, 7, 21}[r.Intn(4)])
	case 2, 3:
		return cutEvent([]int64{10, 20, 43, 180, 1 + r.Int63n(199), 0, -1, -2, -3, -4}[r.Intn(10)])
	case 4:
		return fallEvent()
	case 5, 6:
		return beginEvent(fewWants(r))
	}
	return stepEvent(r.Int63n(txns))
}

// startedWorlds have one, two, three and MaxTxns that just began, some of them where times end.
func startedWorlds(r *rand.Rand) (list []impl.World) {
	for _, first := range []int64{1, 4, 99950, 99968, 99975} {
		for _, n := range []int{1, 2, 3, 16} {
			w := impl.BeginWorld(impl.NewWorld(first).World, nil, []impl.Item{putItem(20, 5), putItem(43, 6)}).World
			for len(w.Txns) < n {
				w = beginEvent(fewWants(r)).do(w).World
			}
			list = append(list, w)
		}
	}
	return list
}

// keepsWrites: no call takes away what was done or taken back.
func keepsWrites(from, to impl.World) bool {
	then := wantUnionOf(to.Groups).Writes
	for _, write := range wantUnionOf(from.Groups).Writes {
		if !slices.Contains(then, write) {
			return false
		}
	}
	return true
}

// P11: up to 90 steps from a new world, whatever happens: no fault, and what was done stays done.
func TestNoFaultWhateverHappens(t *testing.T) {
	r := rand.New(rand.NewSource(105))
	happened, ends := map[string]int{}, map[int64]int{}
	for range 12 {
		for _, w := range startedWorlds(r) {
			for step := len(w.Txns); step < 90; step++ {
				e := anyEvent(r, int64(len(w.Txns)))
				_, what := wantStep(w, e.place)
				happened[what]++
				kept := copyWorld(w)
				got := e.do(w)
				checkWorld(t, e.name, got, e.want(w))
				if !equalWorlds(kept, w) {
					t.Fatalf("%s changed its world", e.name)
				}
				if got.Code != impl.OK {
					continue
				}
				if code := impl.WorldFault(got.World); code != impl.OK || !keepsWrites(w, got.World) {
					t.Fatalf("%s of %+v: %+v, fault %d", e.name, w, got.World, code)
				}
				if got.Moved == equalWorlds(got.World, w) {
					t.Fatalf("%s of %+v: moved %v", e.name, w, got.Moved)
				}
				w = got.World
			}
			for _, txn := range w.Txns {
				ends[txn.State]++
			}
		}
	}
	for _, what := range []string{saysNext, frees, waits, isLate, getsTime, getsNone, doesPrimary, comesLate, doesNext, isDone, takesNext, isGone, isOver} {
		if happened[what] < 5 {
			t.Errorf("it %s only %d times: %v", what, happened[what], happened)
		}
	}
	if ends[impl.TxnDone] < 100 || ends[impl.TxnGone] < 50 || ends[impl.TxnLeft] < 50 {
		t.Errorf("too few of a kind: %v", ends)
	}
}

// toldWorld is the same of worlds that are the same, and of no others.
func toldWorld(w impl.World) string {
	return fmt.Sprint(w.Now, w.Oracle, w.Groups, w.Txns)
}

// P11: two that want the same keys, in every order of their steps, each of which may leave at any time, with a cut, a join, a crash and time that goes on anywhere between.
func TestTwoInEachOrder(t *testing.T) {
	begun := func(first, second []impl.Item) impl.World {
		return impl.BeginWorld(impl.BeginWorld(impl.NewWorld(1).World, nil, first).World, nil, second).World
	}
	worlds := []impl.World{
		begun([]impl.Item{putItem(10, 1), putItem(43, 2)}, []impl.Item{putItem(43, 3), deleteItem(10)}),
		begun([]impl.Item{putItem(10, 1)}, []impl.Item{putItem(43, 2), lockItem(10)}),
	}
	extras := [][]event{{leaveEvent(0), tickEvent(21)}, {leaveEvent(1), tickEvent(21), cutEvent(20)}, {cutEvent(43), cutEvent(0), fallEvent()}}
	happened := map[string]int{}
	for _, from := range worlds {
		for _, once := range extras {
			seen := map[string]bool{}
			type node struct {
				w    impl.World
				used int
			}
			work := []node{{from, 0}}
			for len(work) > 0 {
				at := work[len(work)-1]
				work = work[:len(work)-1]
				told := fmt.Sprint(at.used, toldWorld(at.w))
				if seen[told] {
					continue
				}
				seen[told] = true
				for place := range int64(2) {
					next, what := checkStep(t, "each order", at.w, place)
					happened[what]++
					work = append(work, node{next, at.used})
				}
				for i, e := range once {
					if got := e.do(at.w); at.used>>i&1 == 0 && got.Code == impl.OK {
						checkWorld(t, e.name, got, e.want(at.w))
						work = append(work, node{got.World, at.used | 1<<i})
					}
				}
			}
			if len(seen) < 250 {
				t.Errorf("only %d worlds were come to", len(seen))
			}
		}
	}
	for _, what := range []string{saysNext, frees, waits, isLate, getsTime, doesPrimary, comesLate, doesNext, isDone, takesNext, isGone, isOver} {
		if happened[what] < 20 {
			t.Errorf("it %s only %d times: %v", what, happened[what], happened)
		}
	}
}

// P11: who is over does not move: not when others go on, and not when time does.
func TestOverStaysOver(t *testing.T) {
	r := rand.New(rand.NewSource(106))
	for range 6 {
		for _, w := range startedWorlds(r) {
			over := map[int]impl.Txn{}
			for step := len(w.Txns); step < 90; step++ {
				next := anyEvent(r, int64(len(w.Txns))).do(w)
				if next.Code == impl.OK {
					w = next.World
				}
				for place, txn := range w.Txns {
					if was, ok := over[place]; ok && !equalTxns(was, txn) {
						t.Fatalf("%+v was over, and is %+v", was, txn)
					}
					if impl.IsOver(txn) {
						over[place] = txn
						checkWorld(t, "over", impl.StepWorld(w, int64(place)), stayed(w))
						checkWorld(t, "over, left", impl.LeaveWorld(w, int64(place)), noWorld(impl.ErrState))
					}
				}
			}
		}
	}
}

// P11: cuts and joins in between change nothing: all together and each transaction are as without them, then and whatever comes behind.
func TestCutsChangeNothing(t *testing.T) {
	r := rand.New(rand.NewSource(107))
	cuts := map[bool]int{}
	for range 8 {
		for _, from := range startedWorlds(r) {
			whole, cut := from, from
			for step := len(from.Txns); step < 90; step++ {
				if r.Intn(3) == 0 {
					e := cutEvent([]int64{10, 20, 43, 180, 1 + r.Int63n(199), 0, -1, -2, -3, -4}[r.Intn(10)])
					if next := e.do(cut); next.Code == impl.OK {
						cuts[len(next.World.Groups.Stores) > len(cut.Groups.Stores)]++
						cut = next.World
					}
				} else {
					e := stepEvent(r.Int63n(int64(len(whole.Txns))))
					if r.Intn(9) == 0 {
						e = []event{leaveEvent(r.Int63n(int64(len(whole.Txns)))), tickEvent(11), fallEvent(), beginEvent(fewWants(r))}[r.Intn(4)]
					}
					one, other := e.do(whole), e.do(cut)
					if one.Code != other.Code || one.Moved != other.Moved {
						t.Fatalf("%s: %+v, cut %+v", e.name, one, other)
					}
					if one.Code == impl.OK {
						whole, cut = one.World, other.World
					}
				}
				joined := impl.World{Now: cut.Now, Oracle: cut.Oracle, Txns: cut.Txns, Groups: whole.Groups}
				if !equalWorlds(joined, whole) || !impl.SameStores(impl.UnionOf(cut.Groups).Store, impl.UnionOf(whole.Groups).Store) {
					t.Fatalf("%+v, and cut: %+v", whole, cut)
				}
			}
		}
	}
	if cuts[true] < 300 || cuts[false] < 300 {
		t.Errorf("too few cuts: %v", cuts)
	}
}

// P11: a crash of the oracle changes nothing of what was done: stores and transactions are as they were, and all times behind it are above all ahead.
func TestCrashesChangeNothing(t *testing.T) {
	r := rand.New(rand.NewSource(108))
	for range 8 {
		for _, w := range startedWorlds(r) {
			for step := len(w.Txns); step < 90; step++ {
				fallen := impl.FallWorld(w)
				want := changedWorld(w, func(w *impl.World) { w.Oracle = oracle(w.Oracle.Bound, w.Oracle.Bound) })
				checkWorld(t, "fall", fallen, impl.WorldResult{Moved: w.Oracle.Next < w.Oracle.Bound, World: want})
				greatest := int64(0)
				for _, txn := range w.Txns {
					greatest = max(greatest, txn.Start, txn.Commit)
				}
				if next := impl.BeginWorld(fallen.World, []int64{10}, nil); next.Code == impl.OK && next.World.Txns[len(w.Txns)].Start <= greatest {
					t.Fatalf("a time that was granted ahead of a crash: %+v", next.World)
				}
				if r.Intn(4) == 0 {
					w = fallen.World
				}
				if next := anyEvent(r, int64(len(w.Txns))).do(w); next.Code == impl.OK {
					w = next.World
				}
			}
		}
	}
}

// rawTxn is a right one of a start, in any state, with the keys of that start's locks in s, and some more.
func rawTxn(r *rand.Rand, s impl.Store, start, next int64) impl.Txn {
	var keys []int64
	for _, lock := range s.Locks {
		if lock.Start == start {
			keys = append(keys, lock.Key)
		}
	}
	keys = append(keys, []int64{0, 10, 11, 20, 25, 43, 180, 189}[r.Intn(8):]...)
	r.Shuffle(len(keys), func(i, j int) { keys[i], keys[j] = keys[j], keys[i] })
	txn := impl.Txn{Start: start, Until: r.Int63n(60), State: []int64{1, 1, 1, 2, 2, 3, 3, 4, 5, 6, 7}[r.Intn(11)]}
	for _, key := range keys[:min(12, 1+r.Intn(len(keys)))] {
		item := impl.Item{Key: key, Kind: 1 + r.Int63n(3)}
		if slices.ContainsFunc(txn.Items, func(other impl.Item) bool { return other.Key == key }) {
			continue
		}
		if item.Kind == impl.WritePut {
			item.Value = r.Int63n(10000)
		}
		txn.Items = append(txn.Items, item)
	}
	switch {
	case within(txn.State, 2, 4):
		txn.Commit = min(start+1+r.Int63n(4), next-1)
	case txn.State > 4:
		txn.Commit = r.Int63n(next)
	}
	txn.At = r.Int63n(int64(len(txn.Items)) + 1)
	return txn
}

// rawStarts are times below 75, each once; those of the locks of s come first, in any order.
func rawStarts(r *rand.Rand, s impl.Store) (starts []int64) {
	for _, place := range r.Perm(len(s.Locks)) {
		starts = append(starts, s.Locks[place].Start)
	}
	for _, n := range r.Perm(74) {
		starts = append(starts, int64(n)+1)
	}
	seen := map[int64]int{}
	return slices.DeleteFunc(starts, func(start int64) bool { seen[start]++; return seen[start] > 1 })
}

// rawWorlds came of no new one: stores, oracle and transactions need not suit each other, but there is no fault.
func rawWorlds(seed int64) (list []impl.World) {
	r := rand.New(rand.NewSource(seed))
	for i, s := range append(leftStores(seed+1), rawStores(seed+2)...) {
		next := int64(80)
		if i%3 == 0 {
			next = 99991 + r.Int63n(10)
		}
		if i%7 == 0 {
			s = crowdedCells(s, 200)
		}
		w := impl.World{Now: r.Int63n(42), Oracle: oracle(next, next+r.Int63n(3)), Groups: cutStore(s, 1, anyCut(r)...)}
		w.Oracle.Bound = min(w.Oracle.Bound, 100000)
		for _, start := range rawStarts(r, s)[:1+r.Intn(16)] {
			w.Txns = append(w.Txns, rawTxn(r, s, start, next))
		}
		list = append(list, w)
	}
	return list
}

// P11: a step of a raw world leaves no fault, and one that is over does not move.
func TestStepsOfRawWorlds(t *testing.T) {
	r := rand.New(rand.NewSource(109))
	happened := map[string]int{}
	for _, w := range append(rawWorlds(110), rawWorlds(113)...) {
		if code := impl.WorldFault(w); code != impl.OK {
			t.Fatalf("%+v has the fault %d", w, code)
		}
		for place, txn := range w.Txns {
			next, what := checkStep(t, "raw", w, int64(place))
			happened[what]++
			if code := impl.WorldFault(next); code != impl.OK || !keepsWrites(w, next) || (what == isOver) != impl.IsOver(txn) {
				t.Fatalf("a step of %d of %+v: %+v, fault %d", place, w, next, code)
			}
		}
		for range 40 {
			next, what := checkStep(t, "raw", w, r.Int63n(int64(len(w.Txns))))
			happened[what]++
			w = next
		}
		checkAllOfWorld(t, "raw", w, r.Int63n(60)-5)
	}
	for _, what := range allHappenings() {
		if happened[what] < 20 {
			t.Errorf("it %s only %d times: %v", what, happened[what], happened)
		}
	}
}

// P11: so of cuts, joins and crashes of raw worlds: all together, and each transaction, is as it was.
func TestRawWorldsAreCutAndFall(t *testing.T) {
	for _, w := range rawWorlds(116) {
		all := impl.UnionOf(w.Groups).Store
		for _, at := range []int64{1, 10, 20, 43, 90, 180, 199, 0, -1, -2, -3, -4} {
			got := impl.CutWorld(w, at)
			checkWorld(t, "cut", got, wantCut(w, at))
			same := changedWorld(got.World, func(cut *impl.World) { cut.Groups = w.Groups })
			if got.Code == impl.OK && (!equalWorlds(same, w) || !impl.SameStores(impl.UnionOf(got.World.Groups).Store, all)) {
				t.Errorf("cut at %d: %+v became %+v", at, w, got.World)
			}
		}
		got := impl.FallWorld(w)
		checkWorld(t, "fall", got, wantFall(w))
		same := changedWorld(got.World, func(fallen *impl.World) { fallen.Oracle = w.Oracle })
		if !equalWorlds(same, w) {
			t.Errorf("fallen: %+v became %+v", w, got.World)
		}
	}
}

// P1: each function at all worlds, right ones and wrong ones, and at any number.
func TestWorldsAtOddNumbers(t *testing.T) {
	for _, c := range rightWorlds() {
		for _, n := range append([]int64{-14, -11, -10, -9, -8, 15, 16, 17, 999, 1000, 1001, 99000, 99999}, oddNumbers()...) {
			checkAllOfWorld(t, c.name, c.w, n)
		}
	}
	for _, c := range wrongWorlds() {
		for _, n := range []int64{math.MinInt64, -1, 0, 20, math.MaxInt64} {
			checkAllOfWorld(t, c.name, c.w, n)
		}
	}
}

// P1: each number of a right world, one at a time, may be anything.
func TestWorldsOfOddNumbers(t *testing.T) {
	spots := func(w *impl.World) []*int64 {
		list := []*int64{&w.Now, &w.Oracle.Next, &w.Oracle.Bound, &w.Groups.Ranges[1].From, &w.Groups.Ranges[2].Epoch, &w.Groups.Stores[0].Cells[0].Start}
		for i := range w.Txns {
			txn := &w.Txns[i]
			list = append(list, &txn.Start, &txn.Commit, &txn.Until, &txn.State, &txn.At, &txn.Items[0].Key, &txn.Items[1].Kind, &txn.Items[2].Value)
		}
		return list
	}
	from := plainWorld()
	for i := range spots(&from) {
		for _, n := range []int64{math.MinInt64, math.MinInt64 + 1, -1, 0, 1, 2, 3, 4, 5, 8, 15, 20, 78, 79, 80, 85, 86, 9999, 99990, 100000, 100001, math.MaxInt64 - 1, math.MaxInt64} {
			w := copyWorld(from)
			*spots(&w)[i] = n
			for _, place := range []int64{0, int64(i % 7), 10} {
				checkAllOfWorld(t, "an odd number", w, place)
			}
		}
	}
}

// P1: a world with a fault tells it, whatever else is asked of it.
func TestWorldsAskTheFaultFirst(t *testing.T) {
	for _, c := range wrongWorlds() {
		for _, n := range []int64{math.MinInt64, -10, -1, 0, 3, 16, 200, 1001, math.MaxInt64} {
			for _, got := range []impl.WorldResult{
				impl.BeginWorld(c.w, []int64{n}, nil), impl.BeginWorld(c.w, nil, nil), impl.StepWorld(c.w, n), impl.LeaveWorld(c.w, n),
				impl.TickWorld(c.w, n), impl.CutWorld(c.w, n), impl.FallWorld(c.w),
			} {
				checkWorld(t, c.name, got, noWorld(c.code))
			}
		}
	}
}

// roomyWorld has room behind each of its lists, and tells whether lists and room are as they were.
func roomyWorld(w impl.World) (impl.World, func() bool) {
	g, same := roomyGroups(w.Groups)
	tells := []func() bool{same}
	var txns []impl.Txn
	for _, txn := range append(slices.Clone(w.Txns), manyTxns(3, 500)...) {
		items, stays := roomyList(txn.Items, impl.Item{Key: -7})
		txn.Items = items
		txns, tells = append(txns, txn), append(tells, stays)
	}
	kept := copyWorld(impl.World{Txns: txns})
	stays := func() bool {
		for _, tell := range tells {
			if !tell() {
				return false
			}
		}
		return equalWorlds(impl.World{Txns: txns}, kept)
	}
	return impl.World{Now: w.Now, Oracle: w.Oracle, Groups: g, Txns: txns[:len(w.Txns)]}, stays
}

// spoilWorld are for each list of w one that writes over all of it, also behind its length; lists of lists come last.
func spoilWorld(w impl.World) (inner, outer []func()) {
	for _, txn := range w.Txns {
		inner = append(inner, func() { spoilItems(txn.Items) })
	}
	lists := spoilLists(w.Groups)
	inner, outer = append(inner, lists[:len(lists)-1]...), lists[len(lists)-1:]
	return inner, append(outer, func() {
		whole := w.Txns[:cap(w.Txns)]
		for i := range whole {
			whole[i] = impl.Txn{Start: -7}
		}
	})
}

func differingInWorlds(a, b impl.World) int {
	n := differingLists(a.Groups, b.Groups)
	for i := range a.Txns {
		if !equalTxns(a.Txns[i], b.Txns[i]) {
			n++
		}
	}
	return n
}

func checkWorldMemory(t *testing.T, name string, from impl.World, call func(w impl.World) impl.World) {
	t.Helper()
	w, stays := roomyWorld(from)
	first, second := call(w), call(w)
	kept := copyWorld(second)
	if !stays() {
		t.Errorf("%s: an argument changed", name)
	}
	inner, outer := spoilWorld(first)
	for _, spoilOne := range inner {
		before := copyWorld(first)
		spoilOne()
		if n := differingInWorlds(before, first); n > 1 {
			t.Errorf("%s: %d lists of one answer share memory", name, n)
		}
	}
	for _, spoilOne := range outer {
		spoilOne()
	}
	if !stays() || !equalWorlds(second, kept) {
		t.Errorf("%s: an answer shares memory", name)
	}
	if third := call(w); !equalWorlds(third, kept) {
		t.Errorf("%s: %+v, want %+v as before", name, third, kept)
	}
	inner, outer = spoilWorld(w)
	for _, spoilOne := range append(inner, outer...) {
		spoilOne()
	}
	if !equalWorlds(second, kept) {
		t.Errorf("%s: an answer changed with an argument", name)
	}
}

// P1: arguments stay as they were, answers are new memory, also where nothing changes.
func TestWorldNewMemory(t *testing.T) {
	list := []impl.World{rawWorlds(119)[1], rawWorlds(119)[5], rawWorlds(119)[33]}
	for _, c := range rightWorlds() {
		list = append(list, c.w)
	}
	for _, w := range list {
		for _, n := range []int64{-10, -1, 0, 1, 2, 3, 4, 5, 6, 44} {
			for name, call := range map[string]func(w impl.World) impl.World{
				"WorldFault": func(w impl.World) impl.World { impl.WorldFault(w); return impl.World{} },
				"BeginWorld": func(w impl.World) impl.World { return impl.BeginWorld(w, []int64{n}, nil).World },
				"StepWorld":  func(w impl.World) impl.World { return impl.StepWorld(w, n).World },
				"LeaveWorld": func(w impl.World) impl.World { return impl.LeaveWorld(w, n).World },
				"TickWorld":  func(w impl.World) impl.World { return impl.TickWorld(w, n).World },
				"CutWorld":   func(w impl.World) impl.World { return impl.CutWorld(w, n).World },
				"FallWorld":  func(w impl.World) impl.World { return impl.FallWorld(w).World },
				"NewWorld":   func(w impl.World) impl.World { return impl.NewWorld(n).World },
			} {
				checkWorldMemory(t, name, w, call)
			}
		}
	}
}

// P1: so of steps of each kind, and of the reads and writes that come in.
func TestWhatBeginsIsNewMemory(t *testing.T) {
	r := rand.New(rand.NewSource(122))
	both := own(own(impl.Store{}, 10, 7), 43, 8)
	for _, s := range []impl.Store{{}, both, settled(both, 10), takenBack(both, 10), held(impl.Store{}, 10, 4, 1, 10, 0), held(impl.Store{}, 10, 4, 1, 10, 9), crowded(both, 200)} {
		for state := int64(1); state <= 7; state++ {
			for at := range int64(3) {
				w := stepCase{state: state, at: at}.world(s)
				checkWorldMemory(t, "a step", w, func(w impl.World) impl.World { return impl.StepWorld(w, 0).World })
			}
		}
	}
	for range 300 {
		fromReads, fromWrites := anyWants(r, false)
		reads, readsStay := roomyList(fromReads, -7)
		writes, writesStay := roomyList(fromWrites, impl.Item{Key: -7})
		w := plainWorld()
		checkWorldMemory(t, "begun", w, func(w impl.World) impl.World { return impl.BeginWorld(w, reads, writes).World })
		if !readsStay() || !writesStay() {
			t.Errorf("%v, %v: an argument changed", fromReads, fromWrites)
		}
		got := impl.BeginWorld(w, reads, writes)
		spoilItems(writes)
		for i := range reads {
			reads[i] = -9
		}
		checkWorld(t, "begun", got, wantBegin(w, fromReads, fromWrites))
	}
	checkWorldMemory(t, "begun again", plainWorld(), func(w impl.World) impl.World { return impl.BeginWorld(w, nil, w.Txns[0].Items).World })
}

type worldAnswers struct {
	fault                                         int64
	made, begun, stepped, left, tick, cut, fallen impl.WorldResult
}

func askWorld(w impl.World, n int64) worldAnswers {
	return worldAnswers{impl.WorldFault(w), impl.NewWorld(n), impl.BeginWorld(w, []int64{n}, nil), impl.StepWorld(w, n), impl.LeaveWorld(w, n),
		impl.TickWorld(w, n), impl.CutWorld(w, n), impl.FallWorld(w)}
}

// P1: whatever was asked ahead of it, and beside it, an answer is the same; the order of a map is not to be seen.
func TestWorldAnswersHangOnArguments(t *testing.T) {
	for _, w := range []impl.World{plainWorld(), rawWorlds(123)[3], rawWorlds(126)[60]} {
		checkSteady(t, func(n int64) any { return askWorld(w, n) })
	}
}
