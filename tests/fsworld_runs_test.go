package tests

import (
	"fmt"
	"math"
	"math/rand"
	"slices"
	"testing"

	"loop.example/g00331/impl"
)

// An fsEvent is one step of a file system, what the chapter says of it, and the operation that it starts, if it does.
type fsEvent struct {
	name string
	op   *impl.FsOp
	do   func(f impl.FsWorld) impl.FsWorldResult
	want func(f impl.FsWorld) impl.FsWorldResult
}

func startFsEvent(o impl.FsOp) fsEvent {
	return fsEvent{"start", &o, func(f impl.FsWorld) impl.FsWorldResult { return impl.StartFs(f, o) },
		func(f impl.FsWorld) impl.FsWorldResult { return wantStartFs(f, o) }}
}

func stepFsEvent(place int64) fsEvent {
	return fsEvent{"step", nil, func(f impl.FsWorld) impl.FsWorldResult { return impl.StepFs(f, place) },
		func(f impl.FsWorld) impl.FsWorldResult { return wantStepFs(f, place) }}
}

func driveFsEvent() fsEvent { return fsEvent{"drive", nil, impl.DriveFs, wantDriveFs} }

// inWorld is an event of the file system's world; the runs stay.
func inWorld(e event) fsEvent {
	return fsEvent{e.name, nil, func(f impl.FsWorld) impl.FsWorldResult { return liftedFs(f, e.do(f.World)) },
		func(f impl.FsWorld) impl.FsWorldResult { return liftedFs(f, e.want(f.World)) }}
}

// anyCutEvent cuts where many keys meet, or anywhere, or joins.
func anyCutEvent(r *rand.Rand) event {
	return cutEvent(pick(r, 10, 20, 43, 180, 1+r.Int63n(199), 0, -1, -2, -3, -4))
}

// busyOp is in a directory that is there, most of the time at one of few names, or at one that is there, so that many meet.
func busyOp(r *rand.Rand, f impl.FsWorld) impl.FsOp {
	view := impl.ViewOf(f).Pairs
	o := opInside(r, view)
	entries := slices.DeleteFunc(slices.Clone(view), func(p impl.Pair) bool { return !isEntry(p) })
	switch {
	case o.Kind > impl.OpDir && len(entries) > 0 && r.Intn(3) > 0:
		at := entries[r.Intn(len(entries))].Key - 20
		o.Dir, o.Name = at/10, at%10
	case r.Intn(3) > 0:
		o.Name %= 3
	}
	return o
}

// anyFsEvent picks mostly steps; some of what it picks tells a code. What is over is picked seldom.
func anyFsEvent(r *rand.Rand, f impl.FsWorld) fsEvent {
	txns := int64(len(f.World.Txns))
	switch r.Intn(24) {
	case 0:
		return inWorld(leaveEvent(r.Int63n(txns)))
	case 1:
		return inWorld(tickEvent(pick(r, 0, 1, 7, 21)))
	case 2:
		return inWorld(anyCutEvent(r))
	case 3:
		return inWorld(fallEvent())
	case 4:
		if r.Intn(3) == 0 {
			return driveFsEvent()
		}
	case 5, 6, 7, 8:
		return startFsEvent(busyOp(r, f))
	}
	place := r.Int63n(txns)
	if impl.IsOver(f.World.Txns[place]) {
		place = r.Int63n(txns)
	}
	return stepFsEvent(place)
}

// hangsTogether: no fault, the history is right, and what there is is whole.
func hangsTogether(t *testing.T, name string, f impl.FsWorld) {
	t.Helper()
	if code := impl.FsWorldFault(f); code != impl.OK {
		t.Fatalf("%s: %+v has the fault %d", name, f, code)
	}
	if !impl.HistoryRight(f) {
		t.Fatalf("%s: the history %+v of %+v is not right", name, impl.HistoryOf(f), f)
	}
	if view := impl.ViewOf(f); view.Code != impl.OK || impl.FsFault(view.Pairs) != impl.OK {
		t.Fatalf("%s: %+v is what there is of %+v", name, view, f)
	}
}

// findsWhatThereIs: one that is started finds what there is at its time, and has a transaction if it writes; or it waits, as something is locked.
func findsWhatThereIs(t *testing.T, f impl.FsWorld, o impl.FsOp, got impl.FsWorldResult) {
	t.Helper()
	ts := f.World.Oracle.Next
	if got.Code == impl.ErrLocked {
		locked := slices.ContainsFunc(impl.UnionOf(f.World.Groups).Store.Locks, func(l impl.Lock) bool {
			return l.Start <= ts && impl.FateOf(f.World.Groups, l.Key, f.World.Now).Value == impl.StatusLocked
		})
		if !locked {
			t.Fatalf("%+v waits for nobody in %+v", o, f)
		}
		return
	}
	if got.Code != impl.OK {
		return
	}
	run := got.FsWorld.Runs[len(f.Runs)]
	there := impl.ModelAt(f.World, ts).Pairs
	answer := impl.ApplyFs(there, o)
	if run.Ts != ts || run.Op != o || answer.Code != impl.OK || run.Reply != answer.Reply || run.Value != answer.Value || !slices.Equal(impl.ModelAt(got.FsWorld.World, ts).Pairs, there) {
		t.Fatalf("%+v is started as %+v, and finds %+v in %+v", o, run, answer, f)
	}
	writes := len(impl.CompileFs(there, o).Writes) > 0
	if writes != (run.Place >= 0) || writes && run.Place != int64(len(f.World.Txns)) {
		t.Fatalf("%+v writes: %v, and is started as %+v", o, writes, run)
	}
}

// stillSo: what each run found is what there is at its time for ever; no two of the history have one time, and who writes counts behind its Ts.
func stillSo(t *testing.T, name string, f impl.FsWorld) {
	t.Helper()
	for _, run := range f.Runs {
		answer := impl.ApplyFs(impl.ModelAt(f.World, run.Ts).Pairs, run.Op)
		if answer.Code != impl.OK || answer.Reply != run.Reply || answer.Value != run.Value {
			t.Fatalf("%s: %+v found something else than %+v in %+v", name, run, answer, f)
		}
	}
	last := int64(0)
	for _, d := range impl.HistoryOf(f).Dones {
		run := f.Runs[d.Place]
		if d.Commit <= last || run.Place < 0 && d.Commit != run.Ts || run.Place >= 0 && d.Commit <= run.Ts {
			t.Fatalf("%s: %+v counts at %d, behind %d, in %+v", name, run, d.Commit, last, f)
		}
		last = d.Commit
	}
	for ts := f.World.Txns[0].Commit; ts < f.World.Oracle.Next; ts++ {
		if fault := impl.FsFault(impl.ModelAt(f.World, ts).Pairs); fault != impl.OK {
			t.Fatalf("%s: what there is at %d has the fault %d, in %+v", name, ts, fault, f)
		}
	}
}

// comesToItsEnd: driven, all that were not left are over; all that left may be cleared, too; and it still hangs together.
func comesToItsEnd(t *testing.T, name string, f impl.FsWorld) impl.FsWorld {
	t.Helper()
	driven := impl.DriveFs(f)
	if driven.Code != impl.OK || impl.LiveTxns(driven.FsWorld.World).Value != 0 || !slices.Equal(driven.FsWorld.Runs, f.Runs) {
		t.Fatalf("%s: %+v was driven to %+v", name, f, driven)
	}
	hangsTogether(t, name+", driven", driven.FsWorld)
	for place, txn := range f.World.Txns {
		if !impl.IsOver(txn) {
			f = leftFs(f, int64(place))
		}
	}
	dones := impl.HistoryOf(f)
	later := laterFs(f, 21)
	cleared := changedFs(later, func(f *impl.FsWorld) { f.World.Groups = impl.ClearAll(f.World.Groups, f.World.Now).Groups })
	hangsTogether(t, name+", all left, and cleared", cleared)
	checkHistory(t, name+", all left, and cleared", impl.HistoryOf(cleared), dones)
	return driven.FsWorld
}

// busyFs have some runs that just began, some of them where times end; a step is a call.
func busyFs(r *rand.Rand) (list []impl.FsWorld, steps []int) {
	for _, first := range numbers(1, 4, 99940, 99965) {
		for _, n := range []int{1, 2, 3, 6} {
			f, used := mustFs(impl.NewFs(first)), 0
			for range r.Intn(4) {
				f = carriedOut(f, busyOp(r, f))
				used += 2
			}
			for range n {
				f = started(f, busyOp(r, f))
				used++
			}
			list, steps = append(list, f), append(steps, used)
		}
	}
	return list, steps
}

// P16, P1: up to 60 steps from a new one, whoever is picked, whoever leaves, however it is cut: no fault, the history is right, all hangs together, and each call is what the chapter says.
func TestManyUseOneFileSystem(t *testing.T) {
	r := rand.New(rand.NewSource(401))
	codes, found, states := map[int64]int{}, tally{}, map[int64]int{}
	counted := 0
	for range 20 {
		list, steps := busyFs(r)
		for i, f := range list {
			for step := steps[i]; step < 60; step++ {
				e := anyFsEvent(r, f)
				kept := copyFs(f)
				got := e.do(f)
				if step%3 == 0 {
					checkFsWorld(t, e.name, got, e.want(f))
					checkTold(t, e.name, f)
				}
				if e.op != nil {
					findsWhatThereIs(t, f, *e.op, got)
					codes[got.Code]++
				}
				if !equalFsWorlds(kept, f) {
					t.Fatalf("%s changed its file system", e.name)
				}
				if got.Code != impl.OK {
					continue
				}
				f = got.FsWorld
				hangsTogether(t, e.name, f)
			}
			stillSo(t, "at the end", f)
			driven := comesToItsEnd(t, "at the end", f)
			stillSo(t, "at the end, driven", driven)
			counted += len(impl.HistoryOf(driven).Dones)
			for _, run := range f.Runs {
				found[[2]int64{run.Op.Kind, run.Reply}]++
			}
			for _, txn := range driven.World.Txns {
				states[txn.State]++
			}
		}
	}
	if codes[impl.OK] < 500 || codes[impl.ErrLocked] < 300 || counted < 1000 {
		t.Errorf("started with the codes %v; %d counted", codes, counted)
	}
	for kind := int64(1); kind <= 8; kind++ {
		if found[[2]int64{kind, impl.OK}] < 30 {
			t.Errorf("only %d of the kind %d found nothing in their way: %v", found[[2]int64{kind, impl.OK}], kind, found)
		}
	}
	if states[impl.TxnDone] < 500 || states[impl.TxnGone] < 100 || states[impl.TxnLeft] < 100 {
		t.Errorf("too few of a kind: %v", states)
	}
}

// sharedFs has the files 1 and 3, the directory 2 with 3 in it, and the empty directory 4.
func sharedFs() impl.FsWorld {
	return carriedOut(newFs(), fsOp(1, 0, 1), fsOp(2, 0, 2), fsOp(1, 2, 3), fsOp(2, 0, 4))
}

// meetingOps are two that are started at once, and want some of the same.
func meetingOps() [][2]impl.FsOp {
	return [][2]impl.FsOp{
		{fsOp(1, 0, 0), fsOp(1, 0, 0)}, {fsOp(1, 0, 0), fsOp(2, 2, 0)}, {fsOp(3, 0, 1), fsOp(5, 0, 1, 2, 2)}, {fsOp(3, 0, 1), fsOp(6, 0, 1, 7)}, {fsOp(4, 0, 1, 0, 0), fsOp(3, 0, 1)},
		{fsOp(3, 0, 4), fsOp(1, 4, 0)}, {fsOp(3, 0, 4), fsOp(4, 0, 1, 4, 1)}, {fsOp(5, 0, 1, 4, 5), fsOp(3, 0, 4)}, {fsOp(6, 0, 1, 7), fsOp(6, 0, 1, 8)},
		{fsOp(4, 0, 1, 0, 0), fsOp(5, 2, 3, 0, 0)}, {fsOp(3, 0, 1), fsOp(3, 0, 1)}, {fsOp(4, 0, 4, 0, 0), fsOp(1, 4, 0)},
	}
}

// P16: two that meet, in each order of their steps, each of which may leave at any time, with time that goes on, a cut and a crash anywhere between; and one that looks on.
func TestTwoMeetInEachOrder(t *testing.T) {
	extras := [][]event{{leaveEvent(5), tickEvent(21)}, {leaveEvent(6), tickEvent(21)}, {cutEvent(43), fallEvent()}}
	one, both, none, seenStates, looks := 0, 0, 0, 0, map[int64]int{}
	for i, ops := range meetingOps() {
		from := started(sharedFs(), ops[0], ops[1])
		if from.Runs[4].Place != 5 || from.Runs[5].Place != 6 {
			t.Fatalf("%+v do not both write: %+v", ops, from.Runs)
		}
		once := extras[i%len(extras)]
		seen := map[string]int{}
		var visit func(f impl.FsWorld, used int)
		visit = func(f impl.FsWorld, used int) {
			told := fmt.Sprint(used, toldWorld(f.World))
			if seen[told]++; seen[told] > 1 {
				return
			}
			hangsTogether(t, "each order", f)
			if len(seen)%20 == 0 {
				driven := comesToItsEnd(t, "each order", f)
				stillSo(t, "each order", driven)
				switch len(impl.HistoryOf(driven).Dones) - 4 {
				case 0:
					none++
				case 1:
					one++
				case 2:
					both++
				}
			}
			if o := []impl.FsOp{fsOp(8, 0, 1), fsOp(3, 0, 1)}[len(seen)%8/4]; len(seen)%4 == 0 {
				look := impl.StartFs(f, o)
				findsWhatThereIs(t, f, o, look)
				looks[look.Code]++
				if look.Code == impl.OK && len(seen)%12 == 0 {
					hangsTogether(t, "one that looks on", look.FsWorld)
					comesToItsEnd(t, "one that looks on", look.FsWorld)
				}
			}
			for place := int64(5); place <= 6; place++ {
				visit(mustFs(impl.StepFs(f, place)), used)
			}
			for at, e := range once {
				if got := inWorld(e).do(f); used>>at&1 == 0 && got.Code == impl.OK {
					visit(got.FsWorld, used|1<<at)
				}
			}
		}
		visit(from, 0)
		seenStates += len(seen)
	}
	if one < 300 || both < 20 || none < 200 || seenStates < 10000 || looks[impl.OK] < 3000 || looks[impl.ErrLocked] < 300 {
		t.Errorf("one was done %d times, both %d times and none %d times, of %d; who looked on: %v", one, both, none, seenStates, looks)
	}
}

// P16: many meet at once, of each kind, and come to their ends by turns; of those that make one name just one is done, and what was taken back may be started again.
func TestManyMeetAtOnce(t *testing.T) {
	for n := 2; n <= 12; n++ {
		f := newFs()
		for place := range n {
			f = started(f, fsOp(1+int64(place%2), 0, 3))
		}
		driven := comesToItsEnd(t, "one name", f)
		if dones := impl.HistoryOf(driven).Dones; len(dones) != 1 || len(impl.ViewOf(driven).Pairs) != 4 {
			t.Errorf("%d at one name: %+v are done", n, dones)
		}
		again := started(driven, fsOp(1, 0, 3), fsOp(1, 0, 4))
		if again.Runs[n].Reply != impl.ErrTaken || again.Runs[n+1].Value != 2 {
			t.Errorf("%d at one name, again: %+v", n, again.Runs)
		}
		hangsTogether(t, "again", mustFs(impl.DriveFs(again)))
	}
	each := started(sharedFs(), fsOp(1, 0, 0), fsOp(2, 4, 0), fsOp(3, 0, 1), fsOp(4, 0, 1, 2, 1), fsOp(5, 2, 3, 4, 4), fsOp(6, 2, 3, 9), fsOp(7, 2, 3), fsOp(8, 0, 4), fsOp(3, 0, 4))
	r := rand.New(rand.NewSource(402))
	for range 60 {
		f := each
		for range r.Intn(50) {
			f = mustFs(impl.StepFs(f, r.Int63n(int64(len(f.World.Txns)))))
		}
		stillSo(t, "each kind", comesToItsEnd(t, "each kind", f))
	}
}

// P16: cuts and joins change nothing of what is answered, nor of what there is, then and whatever comes behind.
func TestCutsChangeNoAnswer(t *testing.T) {
	r := rand.New(rand.NewSource(403))
	cuts := 0
	for range 6 {
		list, steps := busyFs(r)
		for i, from := range list {
			whole, cut := from, from
			for step := steps[i]; step < 60; step++ {
				if e := inWorld(anyCutEvent(r)); r.Intn(3) == 0 {
					if got := e.do(cut); got.Code == impl.OK {
						cut = got.FsWorld
						cuts++
					}
				} else {
					e := anyFsEvent(r, whole)
					if e.name == "cut" {
						continue
					}
					one, other := e.do(whole), e.do(cut)
					if one.Code != other.Code || one.Moved != other.Moved {
						t.Fatalf("%s: %+v, cut %+v", e.name, one, other)
					}
					if one.Code == impl.OK {
						whole, cut = one.FsWorld, other.FsWorld
					}
				}
				joined := changedFs(cut, func(f *impl.FsWorld) { f.World.Groups = whole.World.Groups })
				if !equalFsWorlds(joined, whole) || !impl.SameStores(impl.UnionOf(cut.World.Groups).Store, impl.UnionOf(whole.World.Groups).Store) {
					t.Fatalf("%+v, and cut: %+v", whole, cut)
				}
				checkHistory(t, "cut", impl.HistoryOf(cut), impl.HistoryOf(whole))
				checkPairs(t, "cut", impl.ViewOf(cut), impl.ViewOf(whole))
				if !impl.HistoryRight(cut) {
					t.Fatalf("cut: the history of %+v is not right", cut)
				}
			}
		}
	}
	if cuts < 400 {
		t.Errorf("only %d cuts", cuts)
	}
}

// anyRun need not suit anything, but has no fault.
func anyRun(r *rand.Rand, w impl.World) impl.Run {
	run := impl.Run{Op: anyOp(r), Place: r.Int63n(int64(len(w.Txns))+1) - 1, Ts: 1 + r.Int63n(w.Oracle.Next-1)}
	if r.Intn(2) == 0 {
		run.Reply = r.Int63n(11)
	} else {
		run.Value = pick(r, 0, 0, 1, 2, 1000, 2001, r.Int63n(10000))
	}
	return run
}

// rawFs came of no new one: runs, transactions and stores need not suit each other.
func rawFs(seed int64) (list []impl.FsWorld) {
	r := rand.New(rand.NewSource(seed))
	for _, raw := range rawWorlds(seed + 1) {
		for _, w := range []impl.World{raw, withDones(raw)} {
			f := impl.FsWorld{World: w}
			for range pick(r, 0, 1, 5, 20, 29, 30) {
				f.Runs = append(f.Runs, anyRun(r, w))
			}
			list = append(list, f)
		}
	}
	return list
}

// File systems that came of no new one: the chapter's words hold for them, too.
func TestRawFileSystems(t *testing.T) {
	r := rand.New(rand.NewSource(404))
	codes, dones, alike := map[int64]int{}, 0, 0
	for i, f := range append(rawFs(405), rawFs(408)...) {
		if code := impl.FsWorldFault(f); code != impl.OK {
			t.Fatalf("%+v has the fault %d", f, code)
		}
		for range 3 {
			o := anyOp(r)
			got := impl.StartFs(f, o)
			codes[got.Code]++
			checkFsWorld(t, "raw, started", got, wantStartFs(f, o))
		}
		cleared := laterFs(f, 100)
		cleared.World.Groups = impl.ClearAll(cleared.World.Groups, cleared.World.Now).Groups
		got := impl.StartFs(cleared, fsOp(8, 0, 1))
		codes[got.Code]++
		checkFsWorld(t, "raw, cleared, started", got, wantStartFs(cleared, fsOp(8, 0, 1)))
		checkAllOfFs(t, "raw", f, r.Int63n(12)-2)
		if i%100 == 0 {
			checkFsWorld(t, "raw, driven", impl.DriveFs(f), wantDriveFs(f))
		}
		told := impl.HistoryOf(f).Dones
		dones += len(told)
		for at := 1; at < len(told); at++ {
			if told[at].Commit == told[at-1].Commit {
				alike++
			}
		}
	}
	if codes[impl.OK] < 100 || codes[impl.ErrLocked] < 100 || codes[impl.ErrMany] < 50 || dones < 500 || alike < 100 {
		t.Errorf("started with the codes %v; %d of histories, %d of these at one time", codes, dones, alike)
	}
}

// Grown ones, bent in one place: right is what the chapter's words say.
func TestBentFileSystems(t *testing.T) {
	r := rand.New(rand.NewSource(409))
	right := map[bool]int{}
	for range 40 {
		list, _ := busyFs(r)
		for _, f := range list {
			for range 25 {
				if got := anyFsEvent(r, f).do(f); got.Code == impl.OK {
					f = got.FsWorld
				}
			}
			bent := bentOnce(r, f)
			if impl.FsWorldFault(bent) != impl.OK {
				continue
			}
			checkTold(t, "bent", bent)
			right[impl.HistoryRight(bent)]++
		}
	}
	if right[true] < 100 || right[false] < 200 {
		t.Errorf("right: %v", right)
	}
}

func bentOnce(r *rand.Rand, f impl.FsWorld) impl.FsWorld {
	return changedFs(f, func(f *impl.FsWorld) {
		run := &f.Runs[r.Intn(len(f.Runs))]
		txn := &f.World.Txns[r.Intn(len(f.World.Txns))]
		item := &txn.Items[r.Intn(len(txn.Items))]
		store := &f.World.Groups.Stores[r.Intn(len(f.World.Groups.Stores))]
		switch r.Intn(10) {
		case 0:
			run.Reply = r.Int63n(11)
		case 1:
			run.Value = pick(r, 0, 1, 2, 3, 1000, 2001)
		case 2:
			run.Ts = 1 + r.Int63n(f.World.Oracle.Next-1)
		case 3:
			run.Place = r.Int63n(int64(len(f.World.Txns))+1) - 1
		case 4:
			run.Op = busyOp(r, *f)
		case 5:
			if item.Kind == impl.WritePut {
				item.Value++
			}
		case 6:
			*item = deleteItem(item.Key)
		case 7:
			first := &f.World.Txns[0].Items[r.Intn(2)]
			first.Value = pick(r, 0, 1, 2, 3, 1000, 2001)
		case 8:
			if len(store.Writes) > 0 {
				store.Writes = slices.Delete(store.Writes, 0, 1)
			}
		case 9:
			if n := len(store.Writes); n > 0 {
				store.Writes[n-1].Commit += 3
			}
		}
	})
}

// P1: each function at all file systems, right ones and wrong ones, and at any number.
func TestFsWorldsAtOddNumbers(t *testing.T) {
	used := usedFs()
	for _, n := range oddNumbers() {
		checkAllOfFs(t, "used", used, n)
	}
	for _, c := range append(rightFsWorlds(), wrongFsWorlds()...) {
		for _, n := range []int64{math.MinInt64, 0, 8, math.MaxInt64} {
			checkAllOfFs(t, c.name, c.f, n)
		}
	}
}

// P1: each number of a right one, one at a time, may be anything.
func TestFsWorldsOfOddNumbers(t *testing.T) {
	spots := func(f *impl.FsWorld) []*int64 {
		w := &f.World
		list := []*int64{&w.Now, &w.Oracle.Next, &w.Oracle.Bound, &w.Groups.Ranges[0].From, &w.Groups.Ranges[0].To, &w.Groups.Ranges[1].Epoch}
		for i := range w.Groups.Stores {
			s := &w.Groups.Stores[i]
			list = append(list, &s.Locks[0].Key, &s.Locks[0].Start, &s.Locks[0].Kind, &s.Locks[0].Primary, &s.Locks[0].Until)
		}
		s := &w.Groups.Stores[0]
		list = append(list, &s.Cells[0].Key, &s.Cells[0].Start, &s.Cells[0].Value, &s.Writes[0].Key, &s.Writes[0].Commit, &s.Writes[0].Start, &s.Writes[0].Kind)
		for _, place := range []int{0, 8} {
			txn := &w.Txns[place]
			list = append(list, &txn.Start, &txn.Commit, &txn.Until, &txn.State, &txn.At, &txn.Items[0].Key, &txn.Items[0].Kind, &txn.Items[0].Value)
		}
		for _, at := range []int{0, 3, len(f.Runs) - 1} {
			run := &f.Runs[at]
			list = append(list, &run.Place, &run.Ts, &run.Reply, &run.Value, &run.Op.Kind, &run.Op.Dir, &run.Op.Name, &run.Op.ToDir, &run.Op.ToName, &run.Op.Value)
		}
		return list
	}
	from := usedFs()
	from.World.Groups = cutStore(wantUnionOf(from.World.Groups), 3, 20)
	for i := range spots(&from) {
		for _, n := range []int64{math.MinInt64, math.MinInt64 + 1, -2, -1, 0, 1, 2, 3, 8, 9, 10, 11, 17, 18, 21, 200, 9999, 10000, 100000, 100001, math.MaxInt64 - 1, math.MaxInt64} {
			f := copyFs(from)
			*spots(&f)[i] = n
			checkAllOfFs(t, "an odd number", f, int64(i%10))
			if i%3 == 0 && wantFsWorldFault(f) != impl.OK {
				checkFsWorld(t, "an odd number", impl.DriveFs(f), wantDriveFs(f))
			}
		}
	}
}

// roomyFs has room behind each of its lists, and tells whether lists and room are as they were.
func roomyFs(f impl.FsWorld) (impl.FsWorld, func() bool) {
	w, worldStays := roomyWorld(f.World)
	runs, runsStay := roomyList(f.Runs, impl.Run{Place: -7})
	return impl.FsWorld{World: w, Runs: runs}, func() bool { return worldStays() && runsStay() }
}

// spoilFs are for each list of f one that writes over all of it, also behind its length; lists of lists come last.
func spoilFs(f impl.FsWorld) (inner, outer []func()) {
	inner, outer = spoilWorld(f.World)
	return append(inner, func() {
		whole := f.Runs[:cap(f.Runs)]
		for i := range whole {
			whole[i] = impl.Run{Place: -7}
		}
	}), outer
}

func differingInFs(a, b impl.FsWorld) int {
	n := differingInWorlds(a.World, b.World)
	if !slices.Equal(a.Runs, b.Runs) {
		n++
	}
	return n
}

func checkFsMemory(t *testing.T, name string, from impl.FsWorld, call func(f impl.FsWorld) impl.FsWorld) {
	t.Helper()
	f, stays := roomyFs(from)
	first, second := call(f), call(f)
	kept := copyFs(second)
	if !stays() {
		t.Errorf("%s: an argument changed", name)
	}
	inner, outer := spoilFs(first)
	for _, spoilOne := range inner {
		before := copyFs(first)
		spoilOne()
		if n := differingInFs(before, first); n > 1 {
			t.Errorf("%s: %d lists of one answer share memory", name, n)
		}
	}
	for _, spoilOne := range outer {
		spoilOne()
	}
	if !stays() || !equalFsWorlds(second, kept) {
		t.Errorf("%s: an answer shares memory", name)
	}
	if third := call(f); !equalFsWorlds(third, kept) {
		t.Errorf("%s: %+v, want %+v as before", name, third, kept)
	}
	inner, outer = spoilFs(f)
	for _, spoilOne := range append(inner, outer...) {
		spoilOne()
	}
	if !equalFsWorlds(second, kept) {
		t.Errorf("%s: an answer changed with an argument", name)
	}
}

// P1: arguments stay as they were, answers are new memory, also where nothing changes.
func TestFsNewMemory(t *testing.T) {
	list := []impl.FsWorld{usedFs(), newFs(), madeFs(), readingFs(usedFs(), 19), lockedFs(), laterFs(lockedFs(), 21), manyFs(16), doneFs(), rawFs(412)[3], rawFs(412)[80]}
	for _, c := range rightFsWorlds() {
		if len(c.f.Runs) == 0 {
			list = append(list, c.f)
		}
	}
	for _, f := range list {
		for name, call := range map[string]func(f impl.FsWorld) impl.FsWorld{
			"NewFs":                   func(f impl.FsWorld) impl.FsWorld { return impl.NewFs(5).FsWorld },
			"StartFs, one that reads": func(f impl.FsWorld) impl.FsWorld { return impl.StartFs(f, fsOp(7, 0, 1)).FsWorld },
			"StartFs, one that makes": func(f impl.FsWorld) impl.FsWorld { return impl.StartFs(f, fsOp(1, 0, 0)).FsWorld },
			"StartFs, one that links": func(f impl.FsWorld) impl.FsWorld { return impl.StartFs(f, fsOp(5, 0, 1, 0, 0)).FsWorld },
			"StepFs, the first one":   func(f impl.FsWorld) impl.FsWorld { return impl.StepFs(f, 0).FsWorld },
			"StepFs, one behind it":   func(f impl.FsWorld) impl.FsWorld { return impl.StepFs(f, 4).FsWorld },
			"StepFs, the last one":    func(f impl.FsWorld) impl.FsWorld { return impl.StepFs(f, int64(len(f.World.Txns))-1).FsWorld },
			"DriveFs":                 func(f impl.FsWorld) impl.FsWorld { return impl.DriveFs(f).FsWorld },
			"all that tell of it": func(f impl.FsWorld) impl.FsWorld {
				impl.FsWorldFault(f)
				impl.HistoryOf(f)
				impl.HistoryRight(f)
				impl.ViewOf(f)
				return impl.FsWorld{}
			},
		} {
			checkFsMemory(t, name, f, call)
		}
		historyIsNewMemory(t, f)
	}
}

// historyIsNewMemory: so of what is told of a file system.
func historyIsNewMemory(t *testing.T, from impl.FsWorld) {
	t.Helper()
	f, stays := roomyFs(from)
	dones, view := impl.HistoryOf(f), impl.ViewOf(f)
	second, secondView := impl.HistoryOf(f), impl.ViewOf(f)
	for i := range dones.Dones[:cap(dones.Dones)] {
		dones.Dones[:cap(dones.Dones)][i] = done(-7, -7)
	}
	spoilPairs(view.Pairs)
	if !stays() {
		t.Fatalf("%+v changed", from)
	}
	checkHistory(t, "again", impl.HistoryOf(f), wantHistory(from))
	checkPairs(t, "again", impl.ViewOf(f), wantViewOf(from))
	inner, outer := spoilFs(f)
	for _, spoilOne := range append(inner, outer...) {
		spoilOne()
	}
	checkHistory(t, "second, and all spoiled", second, wantHistory(from))
	checkPairs(t, "second, and all spoiled", secondView, wantViewOf(from))
}

type fsAnswers struct {
	fault             int64
	made, step, drive impl.FsWorldResult
	starts            []impl.FsWorldResult
	dones             impl.HistoryResult
	right             bool
	view              impl.PairsResult
}

func askFs(f impl.FsWorld, n int64) fsAnswers {
	a := fsAnswers{fault: impl.FsWorldFault(f), made: impl.NewFs(n), step: impl.StepFs(f, n%10), dones: impl.HistoryOf(f), right: impl.HistoryRight(f), view: impl.ViewOf(f)}
	for _, o := range []impl.FsOp{fsOp(1+max(n, 0)%8, 0, max(n, 0)%6), fsOp(n, 0, 1), fsOp(6, 0, 1, n)} {
		a.starts = append(a.starts, impl.StartFs(f, o))
	}
	if n%16 == 0 {
		a.drive = impl.DriveFs(f)
	}
	return a
}

// P1: whatever was asked ahead of it, and beside it, an answer is the same; the order of a map is not to be seen.
func TestFsAnswersHangOnArguments(t *testing.T) {
	for _, f := range []impl.FsWorld{usedFs(), laterFs(usedFs(), 21), rawFs(415)[2]} {
		checkSteady(t, func(n int64) any { return askFs(f, n) })
	}
}
