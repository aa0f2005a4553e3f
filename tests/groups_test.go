package tests

import (
	"math"
	"math/rand"
	"slices"
	"testing"

	"loop.example/g00331/impl"
)

// cutStore is s in groups: the ranges between the numbers, of the epochs e, e+1 and so on, each with its part.
func cutStore(s impl.Store, e int64, at ...int64) impl.Groups {
	return inRanges(s, cutAt(e, at...))
}

func inRanges(s impl.Store, list []impl.Range) (g impl.Groups) {
	g.Ranges = list
	for _, r := range list {
		g.Stores = append(g.Stores, wantPart(s, r.From, r.To))
	}
	return g
}

// bare has the ranges, and as many empty stores.
func bare(list []impl.Range) impl.Groups {
	return impl.Groups{Ranges: list, Stores: make([]impl.Store, len(list))}
}

func copyGroups(g impl.Groups) impl.Groups {
	kept := impl.Groups{Ranges: append([]impl.Range{}, g.Ranges...), Stores: []impl.Store{}}
	for _, s := range g.Stores {
		kept.Stores = append(kept.Stores, copyStore(s))
	}
	return kept
}

func equalGroups(a, b impl.Groups) bool {
	return slices.Equal(a.Ranges, b.Ranges) && slices.EqualFunc(a.Stores, b.Stores, equalStores)
}

func noGroups(code int64) impl.GroupsResult { return impl.GroupsResult{Code: code} }

func grouped(g impl.Groups) impl.GroupsResult { return impl.GroupsResult{Groups: g} }

// checkGroups: the code, all of the groups, and no fault in them; beside a code nothing.
func checkGroups(t *testing.T, name string, got, want impl.GroupsResult) {
	t.Helper()
	if got.Code != want.Code || !equalGroups(got.Groups, want.Groups) {
		t.Errorf("%s: %+v, want %+v", name, got, want)
	}
	if fault := wantGroupsFault(got.Groups); got.Code == impl.OK && fault != impl.OK {
		t.Errorf("%s: %+v has the fault %d", name, got.Groups, fault)
	}
}

// wantGroupsFault and the others behind it say the chapter once more, with its own numbers.
func wantGroupsFault(g impl.Groups) int64 {
	if code := wantRangesFault(g.Ranges); code != impl.OK {
		return code
	}
	if len(g.Stores) != len(g.Ranges) {
		return impl.ErrForm
	}
	var cells, locks, writes int
	for i, s := range g.Stores {
		if code := wantStoreFault(s); code != impl.OK {
			return code
		}
		if !equalStores(s, wantPart(s, g.Ranges[i].From, g.Ranges[i].To)) {
			return impl.ErrRange
		}
		cells, locks, writes = cells+len(s.Cells), locks+len(s.Locks), writes+len(s.Writes)
	}
	if cells > 200 || locks > 200 || writes > 200 {
		return impl.ErrMany
	}
	return impl.OK
}

func wantNewGroups(s impl.Store, epoch int64) impl.GroupsResult {
	if code := wantStoreFault(s); code != impl.OK {
		return noGroups(code)
	}
	if !within(epoch, 1, 9999) {
		return noGroups(impl.ErrRange)
	}
	return grouped(cutStore(s, epoch))
}

func wantStoreFor(g impl.Groups, key int64) impl.StoreResult {
	if code := wantGroupsFault(g); code != impl.OK {
		return refuse(code)
	}
	if code := wantFault(key); code != impl.OK {
		return refuse(code)
	}
	return impl.StoreResult{Store: g.Stores[owners(g.Ranges, key)[0]]}
}

func wantPut(g impl.Groups, place int64, s impl.Store) impl.GroupsResult {
	if code := wantGroupsFault(g); code != impl.OK {
		return noGroups(code)
	}
	if !within(place, 0, int64(len(g.Stores))-1) {
		return noGroups(impl.ErrRange)
	}
	next := copyGroups(g)
	next.Stores[place] = s
	if code := wantGroupsFault(next); code != impl.OK {
		return noGroups(code)
	}
	return grouped(next)
}

// wantUnionOf asks for no fault, and sorts, so that the order of the stores does not count.
func wantUnionOf(g impl.Groups) (all impl.Store) {
	for _, s := range slices.Backward(g.Stores) {
		all.Cells = append(all.Cells, s.Cells...)
		all.Locks = append(all.Locks, s.Locks...)
		all.Writes = append(all.Writes, s.Writes...)
	}
	sortStore(all)
	return all
}

func wantUnion(g impl.Groups) impl.StoreResult {
	if code := wantGroupsFault(g); code != impl.OK {
		return refuse(code)
	}
	return impl.StoreResult{Store: wantUnionOf(g)}
}

// wantRecut: whatever the ranges become, each store is what all together has of its keys.
func wantRecut(g impl.Groups, cut impl.RangesResult) impl.GroupsResult {
	if code := wantGroupsFault(g); code != impl.OK {
		return noGroups(code)
	}
	if cut.Code != impl.OK {
		return noGroups(cut.Code)
	}
	return grouped(inRanges(wantUnionOf(g), cut.Ranges))
}

func wantSplitGroups(g impl.Groups, at int64) impl.GroupsResult {
	return wantRecut(g, wantSplit(g.Ranges, at))
}

func wantMergeGroups(g impl.Groups, place int64) impl.GroupsResult {
	return wantRecut(g, wantMerge(g.Ranges, place))
}

func wantSweepGroups(g impl.Groups, safe int64) impl.GroupsResult {
	if code := wantGroupsFault(g); code != impl.OK {
		return noGroups(code)
	}
	swept := wantSweep(wantUnionOf(g), safe)
	if swept.Code != impl.OK {
		return noGroups(swept.Code)
	}
	return grouped(inRanges(swept.Store, g.Ranges))
}

type groupsCase struct {
	name string
	g    impl.Groups
	code int64
}

// fullGroups have just MaxCells cells and writes, in two stores.
func fullGroups() impl.Groups {
	s := impl.Store{Cells: fullCells(199), Writes: fullWrites(199)}
	s.Cells = append(s.Cells, impl.Cell{Key: 180, Start: 1})
	s.Writes = append(s.Writes, impl.Write{Key: 180, Commit: 2, Start: 1, Kind: impl.WriteDelete})
	return cutStore(s, 1, 100)
}

func rightGroups() []groupsCase {
	s := plainStore()
	return []groupsCase{
		{"one", cutStore(s, 1), impl.OK},
		{"one, empty", cutStore(impl.Store{}, 9999), impl.OK},
		{"two", cutStore(s, 3, 20), impl.OK},
		{"two, empty", cutStore(impl.Store{}, 3, 20), impl.OK},
		{"two, of which the first is empty", cutStore(wantPart(s, 20, 200), 3, 20), impl.OK},
		{"two, of which the last is empty", cutStore(wantPart(s, 0, 20), 3, 20), impl.OK},
		{"two, a lock and its primary apart", cutStore(s, 1, 21), impl.OK},
		{"cut at 1", cutStore(s, 1, 1), impl.OK},
		{"cut at MaxKey", cutStore(s, 1, 199), impl.OK},
		{"the last epoch", cutStore(s, 9998, 20), impl.OK},
		{"as many as there may be", cutStore(s, 1, 10, 20, 21, 90, 180), impl.OK},
		{"as many, empty ones among them", cutStore(s, 1, 1, 2, 3, 4, 5), impl.OK},
		{"as many, all empty", cutStore(impl.Store{}, 1, 10, 20, 80, 90, 180), impl.OK},
		{"full", fullGroups(), impl.OK},
		{"a lock of each key", cutStore(impl.Store{Locks: lockEach()}, 1, 10, 20, 80, 90, 180), impl.OK},
		{"empty lists in place of none", copyGroups(cutStore(impl.Store{}, 1, 20)), impl.OK},
	}
}

func wrongGroups() []groupsCase {
	s := plainStore()
	more := func(g impl.Groups) impl.Groups { g.Stores = append(g.Stores, impl.Store{}); return g }
	less := func(g impl.Groups) impl.Groups { g.Stores = g.Stores[:len(g.Stores)-1]; return g }
	swap := func(g impl.Groups) impl.Groups { g.Stores[0], g.Stores[1] = g.Stores[1], g.Stores[0]; return g }
	list := []groupsCase{
		{"nothing", impl.Groups{}, impl.ErrMany},
		{"no ranges", impl.Groups{Ranges: []impl.Range{}, Stores: []impl.Store{{}}}, impl.ErrMany},
		{"no stores", impl.Groups{Ranges: cutAt(1)}, impl.ErrForm},
		{"no stores, in an empty list", impl.Groups{Ranges: cutAt(1), Stores: []impl.Store{}}, impl.ErrForm},
		{"one, and one store too many", more(cutStore(s, 1)), impl.ErrForm},
		{"two, and one store too few", less(cutStore(s, 1, 20)), impl.ErrForm},
		{"two, and one store too many", more(cutStore(s, 1, 20)), impl.ErrForm},
		{"six, and one store too few", less(cutStore(s, 1, 10, 20, 80, 90, 180)), impl.ErrForm},
		{"six, and one store too many", more(cutStore(s, 1, 10, 20, 80, 90, 180)), impl.ErrForm},
		{"far too many stores", impl.Groups{Ranges: cutAt(1), Stores: make([]impl.Store, 1000)}, impl.ErrForm},
		{"too many stores, and each of them wrong", impl.Groups{Ranges: cutAt(1), Stores: faultyStores()}, impl.ErrForm},
		{"stores in each other's place", swap(cutStore(s, 1, 20)), impl.ErrRange},
		{"ranges of seven, and as many stores", bare(cutAt(1, 10, 20, 80, 90, 100, 180)), impl.ErrMany},
	}
	for _, c := range wrongRanges() {
		list = append(list, groupsCase{"ranges: " + c.name, bare(c.list), c.code},
			groupsCase{"ranges, stores and their number: " + c.name, impl.Groups{Ranges: c.list, Stores: faultyStores()}, c.code})
	}
	return append(list, tooManyGroups()...)
}

// tooManyGroups have one more than MaxCells only all together. (There are too few keys for so many locks, each of a key of its own.)
func tooManyGroups() []groupsCase {
	full := fullGroups()
	cell := copyGroups(full)
	cell.Stores[1].Cells = append(cell.Stores[1].Cells, impl.Cell{Key: 181, Start: 1})
	first := copyGroups(full)
	first.Stores[0].Cells = append([]impl.Cell{{Key: 0, Start: 1}}, first.Stores[0].Cells...)
	write := copyGroups(full)
	write.Stores[1].Writes = append(write.Stores[1].Writes, impl.Write{Key: 181, Commit: 1, Start: 1, Kind: impl.WriteBack})
	far := bare(cutAt(1, 100))
	far.Stores[0].Cells = fullCells(200)
	for _, c := range fullCells(200) {
		far.Stores[1].Cells = append(far.Stores[1].Cells, impl.Cell{Key: 189, Start: c.Start})
	}
	stray := copyGroups(cell)
	stray.Stores[1].Cells[0].Key = 53
	return []groupsCase{
		{"a cell too many, in the last store", cell, impl.ErrMany}, {"a cell too many, in the first store", first, impl.ErrMany},
		{"a write too many", write, impl.ErrMany}, {"twice as many", far, impl.ErrMany},
		{"a cell too many, and a key of another range", stray, impl.ErrRange},
	}
}

func allGroups() []groupsCase { return append(rightGroups(), wrongGroups()...) }

func checkGroupsFault(t *testing.T, name string, g impl.Groups, code int64) {
	t.Helper()
	kept := copyGroups(g)
	if got, want := impl.GroupsFault(g), wantGroupsFault(g); got != code || want != code {
		t.Errorf("%s: GroupsFault of %+v is %d, and %d by the tests, want %d", name, g, got, want, code)
	}
	if !equalGroups(kept, g) {
		t.Errorf("%s: GroupsFault changed the groups", name)
	}
}

func TestGroupsFault(t *testing.T) {
	for _, c := range allGroups() {
		checkGroupsFault(t, c.name, c.g, c.code)
	}
}

// A store with each of its faults, in each place; the first one that has a fault tells it.
func TestGroupsFaultOfStores(t *testing.T) {
	faulty := faultyStores()
	for i, s := range faulty {
		code := wantStoreFault(s)
		for _, at := range [][]int64{{}, {20}, {10, 20, 80, 90, 180}} {
			for place := range len(at) + 1 {
				g := bare(cutAt(1, at...))
				g.Stores[place] = s
				checkGroupsFault(t, "one store with a fault", g, code)
			}
		}
		other := faulty[(i+1)%len(faulty)]
		two := impl.Groups{Ranges: cutAt(1, 20), Stores: []impl.Store{s, other}}
		checkGroupsFault(t, "both stores with a fault", two, code)
		stray := impl.Groups{Ranges: cutAt(1, 20), Stores: []impl.Store{{Cells: []impl.Cell{{Key: 20, Start: 1}}}, s}}
		checkGroupsFault(t, "a key of another range ahead of a fault", stray, impl.ErrRange)
		behind := impl.Groups{Ranges: cutAt(1, 20), Stores: []impl.Store{s, {Cells: []impl.Cell{{Key: 10, Start: 1}}}}}
		checkGroupsFault(t, "a key of another range behind a fault", behind, code)
	}
}

// keyStores are a store with just a cell of key, one with just a lock, one with just a write.
func keyStores(key int64) []impl.Store {
	return []impl.Store{
		{Cells: []impl.Cell{{Key: key, Start: 3, Value: 1}}},
		{Locks: []impl.Lock{{Key: key, Start: 3, Kind: impl.WriteLock, Primary: 10, Until: 9}}},
		{Writes: []impl.Write{{Key: key, Commit: 3, Start: 3, Kind: impl.WriteBack}}},
	}
}

// A cell, a lock, a write on both sides of both ends of a range.
func TestGroupsFaultAtEndsOfRanges(t *testing.T) {
	at := []int64{11, 14, 22, 25, 182}
	list := cutAt(1, at...)
	for place, r := range list {
		for _, key := range []int64{0, r.From - 1, r.From, r.From + 1, r.To - 2, r.To - 1, r.To, 189} {
			if wantFault(key) != impl.OK {
				continue
			}
			for _, s := range keyStores(key) {
				code := int64(impl.ErrRange)
				if r.From <= key && key < r.To {
					code = impl.OK
				}
				g := bare(list)
				g.Stores[place] = s
				checkGroupsFault(t, "a key at the end of a range", g, code)
				checkGroups(t, "put at the end of a range", impl.PutStore(bare(list), int64(place), s), wantPut(bare(list), int64(place), s))
			}
		}
	}
	g := bare(cutAt(1, 11, 14))
	for _, key := range []int64{10, 14} {
		for i, s := range keyStores(key) {
			both, inside := keyStores(12)[i], copyStore(s)
			g.Stores[1] = impl.Store{Cells: append(inside.Cells, both.Cells...), Locks: append(inside.Locks, both.Locks...), Writes: append(inside.Writes, both.Writes...)}
			sortStore(g.Stores[1])
			checkGroupsFault(t, "one key within, one beyond", g, impl.ErrRange)
		}
	}
	g.Stores[1] = impl.Store{Locks: []impl.Lock{{Key: 12, Start: 3, Kind: impl.WriteLock, Primary: 189}}}
	checkGroupsFault(t, "a primary of another range", g, impl.OK)
}

// P1: each number of right groups, one at a time, may be anything.
func TestGroupsFaultAtOddNumbers(t *testing.T) {
	odd := []int64{math.MinInt64, -1, 0, 1, 9, 10, 12, 19, 20, 21, 43, 189, 190, 199, 200, 9999, 10000, 100000, 100001, math.MaxInt64}
	spots := func(g impl.Groups) (list []*int64) {
		for i := range g.Ranges {
			list = append(list, &g.Ranges[i].From, &g.Ranges[i].To, &g.Ranges[i].Epoch)
		}
		for _, s := range g.Stores {
			for i := range s.Cells {
				list = append(list, &s.Cells[i].Key, &s.Cells[i].Start, &s.Cells[i].Value)
			}
			for i := range s.Locks {
				list = append(list, &s.Locks[i].Key, &s.Locks[i].Start, &s.Locks[i].Kind, &s.Locks[i].Primary, &s.Locks[i].Until)
			}
			for i := range s.Writes {
				list = append(list, &s.Writes[i].Key, &s.Writes[i].Commit, &s.Writes[i].Start, &s.Writes[i].Kind)
			}
		}
		return list
	}
	from := cutStore(plainStore(), 3, 20, 43)
	for i := range spots(from) {
		for _, n := range odd {
			g := copyGroups(from)
			*spots(g)[i] = n
			checkGroupsFault(t, "an odd number", g, wantGroupsFault(g))
			checkAllOfGroups(t, "an odd number", g, n)
		}
	}
}

func TestNewGroups(t *testing.T) {
	stores := append(phaseStores(71), faultyStores()...)
	for _, s := range stores {
		for _, epoch := range oddEpochs() {
			checkGroups(t, "new", impl.NewGroups(s, epoch), wantNewGroups(s, epoch))
		}
	}
	for _, epoch := range []int64{1, 2, 9998, 9999} {
		got := impl.NewGroups(plainStore(), epoch)
		checkGroups(t, "new", got, grouped(impl.Groups{Ranges: spans(span(0, 200, epoch)), Stores: []impl.Store{plainStore()}}))
		checkStored(t, "all of new groups", impl.UnionOf(got.Groups), impl.StoreResult{Store: plainStore()})
	}
	for _, epoch := range []int64{math.MinInt64, -1, 0, 10000, math.MaxInt64} {
		checkGroups(t, "no epoch", impl.NewGroups(plainStore(), epoch), noGroups(impl.ErrRange))
		checkGroups(t, "no epoch, and a fault", impl.NewGroups(impl.Store{Cells: fullCells(201)}, epoch), noGroups(impl.ErrMany))
	}
}

func TestStoreFor(t *testing.T) {
	s := plainStore()
	six := cutStore(s, 1, 10, 20, 21, 90, 180)
	part := func(from, to int64) impl.StoreResult { return impl.StoreResult{Store: wantPart(s, from, to)} }
	for _, c := range []struct {
		g    impl.Groups
		key  int64
		want impl.StoreResult
	}{
		{cutStore(s, 1), 0, impl.StoreResult{Store: s}}, {cutStore(s, 1), 189, impl.StoreResult{Store: s}},
		{six, 0, part(0, 10)}, {six, 10, part(10, 20)}, {six, 19, part(10, 20)}, {six, 20, part(20, 21)}, {six, 21, part(21, 90)}, {six, 22, part(21, 90)},
		{six, 85, part(21, 90)}, {six, 90, part(90, 180)}, {six, 115, part(90, 180)}, {six, 180, part(180, 200)}, {six, 189, part(180, 200)},
		{six, 1, refuse(impl.ErrForm)}, {six, 9, refuse(impl.ErrForm)}, {six, 26, refuse(impl.ErrForm)}, {six, 179, refuse(impl.ErrForm)}, {six, 199, refuse(impl.ErrForm)},
		{six, -1, refuse(impl.ErrRange)}, {six, 200, refuse(impl.ErrRange)}, {six, math.MinInt64, refuse(impl.ErrRange)}, {six, math.MaxInt64, refuse(impl.ErrRange)},
	} {
		checkStored(t, "StoreFor", impl.StoreFor(c.g, c.key), c.want)
	}
	for _, c := range rightGroups() {
		for _, key := range oddNumbers() {
			checkStored(t, c.name, impl.StoreFor(c.g, key), wantStoreFor(c.g, key))
		}
	}
}

// What is asked of a key is the same in its store and in all together.
func TestStoreForTellsOfItsKeys(t *testing.T) {
	for _, c := range rightGroups() {
		all := impl.UnionOf(c.g).Store
		for _, k := range allKeys() {
			own := impl.StoreFor(c.g, k.key).Store
			if !equalStores(wantPart(own, k.key, k.key+1), wantPart(all, k.key, k.key+1)) {
				t.Errorf("%s: the store of %d has %+v", c.name, k.key, own)
			}
			for _, ts := range []int64{1, 5, 11, 100000} {
				if impl.GetAt(own, k.key, ts) != impl.GetAt(all, k.key, ts) {
					t.Errorf("%s: %d is read otherwise at %d", c.name, k.key, ts)
				}
			}
		}
	}
}

func TestPutStore(t *testing.T) {
	g := cutStore(plainStore(), 3, 20, 43)
	first, last := impl.Store{Cells: fullCells(3)}, impl.Store{Cells: []impl.Cell{{Key: 43, Start: 9, Value: 9}, {Key: 189, Start: 1}}}
	with := func(place int, s impl.Store) impl.GroupsResult {
		next := copyGroups(g)
		next.Stores[place] = s
		return grouped(next)
	}
	for _, c := range []struct {
		name  string
		place int64
		s     impl.Store
		want  impl.GroupsResult
	}{
		{"at the first place", 0, first, with(0, first)},
		{"at the last place", 2, last, with(2, last)},
		{"nothing at the first place", 0, impl.Store{}, with(0, impl.Store{})},
		{"nothing at the last place", 2, impl.Store{}, with(2, impl.Store{})},
		{"the same again", 1, g.Stores[1], grouped(g)},
		{"below 0", -1, first, noGroups(impl.ErrRange)},
		{"behind the end", 3, last, noGroups(impl.ErrRange)},
		{"least", math.MinInt64, first, noGroups(impl.ErrRange)},
		{"greatest", math.MaxInt64, last, noGroups(impl.ErrRange)},
		{"no place, and a fault", 3, impl.Store{Cells: fullCells(201)}, noGroups(impl.ErrRange)},
		{"a store of another range", 0, last, noGroups(impl.ErrRange)},
		{"a store of all ranges", 1, plainStore(), noGroups(impl.ErrRange)},
		{"too many in itself", 0, impl.Store{Cells: fullCells(201)}, noGroups(impl.ErrMany)},
		{"just so many together", 0, impl.Store{Cells: fullCells(197)}, with(0, impl.Store{Cells: fullCells(197)})},
		{"one too many together", 0, impl.Store{Cells: fullCells(198)}, noGroups(impl.ErrMany)},
		{"just so many writes together", 0, impl.Store{Writes: fullWrites(199)}, with(0, impl.Store{Writes: fullWrites(199)})},
		{"one write too many together", 0, impl.Store{Writes: fullWrites(200)}, noGroups(impl.ErrMany)},
		{"a key that stands for nothing", 0, impl.Store{Cells: []impl.Cell{{Key: 1, Start: 1}}}, noGroups(impl.ErrForm)},
		{"a put without its cell", 0, impl.Store{Writes: []impl.Write{{Key: 10, Commit: 2, Start: 1, Kind: impl.WritePut}}}, noGroups(impl.ErrNone)},
		{"a start twice", 0, impl.Store{Writes: []impl.Write{{Key: 10, Commit: 2, Start: 1, Kind: impl.WriteLock}, {Key: 10, Commit: 3, Start: 1, Kind: impl.WriteLock}}}, noGroups(impl.ErrTaken)},
	} {
		checkGroups(t, c.name, impl.PutStore(g, c.place, c.s), c.want)
		checkGroups(t, c.name, impl.PutStore(g, c.place, c.s), wantPut(g, c.place, c.s))
	}
	checkGroups(t, "in place of one that was full", impl.PutStore(fullGroups(), 0, impl.Store{Cells: fullCells(199)}), wantPut(fullGroups(), 0, impl.Store{Cells: fullCells(199)}))
	for _, c := range rightGroups() {
		for _, place := range oddPlaces() {
			for _, s := range append(faultyStores(), impl.Store{}, plainStore(), done10(), fullGroups().Stores[1]) {
				checkGroups(t, c.name, impl.PutStore(c.g, place, s), wantPut(c.g, place, s))
			}
		}
	}
}

func TestSplitGroups(t *testing.T) {
	s := plainStore()
	for _, c := range []struct {
		name string
		g    impl.Groups
		at   int64
		want impl.GroupsResult
	}{
		{"keys on both sides", cutStore(s, 3), 20, grouped(inRanges(s, spans(span(0, 20, 4), span(20, 200, 4))))},
		{"at a key: it is in the second one", cutStore(s, 3), 10, grouped(inRanges(s, spans(span(0, 10, 4), span(10, 200, 4))))},
		{"behind a key: it is in the first one", cutStore(s, 3), 11, grouped(inRanges(s, spans(span(0, 11, 4), span(11, 200, 4))))},
		{"keys on the first side alone", cutStore(s, 3), 190, grouped(impl.Groups{Ranges: spans(span(0, 190, 4), span(190, 200, 4)), Stores: []impl.Store{s, {}}})},
		{"keys on the second side alone", cutStore(wantPart(s, 10, 200), 3), 1, grouped(impl.Groups{Ranges: spans(span(0, 1, 4), span(1, 200, 4)), Stores: []impl.Store{{}, wantPart(s, 10, 200)}})},
		{"no keys", cutStore(impl.Store{}, 3), 100, grouped(bare(spans(span(0, 100, 4), span(100, 200, 4))))},
		{"no keys in that one", cutStore(s, 3, 50, 180), 100, grouped(inRanges(s, spans(span(0, 50, 3), span(50, 100, 6), span(100, 180, 6), span(180, 200, 5))))},
		{"the first of three", cutStore(s, 3, 21, 180), 10, grouped(inRanges(s, spans(span(0, 10, 6), span(10, 21, 6), span(21, 180, 4), span(180, 200, 5))))},
		{"the last of three", cutStore(s, 3, 21, 180), 189, grouped(inRanges(s, spans(span(0, 21, 3), span(21, 180, 4), span(180, 189, 6), span(189, 200, 6))))},
		{"at 1", cutStore(s, 3), 1, grouped(inRanges(s, spans(span(0, 1, 4), span(1, 200, 4))))},
		{"at MaxKey", cutStore(s, 3), 199, grouped(inRanges(s, spans(span(0, 199, 4), span(199, 200, 4))))},
		{"at 0", cutStore(s, 3), 0, noGroups(impl.ErrRange)},
		{"at MaxKey and 1", cutStore(s, 3), 200, noGroups(impl.ErrRange)},
		{"least", cutStore(s, 3), math.MinInt64, noGroups(impl.ErrRange)},
		{"greatest", cutStore(s, 3), math.MaxInt64, noGroups(impl.ErrRange)},
		{"where one begins", cutStore(s, 3, 20), 20, noGroups(impl.ErrTaken)},
		{"there are six", cutStore(s, 3, 10, 20, 80, 90, 180), 100, noGroups(impl.ErrMany)},
		{"there are six: where one begins", cutStore(s, 3, 10, 20, 80, 90, 180), 90, noGroups(impl.ErrTaken)},
		{"the last epoch", cutStore(s, 9998, 20), 10, noGroups(impl.ErrMany)},
	} {
		checkGroups(t, c.name, impl.SplitGroups(c.g, c.at), c.want)
		checkGroups(t, c.name, impl.SplitGroups(c.g, c.at), wantSplitGroups(c.g, c.at))
	}
}

func TestMergeGroups(t *testing.T) {
	s := plainStore()
	empty := func(from, to int64) impl.Store {
		left := wantPart(s, 0, from)
		rest := wantPart(s, to, 200)
		return impl.Store{Cells: append(left.Cells, rest.Cells...), Locks: append(left.Locks, rest.Locks...), Writes: append(left.Writes, rest.Writes...)}
	}
	merged := spans(span(0, 10, 3), span(10, 43, 7), span(43, 200, 6))
	for _, c := range []struct {
		name  string
		g     impl.Groups
		place int64
		want  impl.GroupsResult
	}{
		{"two", cutStore(s, 3, 20), 0, grouped(cutStore(s, 5))},
		{"the first place", cutStore(s, 3, 10, 43), 0, grouped(inRanges(s, spans(span(0, 43, 6), span(43, 200, 5))))},
		{"the last place but one", cutStore(s, 3, 10, 43), 1, grouped(inRanges(s, spans(span(0, 10, 3), span(10, 200, 6))))},
		{"both have keys", cutStore(s, 3, 10, 20, 43), 1, grouped(inRanges(s, merged))},
		{"the first is empty", cutStore(empty(10, 20), 3, 10, 20, 43), 1, grouped(inRanges(empty(10, 20), merged))},
		{"the second is empty", cutStore(empty(20, 43), 3, 10, 20, 43), 1, grouped(inRanges(empty(20, 43), merged))},
		{"both are empty", cutStore(empty(10, 43), 3, 10, 20, 43), 1, grouped(inRanges(empty(10, 43), merged))},
		{"full", fullGroups(), 0, grouped(inRanges(wantUnionOf(fullGroups()), spans(span(0, 200, 3))))},
		{"one", cutStore(s, 3), 0, noGroups(impl.ErrRange)},
		{"the last place", cutStore(s, 3, 20), 1, noGroups(impl.ErrRange)},
		{"the last place of six", cutStore(s, 3, 10, 20, 80, 90, 180), 5, noGroups(impl.ErrRange)},
		{"behind the end", cutStore(s, 3, 20), 2, noGroups(impl.ErrRange)},
		{"below 0", cutStore(s, 3, 20), -1, noGroups(impl.ErrRange)},
		{"least", cutStore(s, 3, 20), math.MinInt64, noGroups(impl.ErrRange)},
		{"greatest", cutStore(s, 3, 20), math.MaxInt64, noGroups(impl.ErrRange)},
		{"up to the last epoch", cutStore(s, 9997, 20), 0, grouped(cutStore(s, 9999))},
		{"the last epoch", cutStore(s, 9998, 20), 0, noGroups(impl.ErrMany)},
		{"the last epoch, the last place", cutStore(s, 9998, 20), 1, noGroups(impl.ErrRange)},
	} {
		checkGroups(t, c.name, impl.MergeGroups(c.g, c.place), c.want)
		checkGroups(t, c.name, impl.MergeGroups(c.g, c.place), wantMergeGroups(c.g, c.place))
	}
}

func TestUnionOf(t *testing.T) {
	for _, s := range phaseStores(72) {
		for _, at := range [][]int64{{}, {1}, {20}, {199}, {10, 20, 43, 90, 180}, {1, 2, 3, 4, 5}, {11, 12, 21, 25, 189}} {
			checkStored(t, "union", impl.UnionOf(cutStore(s, 1, at...)), impl.StoreResult{Store: s})
		}
	}
	for _, c := range allGroups() {
		checkStored(t, c.name, impl.UnionOf(c.g), wantUnion(c.g))
	}
}

// twoLocks has a lock of the time first in the first of three stores, of the time last in the last one; something to sweep in all.
func twoLocks(first, last int64) impl.Groups {
	s := impl.Store{Locks: []impl.Lock{{Key: 10, Start: first, Kind: impl.WriteDelete, Primary: 10}, {Key: 189, Start: last, Kind: impl.WriteLock, Primary: 10}}}
	for _, key := range []int64{11, 43, 188} {
		s.Cells = append(s.Cells, impl.Cell{Key: key, Start: 1, Value: 5}, impl.Cell{Key: key, Start: 3, Value: 6})
		s.Writes = append(s.Writes, impl.Write{Key: key, Commit: 2, Start: 1, Kind: impl.WritePut}, impl.Write{Key: key, Commit: 4, Start: 3, Kind: impl.WritePut})
	}
	return cutStore(s, 2, 20, 180)
}

// All sweeps of one time, ahead of, at and behind a lock of the first and of the last store.
func TestSweepBesideLocksOfGroups(t *testing.T) {
	for _, c := range []struct{ first, last, safe, code int64 }{
		{7, 99, 1, impl.OK}, {7, 99, 3, impl.OK}, {7, 99, 4, impl.OK}, {7, 99, 6, impl.OK}, {7, 99, 7, impl.ErrLocked}, {7, 99, 8, impl.ErrLocked}, {7, 99, 100000, impl.ErrLocked},
		{99, 7, 1, impl.OK}, {99, 7, 6, impl.OK}, {99, 7, 7, impl.ErrLocked}, {99, 7, 8, impl.ErrLocked}, {99, 7, 100000, impl.ErrLocked},
		{1, 99, 1, impl.ErrLocked}, {99, 1, 1, impl.ErrLocked}, {2, 2, 1, impl.OK}, {100000, 100000, 99999, impl.OK}, {100000, 100000, 100000, impl.ErrLocked},
		{7, 99, 0, impl.ErrRange}, {7, 99, -1, impl.ErrRange}, {7, 99, 100001, impl.ErrRange}, {7, 99, math.MinInt64, impl.ErrRange}, {7, 99, math.MaxInt64, impl.ErrRange},
	} {
		g := twoLocks(c.first, c.last)
		got := impl.SweepGroups(g, c.safe)
		if got.Code != c.code {
			t.Errorf("locks of %d and %d swept at %d: code %d, want %d", c.first, c.last, c.safe, got.Code, c.code)
		}
		checkGroups(t, "swept", got, wantSweepGroups(g, c.safe))
		if got.Code == impl.OK && !slices.Equal(got.Groups.Ranges, g.Ranges) {
			t.Errorf("swept at %d: the ranges are %v", c.safe, got.Groups.Ranges)
		}
	}
	swept := impl.SweepGroups(twoLocks(7, 99), 4).Groups
	for place, s := range swept.Stores {
		if len(s.Cells) != 1 || len(s.Writes) != 1 || s.Cells[0].Start != 3 || s.Writes[0].Commit != 4 {
			t.Errorf("swept at 4, the store %d: %+v", place, s)
		}
	}
	for _, safe := range []int64{1, 4, 99999, 100000} {
		g := cutStore(done10(), 2, 20)
		checkGroups(t, "no locks", impl.SweepGroups(g, safe), grouped(g))
		checkGroups(t, "nothing at all", impl.SweepGroups(bare(cutAt(1, 20)), safe), grouped(bare(cutAt(1, 20))))
	}
}

// checkAllOfGroups asks all that take groups, with n in place of each number.
func checkAllOfGroups(t *testing.T, name string, g impl.Groups, n int64) {
	t.Helper()
	kept := copyGroups(g)
	checkStored(t, name, impl.StoreFor(g, n), wantStoreFor(g, n))
	checkStored(t, name, impl.UnionOf(g), wantUnion(g))
	checkGroups(t, name, impl.PutStore(g, n, impl.Store{}), wantPut(g, n, impl.Store{}))
	checkGroups(t, name, impl.SplitGroups(g, n), wantSplitGroups(g, n))
	checkGroups(t, name, impl.MergeGroups(g, n), wantMergeGroups(g, n))
	checkGroups(t, name, impl.SweepGroups(g, n), wantSweepGroups(g, n))
	if !equalGroups(kept, g) {
		t.Errorf("%s at %d: %+v became %+v", name, n, kept, g)
	}
}

// P1: each function at all groups, right ones and wrong ones, and at any number.
func TestGroupsAtOddNumbers(t *testing.T) {
	for _, c := range allGroups() {
		numbers := []int64{math.MinInt64, -1, 0, 1, 2, 5, 6, 10, 11, 12, 20, 100, 189, 199, 200, 99999, 100000, 100001, math.MaxInt64}
		if c.code == impl.OK {
			numbers = append(numbers, oddNumbers()...)
		}
		for _, n := range numbers {
			checkAllOfGroups(t, c.name, c.g, n)
		}
	}
}

// Groups with a fault tell it, whatever else is asked of them.
func TestGroupsAskTheFaultFirst(t *testing.T) {
	for _, c := range wrongGroups() {
		for _, n := range []int64{math.MinInt64, -1, 0, 1, 2, 10, 20, 200, 100000, math.MaxInt64} {
			for _, got := range []impl.StoreResult{impl.StoreFor(c.g, n), impl.UnionOf(c.g)} {
				checkStored(t, c.name, got, refuse(c.code))
			}
			for _, got := range []impl.GroupsResult{
				impl.PutStore(c.g, n, impl.Store{}), impl.PutStore(c.g, n, impl.Store{Cells: fullCells(201)}),
				impl.SplitGroups(c.g, n), impl.MergeGroups(c.g, n), impl.SweepGroups(c.g, n),
			} {
				checkGroups(t, c.name, got, noGroups(c.code))
			}
		}
	}
}

// anyCut are up to five numbers that rise from 1 to 199.
func anyCut(r *rand.Rand) (at []int64) {
	for range r.Intn(6) {
		at = append(at, 1+r.Int63n(199))
	}
	slices.Sort(at)
	return slices.Compact(at)
}

// P8: a split at any number, and the merge behind it, leave all together as it was, and what is not cut as well.
func TestCutIsAsItWas(t *testing.T) {
	for _, s := range phaseStores(73) {
		for _, g := range []impl.Groups{cutStore(s, 1), cutStore(s, 5, 20, 180)} {
			for at := int64(1); at <= 199; at++ {
				split := impl.SplitGroups(g, at)
				checkGroups(t, "split", split, wantSplitGroups(g, at))
				if split.Code != impl.OK {
					continue
				}
				checkStored(t, "all of what was split", impl.UnionOf(split.Groups), impl.StoreResult{Store: s})
				place := owners(g.Ranges, at)[0]
				merge := impl.MergeGroups(split.Groups, place)
				checkStored(t, "all of what was merged", impl.UnionOf(merge.Groups), impl.StoreResult{Store: s})
				if !slices.EqualFunc(merge.Groups.Stores, g.Stores, equalStores) {
					t.Errorf("split at %d and merged: %+v, want the stores of %+v", at, merge, g)
				}
			}
		}
	}
}

// P8: any row of splits and merges leaves all together as it was, and each key's store what it has of it.
func TestAnyRowOfCutsIsAsItWas(t *testing.T) {
	r := rand.New(rand.NewSource(74))
	for _, s := range phaseStores(75) {
		g := impl.NewGroups(s, 1+r.Int63n(2)*9960).Groups
		done := map[bool]int{}
		for range 120 {
			splits := r.Intn(2) == 0
			next := impl.MergeGroups(g, r.Int63n(6))
			if splits {
				next = impl.SplitGroups(g, []int64{1 + r.Int63n(199), 10, 11, 20, 21, 180, 189}[r.Intn(7)])
			}
			if next.Code != impl.OK {
				continue
			}
			done[splits]++
			g = next.Groups
			if impl.GroupsFault(g) != impl.OK || wantGroupsFault(g) != impl.OK {
				t.Fatalf("%+v has the fault %d", g, impl.GroupsFault(g))
			}
			if all := impl.UnionOf(g); all.Code != impl.OK || !impl.SameStores(all.Store, s) || !equalStores(all.Store, s) {
				t.Fatalf("%+v: all together is %+v, want %+v", g, all, s)
			}
			if !equalGroups(g, inRanges(s, g.Ranges)) {
				t.Fatalf("%+v: a store is not its part of %+v", g, s)
			}
		}
		if done[true] < 15 || done[false] < 15 {
			t.Errorf("only %d splits and %d merges", done[true], done[false])
		}
	}
}

// P8: groups that are swept come to what all of them, swept as one store, come to; codes as well.
func TestSweptGroupsAreAsOneStore(t *testing.T) {
	r := rand.New(rand.NewSource(76))
	told := map[int64]int{}
	for _, s := range sweepStores(77) {
		for range 4 {
			g := cutStore(s, 1, anyCut(r)...)
			for _, safe := range []int64{0, 1, 2, 5, 11, 12, 19, 27, 34, 40, 41, 60, 99999, 100000, 100001} {
				swept, one := impl.SweepGroups(g, safe), impl.SweepStore(impl.UnionOf(g).Store, safe)
				told[swept.Code]++
				checkGroups(t, "swept", swept, wantSweepGroups(g, safe))
				if one.Code != swept.Code {
					t.Fatalf("%+v swept at %d: code %d, and %d as one", g, safe, swept.Code, one.Code)
				}
				if swept.Code == impl.OK {
					checkStored(t, "swept as one", impl.UnionOf(swept.Groups), one)
				}
			}
		}
	}
	if told[impl.OK] < 200 || told[impl.ErrLocked] < 200 || told[impl.ErrRange] < 50 {
		t.Errorf("too few of a kind: %v", told)
	}
}

// What is cut ahead of a sweep is all together what is cut behind it.
func TestCutAheadOfOrBehindASweep(t *testing.T) {
	for _, s := range sweepStores(78) {
		g := cutStore(s, 1, 21, 180)
		for _, safe := range []int64{1, 11, 27, 100000} {
			swept := impl.SweepGroups(g, safe)
			if swept.Code != impl.OK {
				continue
			}
			for _, at := range []int64{10, 11, 20, 25, 189} {
				ahead := impl.SweepGroups(impl.SplitGroups(g, at).Groups, safe)
				checkGroups(t, "split and swept", ahead, impl.SplitGroups(swept.Groups, at))
			}
			for place := range int64(2) {
				ahead := impl.SweepGroups(impl.MergeGroups(g, place).Groups, safe)
				checkGroups(t, "merged and swept", ahead, impl.MergeGroups(swept.Groups, place))
			}
		}
	}
}

// roomyGroups has room behind each of its lists, and tells whether lists and room are as they were.
func roomyGroups(g impl.Groups) (impl.Groups, func() bool) {
	list, same := roomyRanges(g.Ranges)
	tells := []func() bool{same}
	var stores []impl.Store
	for _, s := range append(slices.Clone(g.Stores), done10(), put10()) {
		part, stays := roomy(s)
		stores, tells = append(stores, part), append(tells, stays)
	}
	kept := copyGroups(impl.Groups{Stores: stores})
	stays := func() bool {
		for _, tell := range tells {
			if !tell() {
				return false
			}
		}
		return equalGroups(impl.Groups{Stores: stores}, kept)
	}
	return impl.Groups{Ranges: list, Stores: stores[:len(g.Stores)]}, stays
}

// spoilLists are for each list of g one that writes over all of it, also behind its length; the list of stores comes last.
func spoilLists(g impl.Groups) (list []func()) {
	list = append(list, func() { spoilRanges(g.Ranges) })
	for _, s := range g.Stores {
		list = append(list, func() { spoil(impl.Store{Cells: s.Cells}) }, func() { spoil(impl.Store{Locks: s.Locks}) }, func() { spoil(impl.Store{Writes: s.Writes}) })
	}
	return append(list, func() {
		whole := g.Stores[:cap(g.Stores)]
		for i := range whole {
			whole[i] = put10()
		}
	})
}

// differingLists tells how many of the lists of a and b are not the same.
func differingLists(a, b impl.Groups) (n int) {
	if !slices.Equal(a.Ranges, b.Ranges) {
		n++
	}
	for i := range a.Stores {
		if !slices.Equal(a.Stores[i].Cells, b.Stores[i].Cells) {
			n++
		}
		if !slices.Equal(a.Stores[i].Locks, b.Stores[i].Locks) {
			n++
		}
		if !slices.Equal(a.Stores[i].Writes, b.Stores[i].Writes) {
			n++
		}
	}
	return n
}

func checkGroupsMemory(t *testing.T, name string, from impl.Groups, call func(g impl.Groups) impl.Groups) {
	t.Helper()
	g, stays := roomyGroups(from)
	first, second := call(g), call(g)
	kept := copyGroups(second)
	if !stays() {
		t.Errorf("%s: an argument changed", name)
	}
	lists := spoilLists(first)
	for _, spoilOne := range lists[:len(lists)-1] {
		before := copyGroups(first)
		spoilOne()
		if n := differingLists(before, first); n > 1 {
			t.Errorf("%s: %d lists of one answer share memory", name, n)
		}
	}
	lists[len(lists)-1]()
	if !stays() || !equalGroups(second, kept) {
		t.Errorf("%s: an answer shares memory", name)
	}
	if third := call(g); !equalGroups(third, kept) {
		t.Errorf("%s: %+v, want %+v as before", name, third, kept)
	}
	for _, spoilOne := range spoilLists(g) {
		spoilOne()
	}
	if !equalGroups(second, kept) {
		t.Errorf("%s: an answer changed with an argument", name)
	}
}

// P1: arguments stay as they were, answers are new memory, also where nothing changes.
func TestGroupsNewMemory(t *testing.T) {
	one := func(s impl.StoreResult) impl.Groups { return impl.Groups{Stores: []impl.Store{s.Store}} }
	for _, c := range rightGroups() {
		for _, n := range []int64{-1, 0, 1, 2, 5, 10, 11, 12, 20, 43, 100, 180, 189, 199, 200} {
			for name, call := range map[string]func(g impl.Groups) impl.Groups{
				"GroupsFault": func(g impl.Groups) impl.Groups { impl.GroupsFault(g); return impl.Groups{} },
				"StoreFor":    func(g impl.Groups) impl.Groups { return one(impl.StoreFor(g, n)) },
				"UnionOf":     func(g impl.Groups) impl.Groups { return one(impl.UnionOf(g)) },
				"PutStore":    func(g impl.Groups) impl.Groups { return impl.PutStore(g, n, impl.Store{}).Groups },
				"SplitGroups": func(g impl.Groups) impl.Groups { return impl.SplitGroups(g, n).Groups },
				"MergeGroups": func(g impl.Groups) impl.Groups { return impl.MergeGroups(g, n).Groups },
				"SweepGroups": func(g impl.Groups) impl.Groups { return impl.SweepGroups(g, n).Groups },
			} {
				checkGroupsMemory(t, name+" of "+c.name, c.g, call)
			}
		}
	}
}

// P1: so of the store that is put, and of the one that groups are made of.
func TestStoresThatComeInStay(t *testing.T) {
	g := cutStore(plainStore(), 3, 20, 43)
	for place := range int64(3) {
		for _, s := range append(faultyStores(), g.Stores[place], impl.Store{}) {
			checkOwnMemory(t, "put", s, func(s impl.Store) impl.Store { return impl.UnionOf(impl.PutStore(g, place, s).Groups).Store })
			checkGroupsMemory(t, "put", impl.Groups{Stores: []impl.Store{s}}, func(put impl.Groups) impl.Groups {
				return impl.PutStore(g, place, put.Stores[0]).Groups
			})
			checkGroupsMemory(t, "the same one put", g, func(g impl.Groups) impl.Groups { return impl.PutStore(g, place, g.Stores[place]).Groups })
		}
	}
	for _, s := range append(faultyStores(), phaseStores(79)...) {
		checkGroupsMemory(t, "new", impl.Groups{Stores: []impl.Store{s}}, func(from impl.Groups) impl.Groups { return impl.NewGroups(from.Stores[0], 4).Groups })
	}
}

type groupAnswers struct {
	fault                          int64
	store, union                   impl.StoreResult
	made, put, split, merge, swept impl.GroupsResult
}

func askGroups(g impl.Groups, n int64) groupAnswers {
	return groupAnswers{impl.GroupsFault(g), impl.StoreFor(g, n), impl.UnionOf(g), impl.NewGroups(g.Stores[0], n), impl.PutStore(g, n, impl.Store{}),
		impl.SplitGroups(g, n), impl.MergeGroups(g, n), impl.SweepGroups(g, n)}
}

// P1: whatever was asked ahead of it, and beside it, an answer is the same; the order of a map is not to be seen.
func TestGroupAnswersHangOnArguments(t *testing.T) {
	s := lockedLater(madeStore(rand.New(rand.NewSource(80)), 90))
	for _, g := range []impl.Groups{cutStore(s, 1), cutStore(s, 1, 20, 180), cutStore(s, 1, 10, 20, 25, 90, 180)} {
		checkSteady(t, func(n int64) any { return askGroups(g, n) })
	}
}
