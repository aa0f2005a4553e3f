package tests

import (
	"math"
	"math/rand"
	"slices"
	"testing"

	"loop.example/g00331/impl"
)

func TestRangeConstants(t *testing.T) {
	if impl.MaxRanges != 6 {
		t.Error("ranges")
	}
}

func span(from, to, epoch int64) impl.Range { return impl.Range{From: from, To: to, Epoch: epoch} }

func spans(list ...impl.Range) []impl.Range { return list }

// cutAt has no fault where the numbers rise from 1 to 199: the ranges between them, of the epochs e, e+1 and so on.
func cutAt(e int64, at ...int64) (list []impl.Range) {
	from := int64(0)
	for i, to := range append(slices.Clone(at), 200) {
		list = append(list, span(from, to, e+int64(i)))
		from = to
	}
	return list
}

func noRanges(code int64) impl.RangesResult { return impl.RangesResult{Code: code} }

func ranges(list ...impl.Range) impl.RangesResult { return impl.RangesResult{Ranges: list} }

func equalRanges(a, b impl.RangesResult) bool {
	return a.Code == b.Code && slices.Equal(a.Ranges, b.Ranges)
}

// wantRangesFault and the others behind it say the chapter once more, with its own numbers.
func wantRangesFault(list []impl.Range) int64 {
	if !within(int64(len(list)), 1, 6) {
		return impl.ErrMany
	}
	for i, r := range list {
		switch {
		case !within(r.Epoch, 1, 9999), r.To <= r.From:
			return impl.ErrRange
		case i == 0 && r.From != 0, i > 0 && r.From != list[i-1].To:
			return impl.ErrForm
		}
	}
	if list[len(list)-1].To != 200 {
		return impl.ErrForm
	}
	return impl.OK
}

// owners are the places of all ranges that have the key.
func owners(list []impl.Range, key int64) (places []int64) {
	for i, r := range list {
		if key >= r.From && key < r.To {
			places = append(places, int64(i))
		}
	}
	return places
}

func wantRoute(list []impl.Range, key int64) impl.IntResult {
	if code := wantRangesFault(list); code != impl.OK {
		return impl.IntResult{Code: code}
	}
	if !within(key, 0, 199) {
		return impl.IntResult{Code: impl.ErrRange}
	}
	return impl.IntResult{Value: owners(list, key)[0]}
}

func greatestEpoch(list []impl.Range) int64 {
	return slices.MaxFunc(list, func(a, b impl.Range) int { return int(a.Epoch - b.Epoch) }).Epoch
}

func wantSplit(list []impl.Range, at int64) impl.RangesResult {
	code := wantRangesFault(list)
	begins := slices.ContainsFunc(list, func(r impl.Range) bool { return r.From == at })
	switch {
	case code != impl.OK:
		return noRanges(code)
	case !within(at, 1, 199):
		return noRanges(impl.ErrRange)
	case begins:
		return noRanges(impl.ErrTaken)
	case len(list) == 6, greatestEpoch(list) == 9999:
		return noRanges(impl.ErrMany)
	}
	var want []impl.Range
	for _, r := range list {
		if r.From < at && at < r.To {
			epoch := greatestEpoch(list) + 1
			want = append(want, span(r.From, at, epoch), span(at, r.To, epoch))
			continue
		}
		want = append(want, r)
	}
	return ranges(want...)
}

func wantMerge(list []impl.Range, place int64) impl.RangesResult {
	code := wantRangesFault(list)
	switch {
	case code != impl.OK:
		return noRanges(code)
	case !within(place, 0, int64(len(list))-2):
		return noRanges(impl.ErrRange)
	case greatestEpoch(list) == 9999:
		return noRanges(impl.ErrMany)
	}
	want := slices.Clone(list[:place])
	want = append(want, span(list[place].From, list[place+1].To, greatestEpoch(list)+1))
	return ranges(append(want, list[place+2:]...)...)
}

func wantFresh(list []impl.Range, place, epoch, key int64) bool {
	return wantRangesFault(list) == impl.OK && slices.Equal(owners(list, key), []int64{place}) && list[place].Epoch == epoch
}

type rangesCase struct {
	name string
	list []impl.Range
	code int64
}

func rightRanges() []rangesCase {
	return []rangesCase{
		{"one", spans(span(0, 200, 1)), impl.OK},
		{"one of the last epoch", spans(span(0, 200, 9999)), impl.OK},
		{"two", cutAt(3, 20), impl.OK},
		{"two of one epoch", spans(span(0, 20, 4), span(20, 200, 4)), impl.OK},
		{"two whose epochs fall", spans(span(0, 20, 9999), span(20, 200, 1)), impl.OK},
		{"cut at 1", cutAt(1, 1), impl.OK},
		{"cut at MaxKey", cutAt(1, 199), impl.OK},
		{"three", cutAt(7, 10, 180), impl.OK},
		{"one short of all", cutAt(5, 10, 20, 80, 180), impl.OK},
		{"as many as there may be", cutAt(1, 10, 20, 80, 90, 180), impl.OK},
		{"as many, of one key each", cutAt(1, 1, 2, 3, 4, 5), impl.OK},
		{"as many, at the end", cutAt(9994, 195, 196, 197, 198, 199), impl.OK},
	}
}

func wrongRanges() []rangesCase {
	return []rangesCase{
		{"nil", nil, impl.ErrMany},
		{"none", []impl.Range{}, impl.ErrMany},
		{"one more than there may be", cutAt(1, 10, 20, 80, 90, 100, 180), impl.ErrMany},
		{"far more", make([]impl.Range, 1000), impl.ErrMany},
		{"nothing but zeros", spans(impl.Range{}), impl.ErrRange},
		{"epoch 0", spans(span(0, 200, 0)), impl.ErrRange},
		{"epoch below 0", spans(span(0, 200, -1)), impl.ErrRange},
		{"epoch 10000", spans(span(0, 200, 10000)), impl.ErrRange},
		{"least epoch", spans(span(0, 200, math.MinInt64)), impl.ErrRange},
		{"greatest epoch", spans(span(0, 200, math.MaxInt64)), impl.ErrRange},
		{"epoch 0 of the last one", spans(span(0, 20, 1), span(20, 200, 0)), impl.ErrRange},
		{"epoch 10000 in the midst", spans(span(0, 20, 1), span(20, 30, 10000), span(30, 200, 1)), impl.ErrRange},
		{"From is To", spans(span(0, 0, 1)), impl.ErrRange},
		{"From is To, at the end", spans(span(0, 200, 1), span(200, 200, 1)), impl.ErrRange},
		{"From is To, in the midst", spans(span(0, 20, 1), span(20, 20, 1), span(20, 200, 1)), impl.ErrRange},
		{"From is above To", spans(span(0, 50, 1), span(50, 49, 1), span(49, 200, 1)), impl.ErrRange},
		{"From is far above To", spans(span(math.MaxInt64, math.MinInt64, 1)), impl.ErrRange},
		{"first From 1", spans(span(1, 200, 1)), impl.ErrForm},
		{"first From below 0", spans(span(-1, 200, 1)), impl.ErrForm},
		{"least first From", spans(span(math.MinInt64, 200, 1)), impl.ErrForm},
		{"first From 1 of two", spans(span(1, 20, 1), span(20, 200, 1)), impl.ErrForm},
		{"a key in no range", spans(span(0, 20, 1), span(21, 200, 1)), impl.ErrForm},
		{"a key in two ranges", spans(span(0, 20, 1), span(19, 200, 1)), impl.ErrForm},
		{"all twice", spans(span(0, 200, 1), span(0, 200, 2)), impl.ErrForm},
		{"not in order", spans(span(20, 200, 1), span(0, 20, 1)), impl.ErrForm},
		{"last To is MaxKey", spans(span(0, 199, 1)), impl.ErrForm},
		{"last To is MaxKey and 2", spans(span(0, 201, 1)), impl.ErrForm},
		{"greatest last To", spans(span(0, 20, 1), span(20, math.MaxInt64, 1)), impl.ErrForm},
		{"ends early", spans(span(0, 20, 1), span(20, 180, 1)), impl.ErrForm},
		{"goes on behind MaxKey", spans(span(0, 200, 1), span(200, 201, 1)), impl.ErrForm},
		{"To in the midst beyond MaxKey", spans(span(0, 300, 1), span(300, 400, 1)), impl.ErrForm},
		{"To in the midst beyond MaxKey, and back", spans(span(0, 300, 1), span(300, 200, 1)), impl.ErrRange},
		{"first one of form, second one of range", spans(span(1, 20, 1), span(20, 200, 0)), impl.ErrForm},
		{"first one of range, second one of form", spans(span(0, 20, 0), span(21, 200, 1)), impl.ErrRange},
		{"both of one range", spans(span(1, 20, 0), span(20, 200, 1)), impl.ErrRange},
		{"range of the last one, which ends early", spans(span(0, 20, 1), span(20, 100, 10000)), impl.ErrRange},
		{"form of the last one, which ends early", spans(span(0, 20, 1), span(30, 100, 1)), impl.ErrForm},
		{"too many, and each of them wrong", make([]impl.Range, 7), impl.ErrMany},
	}
}

func allRanges() []rangesCase { return append(rightRanges(), wrongRanges()...) }

func TestRangesFault(t *testing.T) {
	for _, c := range allRanges() {
		if got := impl.RangesFault(c.list); got != c.code || got != wantRangesFault(c.list) {
			t.Errorf("%s: %d, want %d", c.name, got, c.code)
		}
	}
}

func oddEpochs() []int64 {
	return []int64{math.MinInt64, math.MinInt64 + 1, -9999, -1, 0, 1, 2, 3, 199, 200, 201, 5000, 9997, 9998, 9999, 10000, 10001, math.MaxInt32, math.MaxInt64 - 1, math.MaxInt64}
}

// P1: each number of a right list, one at a time, may be anything.
func TestRangesFaultAtOddNumbers(t *testing.T) {
	for _, c := range rightRanges() {
		for i := range c.list {
			for _, n := range append(oddNumbers(), oddEpochs()...) {
				for field := range 3 {
					list := slices.Clone(c.list)
					*[]*int64{&list[i].From, &list[i].To, &list[i].Epoch}[field] = n
					if got, want := impl.RangesFault(list), wantRangesFault(list); got != want {
						t.Errorf("%v: %d, want %d", list, got, want)
					}
				}
			}
		}
	}
}

func TestWholeRange(t *testing.T) {
	for _, epoch := range []int64{1, 2, 3, 5000, 9998, 9999} {
		got := impl.WholeRange(epoch)
		if !equalRanges(got, ranges(span(0, 200, epoch))) || impl.RangesFault(got.Ranges) != impl.OK {
			t.Errorf("WholeRange of %d: %+v", epoch, got)
		}
	}
	for _, epoch := range oddEpochs() {
		want := noRanges(impl.ErrRange)
		if within(epoch, 1, 9999) {
			want = ranges(span(0, 200, epoch))
		}
		if got := impl.WholeRange(epoch); !equalRanges(got, want) {
			t.Errorf("WholeRange of %d: %+v, want %+v", epoch, got, want)
		}
	}
}

func TestRouteOf(t *testing.T) {
	six := cutAt(1, 1, 20, 21, 180, 199)
	for _, c := range []struct {
		list       []impl.Range
		key, place int64
	}{
		{cutAt(1), 0, 0}, {cutAt(1), 100, 0}, {cutAt(1), 199, 0},
		{cutAt(1, 20), 0, 0}, {cutAt(1, 20), 19, 0}, {cutAt(1, 20), 20, 1}, {cutAt(1, 20), 21, 1}, {cutAt(1, 20), 199, 1},
		{cutAt(1, 1), 0, 0}, {cutAt(1, 1), 1, 1}, {cutAt(1, 199), 198, 0}, {cutAt(1, 199), 199, 1},
		{six, 0, 0}, {six, 1, 1}, {six, 19, 1}, {six, 20, 2}, {six, 21, 3}, {six, 179, 3}, {six, 180, 4}, {six, 198, 4}, {six, 199, 5},
		// A key that stands for nothing has a range as well.
		{cutAt(1, 20), 5, 0}, {cutAt(1, 20), 29, 1},
	} {
		if got := impl.RouteOf(c.list, c.key); got != (impl.IntResult{Value: c.place}) {
			t.Errorf("RouteOf of %v, %d: %+v, want %d", c.list, c.key, got, c.place)
		}
	}
	for _, key := range []int64{-1, 200, 201, math.MinInt64, math.MaxInt64} {
		for _, list := range [][]impl.Range{cutAt(1), cutAt(1, 20), six} {
			if got := impl.RouteOf(list, key); got != (impl.IntResult{Code: impl.ErrRange}) {
				t.Errorf("RouteOf of %v, %d: %+v", list, key, got)
			}
		}
	}
}

func TestSplitRange(t *testing.T) {
	four := spans(span(0, 20, 9), span(20, 80, 2), span(80, 180, 9), span(180, 200, 5))
	six := cutAt(1, 10, 20, 80, 90, 180)
	last := spans(span(0, 20, 9999), span(20, 80, 2), span(80, 200, 9998))
	for _, c := range []struct {
		name string
		list []impl.Range
		at   int64
		want impl.RangesResult
	}{
		{"one", cutAt(3), 20, ranges(span(0, 20, 4), span(20, 200, 4))},
		{"at 1", cutAt(3), 1, ranges(span(0, 1, 4), span(1, 200, 4))},
		{"at MaxKey", cutAt(3), 199, ranges(span(0, 199, 4), span(199, 200, 4))},
		{"the first of two", cutAt(3, 20), 10, ranges(span(0, 10, 5), span(10, 20, 5), span(20, 200, 4))},
		{"the last of two", cutAt(3, 20), 21, ranges(span(0, 20, 3), span(20, 21, 5), span(21, 200, 5))},
		{"in the midst: the others keep their epochs", four, 79, ranges(span(0, 20, 9), span(20, 79, 10), span(79, 80, 10), span(80, 180, 9), span(180, 200, 5))},
		{"the last of four", four, 199, ranges(span(0, 20, 9), span(20, 80, 2), span(80, 180, 9), span(180, 199, 10), span(199, 200, 10))},
		{"up to six", cutAt(1, 10, 20, 80, 180), 90, ranges(span(0, 10, 1), span(10, 20, 2), span(20, 80, 3), span(80, 90, 6), span(90, 180, 6), span(180, 200, 5))},
		{"the last of five", cutAt(1, 10, 20, 80, 180), 181, ranges(span(0, 10, 1), span(10, 20, 2), span(20, 80, 3), span(80, 180, 4), span(180, 181, 6), span(181, 200, 6))},
		{"up to the last epoch", cutAt(9998), 20, ranges(span(0, 20, 9999), span(20, 200, 9999))},
		{"behind the last epoch", cutAt(9999), 20, noRanges(impl.ErrMany)},
		{"another one has the last epoch", last, 100, noRanges(impl.ErrMany)},
		{"it has the last epoch", last, 10, noRanges(impl.ErrMany)},
		{"at 0", cutAt(3), 0, noRanges(impl.ErrRange)},
		{"at MaxKey and 1", cutAt(3), 200, noRanges(impl.ErrRange)},
		{"below 0", cutAt(3), -1, noRanges(impl.ErrRange)},
		{"at the least", cutAt(3), math.MinInt64, noRanges(impl.ErrRange)},
		{"at the greatest", cutAt(3), math.MaxInt64, noRanges(impl.ErrRange)},
		{"where one begins", cutAt(3, 20), 20, noRanges(impl.ErrTaken)},
		{"where the last one begins", four, 180, noRanges(impl.ErrTaken)},
		{"there are six", six, 100, noRanges(impl.ErrMany)},
		{"there are six: where one begins", six, 90, noRanges(impl.ErrTaken)},
		{"there are six: at 0", six, 0, noRanges(impl.ErrRange)},
		{"last epoch: where one begins", last, 20, noRanges(impl.ErrTaken)},
		{"last epoch: at 200", last, 200, noRanges(impl.ErrRange)},
	} {
		if got := impl.SplitRange(c.list, c.at); !equalRanges(got, c.want) || !equalRanges(got, wantSplit(c.list, c.at)) {
			t.Errorf("%s: SplitRange of %v, %d: %+v, want %+v", c.name, c.list, c.at, got, c.want)
		}
	}
}

func TestMergeRange(t *testing.T) {
	four := spans(span(0, 20, 9), span(20, 80, 2), span(80, 180, 9), span(180, 200, 5))
	six := cutAt(1, 10, 20, 80, 90, 180)
	for _, c := range []struct {
		name  string
		list  []impl.Range
		place int64
		want  impl.RangesResult
	}{
		{"two", cutAt(3, 20), 0, ranges(span(0, 200, 5))},
		{"the first place", four, 0, ranges(span(0, 80, 10), span(80, 180, 9), span(180, 200, 5))},
		{"in the midst", four, 1, ranges(span(0, 20, 9), span(20, 180, 10), span(180, 200, 5))},
		{"the last place but one", four, 2, ranges(span(0, 20, 9), span(20, 80, 2), span(80, 200, 10))},
		{"the first of six", six, 0, ranges(span(0, 20, 7), span(20, 80, 3), span(80, 90, 4), span(90, 180, 5), span(180, 200, 6))},
		{"the last but one of six", six, 4, ranges(span(0, 10, 1), span(10, 20, 2), span(20, 80, 3), span(80, 90, 4), span(90, 200, 7))},
		{"the greatest epoch is elsewhere", spans(span(0, 20, 1), span(20, 80, 2), span(80, 200, 70)), 0, ranges(span(0, 80, 71), span(80, 200, 70))},
		{"up to the last epoch", cutAt(9997, 20), 0, ranges(span(0, 200, 9999))},
		{"behind the last epoch", cutAt(9998, 20), 0, noRanges(impl.ErrMany)},
		{"the first one has the last epoch", spans(span(0, 20, 9999), span(20, 80, 2), span(80, 200, 3)), 1, noRanges(impl.ErrMany)},
		{"the last one has the last epoch", spans(span(0, 20, 1), span(20, 80, 2), span(80, 200, 9999)), 0, noRanges(impl.ErrMany)},
		{"last epoch: the last place", cutAt(9998, 20), 1, noRanges(impl.ErrRange)},
		{"one", cutAt(3), 0, noRanges(impl.ErrRange)},
		{"one of the last epoch", cutAt(9999), 0, noRanges(impl.ErrRange)},
		{"the last place of two", cutAt(3, 20), 1, noRanges(impl.ErrRange)},
		{"the last place of four", four, 3, noRanges(impl.ErrRange)},
		{"the last place of six", six, 5, noRanges(impl.ErrRange)},
		{"behind the end", four, 4, noRanges(impl.ErrRange)},
		{"far behind the end", six, 6, noRanges(impl.ErrRange)},
		{"below 0", four, -1, noRanges(impl.ErrRange)},
		{"least", four, math.MinInt64, noRanges(impl.ErrRange)},
		{"greatest", four, math.MaxInt64, noRanges(impl.ErrRange)},
	} {
		if got := impl.MergeRange(c.list, c.place); !equalRanges(got, c.want) || !equalRanges(got, wantMerge(c.list, c.place)) {
			t.Errorf("%s: MergeRange of %v, %d: %+v, want %+v", c.name, c.list, c.place, got, c.want)
		}
	}
}

// The greatest epoch counts in whatever place it stands.
func TestLastEpochInAnyPlace(t *testing.T) {
	for last := range 5 {
		list := cutAt(1, 10, 20, 80, 180)
		list[last].Epoch = 9999
		for at := int64(1); at <= 199; at++ {
			want := noRanges(impl.ErrMany)
			if slices.Contains([]int64{10, 20, 80, 180}, at) {
				want = noRanges(impl.ErrTaken)
			}
			if got := impl.SplitRange(list, at); !equalRanges(got, want) {
				t.Errorf("SplitRange of %v, %d: %+v, want %+v", list, at, got, want)
			}
		}
		for place := range int64(4) {
			if got := impl.MergeRange(list, place); !equalRanges(got, noRanges(impl.ErrMany)) {
				t.Errorf("MergeRange of %v, %d: %+v", list, place, got)
			}
		}
	}
}

func TestIsFresh(t *testing.T) {
	whole := impl.WholeRange(3).Ranges
	two := impl.SplitRange(whole, 20).Ranges
	again := impl.MergeRange(two, 0).Ranges
	three := impl.SplitRange(two, 100).Ranges
	for _, c := range []struct {
		name              string
		list              []impl.Range
		place, epoch, key int64
		want              bool
	}{
		{"whole", whole, 0, 3, 0, true}, {"whole, last key", whole, 0, 3, 199, true},
		{"another place", whole, 1, 3, 0, false}, {"place below 0", whole, -1, 3, 0, false},
		{"epoch below", whole, 0, 2, 0, false}, {"epoch above", whole, 0, 4, 0, false}, {"epoch 0", whole, 0, 0, 0, false},
		{"key below 0", whole, 0, 3, -1, false}, {"key behind the last", whole, 0, 3, 200, false},
		{"least key", whole, 0, 3, math.MinInt64, false}, {"greatest key", whole, 0, 3, math.MaxInt64, false},
		{"greatest place", whole, math.MaxInt64, 3, 0, false}, {"least place", whole, math.MinInt64, 3, 0, false},
		{"greatest epoch", whole, 0, math.MaxInt64, 0, false}, {"least epoch", whole, 0, math.MinInt64, 0, false},
		{"first half, from before", two, 0, 3, 19, false}, {"first half, from behind", two, 0, 4, 19, true},
		{"second half, from before", two, 0, 3, 20, false}, {"second half, old epoch", two, 1, 3, 20, false}, {"second half, old place", two, 0, 4, 20, false},
		{"second half, from behind", two, 1, 4, 20, true}, {"first half, place of the second", two, 1, 4, 19, false},
		{"merged, first from before", again, 0, 4, 9, false}, {"merged, second from before", again, 1, 4, 20, false},
		{"merged, from ahead of all", again, 0, 3, 9, false}, {"merged, from behind", again, 0, 5, 9, true}, {"merged, second from behind", again, 0, 5, 199, true},
		{"ahead of what was split", three, 0, 4, 19, true}, {"split again, from before", three, 1, 4, 20, false}, {"split again, from behind", three, 1, 5, 99, true},
		{"last half, from before", three, 1, 4, 100, false}, {"last half, from behind", three, 2, 5, 100, true}, {"last half, old epoch", three, 2, 4, 100, false},
	} {
		if got := impl.IsFresh(c.list, c.place, c.epoch, c.key); got != c.want || got != wantFresh(c.list, c.place, c.epoch, c.key) {
			t.Errorf("%s: IsFresh of %v, %d, %d, %d: %v", c.name, c.list, c.place, c.epoch, c.key, got)
		}
	}
}

func oddPlaces() []int64 {
	return []int64{math.MinInt64, -10, -1, 0, 1, 2, 3, 4, 5, 6, 7, 200, math.MaxInt32, math.MaxInt64 - 1, math.MaxInt64}
}

// P1: each function at every list, right ones and wrong ones, and at any number; each list stays as it was.
func TestRangesAtOddNumbers(t *testing.T) {
	for _, c := range allRanges() {
		asked := slices.Clone(c.list)
		for _, n := range oddNumbers() {
			if got, want := impl.RouteOf(asked, n), wantRoute(c.list, n); got != want {
				t.Errorf("%s: RouteOf of %d: %+v, want %+v", c.name, n, got, want)
			}
			if got, want := impl.SplitRange(asked, n), wantSplit(c.list, n); !equalRanges(got, want) {
				t.Errorf("%s: SplitRange of %d: %+v, want %+v", c.name, n, got, want)
			}
			if got, want := impl.MergeRange(asked, n), wantMerge(c.list, n); !equalRanges(got, want) {
				t.Errorf("%s: MergeRange of %d: %+v, want %+v", c.name, n, got, want)
			}
			for _, place := range oddPlaces() {
				for _, epoch := range oddEpochs() {
					if got := impl.IsFresh(asked, place, epoch, n); got != wantFresh(c.list, place, epoch, n) {
						t.Errorf("%s: IsFresh of %d, %d, %d: %v", c.name, place, epoch, n, got)
					}
				}
			}
		}
		if !slices.Equal(asked, c.list) {
			t.Errorf("%s: %v became %v", c.name, c.list, asked)
		}
	}
}

// A list with a fault tells it, whatever else is asked of it.
func TestRangesAskTheFaultFirst(t *testing.T) {
	for _, c := range wrongRanges() {
		for _, n := range []int64{math.MinInt64, -1, 0, 1, 2, 20, 199, 200, math.MaxInt64} {
			if got := impl.RouteOf(c.list, n); got != (impl.IntResult{Code: c.code}) {
				t.Errorf("%s: RouteOf of %d: %+v, want code %d alone", c.name, n, got, c.code)
			}
			if got := impl.SplitRange(c.list, n); !equalRanges(got, noRanges(c.code)) {
				t.Errorf("%s: SplitRange of %d: %+v, want code %d alone", c.name, n, got, c.code)
			}
			if got := impl.MergeRange(c.list, n); !equalRanges(got, noRanges(c.code)) {
				t.Errorf("%s: MergeRange of %d: %+v, want code %d alone", c.name, n, got, c.code)
			}
			for i, r := range c.list {
				if impl.IsFresh(c.list, int64(i), r.Epoch, n) || impl.IsFresh(c.list, int64(i), r.Epoch, r.From) {
					t.Errorf("%s: fresh at %d", c.name, i)
				}
			}
		}
	}
}

// checkOneRange asks P7's first half: all keys, no other number, each just once.
func checkOneRange(t *testing.T, list []impl.Range) {
	t.Helper()
	if impl.RangesFault(list) != impl.OK || !within(int64(len(list)), 1, 6) {
		t.Fatalf("%v has the fault %d", list, impl.RangesFault(list))
	}
	for key := int64(-3); key <= 203; key++ {
		places, got := owners(list, key), impl.RouteOf(list, key)
		if !within(key, 0, 199) {
			if len(places) != 0 || got.Code != impl.ErrRange {
				t.Fatalf("%v: %d is in %v, and %+v tells of it", list, key, places, got)
			}
			continue
		}
		if len(places) != 1 || got != (impl.IntResult{Value: places[0]}) {
			t.Fatalf("%v: the key %d is in %v, and %+v tells of it", list, key, places, got)
		}
	}
}

// known is what one who asked once knows of a key.
type known struct{ place, epoch int64 }

func knownOf(list []impl.Range, key int64) known {
	place := impl.RouteOf(list, key).Value
	return known{place, list[place].Epoch}
}

// oneChange splits or merges somewhere, and tells from which key on below which one all changed hands; with a code it tells none.
func oneChange(r *rand.Rand, list []impl.Range) (next []impl.Range, from, to int64) {
	if at := 1 + r.Int63n(199); r.Intn(2) == 0 {
		if split := impl.SplitRange(list, at); split.Code == impl.OK {
			was := list[owners(list, at)[0]]
			return split.Ranges, was.From, was.To
		}
		return list, 0, 0
	}
	place := r.Int63n(int64(len(list)))
	if merge := impl.MergeRange(list, place); merge.Code == impl.OK {
		return merge.Ranges, list[place].From, list[place+1].To
	}
	return list, 0, 0
}

// P7: whatever is split and merged, a key has one range; what was known of it from before a change is never fresh again, and what did not change stays as it was.
func TestKnownFromBeforeIsNotFresh(t *testing.T) {
	r := rand.New(rand.NewSource(61))
	for _, first := range []int64{1, 2, 500, 9950, 9990, 9998, 9999} {
		list := impl.WholeRange(first).Ranges
		var old [200]map[known]bool
		for key := range old {
			old[key] = map[known]bool{}
		}
		for range 120 {
			next, from, to := oneChange(r, list)
			checkOneRange(t, next)
			for key := range int64(200) {
				before, now := knownOf(list, key), knownOf(next, key)
				changed := from <= key && key < to
				if changed {
					old[key][before] = true
				}
				if changed == (before.epoch == now.epoch) {
					t.Fatalf("%v became %v: the key %d has the epoch %d", list, next, key, now.epoch)
				}
				if !impl.IsFresh(next, now.place, now.epoch, key) || old[key][now] {
					t.Fatalf("%v became %v: the key %d is known as %+v, which it was", list, next, key, now)
				}
				for was := range old[key] {
					if impl.IsFresh(next, was.place, was.epoch, key) {
						t.Fatalf("%v became %v: the key %d is fresh by %+v from before", list, next, key, was)
					}
				}
			}
			list = next
		}
	}
}

// Just one pair of place and epoch is fresh, for any key of any list.
func TestOneIsFresh(t *testing.T) {
	for _, c := range rightRanges() {
		for key := range int64(200) {
			var fresh []known
			for place := int64(-1); place <= 7; place++ {
				for _, r := range append(spans(span(0, 0, 0), span(0, 0, 10000)), c.list...) {
					if was := (known{place, r.Epoch}); impl.IsFresh(c.list, place, r.Epoch, key) && !slices.Contains(fresh, was) {
						fresh = append(fresh, was)
					}
				}
			}
			if !slices.Equal(fresh, []known{knownOf(c.list, key)}) {
				t.Errorf("%s: the key %d is fresh by %v", c.name, key, fresh)
			}
		}
	}
}

// What was split is merged again, and each time turns the epoch.
func TestSplitAndMerged(t *testing.T) {
	for _, c := range rightRanges() {
		for at := int64(1); at <= 199; at++ {
			split := impl.SplitRange(c.list, at)
			if split.Code != impl.OK {
				continue
			}
			place, top := owners(c.list, at)[0], greatestEpoch(c.list)
			merge := impl.MergeRange(split.Ranges, place)
			if top == 9998 {
				if !equalRanges(merge, noRanges(impl.ErrMany)) {
					t.Errorf("%s: split at %d and merged: %+v", c.name, at, merge)
				}
				continue
			}
			want := slices.Clone(c.list)
			want[place].Epoch = top + 2
			if !equalRanges(merge, ranges(want...)) {
				t.Errorf("%s: split at %d and merged: %+v, want %v", c.name, at, merge, want)
			}
		}
	}
}

// From the first epoch to the last one each change takes one, and then none is left.
func TestEpochsEnd(t *testing.T) {
	list := impl.WholeRange(1).Ranges
	for epoch := int64(2); epoch <= 9999; epoch++ {
		next := impl.SplitRange(list, 100)
		if len(list) == 2 {
			next = impl.MergeRange(list, 0)
		}
		if next.Code != impl.OK || greatestEpoch(next.Ranges) != epoch {
			t.Fatalf("%v became %+v, want the epoch %d", list, next, epoch)
		}
		list = next.Ranges
	}
	if got := impl.SplitRange(list, 50); !equalRanges(got, noRanges(impl.ErrMany)) {
		t.Errorf("%v was split: %+v", list, got)
	}
	if got := impl.MergeRange(list, 0); len(list) == 2 && !equalRanges(got, noRanges(impl.ErrMany)) {
		t.Errorf("%v was merged: %+v", list, got)
	}
}

// roomyRanges has room behind the list, and tells whether list and room are as they were.
func roomyRanges(list []impl.Range) ([]impl.Range, func() bool) {
	whole := append(slices.Clone(list), span(-7, -7, -7), span(-8, -8, -8))
	kept := slices.Clone(whole)
	return whole[:len(list)], func() bool { return slices.Equal(whole, kept) }
}

func spoilRanges(list []impl.Range) {
	whole := list[:cap(list)]
	for i := range whole {
		whole[i] = span(-1, -2, -3)
	}
}

// P1: writing into an answer, also behind its length, changes no argument, no other answer and none that comes.
func TestRangesAreNewMemory(t *testing.T) {
	for _, c := range rightRanges() {
		for _, n := range []int64{0, 1, 2, 3, 4, 5, 15, 50, 100, 150, 199} {
			for name, call := range map[string]func(list []impl.Range) impl.RangesResult{
				"SplitRange": func(list []impl.Range) impl.RangesResult { return impl.SplitRange(list, n) },
				"MergeRange": func(list []impl.Range) impl.RangesResult { return impl.MergeRange(list, n) },
				"WholeRange": func([]impl.Range) impl.RangesResult { return impl.WholeRange(n) },
			} {
				list, same := roomyRanges(c.list)
				first, second := call(list), call(list)
				kept := slices.Clone(first.Ranges)
				spoilRanges(first.Ranges)
				third := call(list)
				if !same() || !slices.Equal(second.Ranges, kept) || !slices.Equal(third.Ranges, kept) || second.Code != third.Code {
					t.Errorf("%s of %s, %d: %+v and %+v, want %v", name, c.name, n, second, third, kept)
				}
				spoilRanges(list)
				if !slices.Equal(second.Ranges, kept) {
					t.Errorf("%s of %s, %d: %+v hangs on the list that came in", name, c.name, n, second)
				}
			}
		}
	}
}

// What a list has room for is not to be seen.
func TestRoomOfRangesIsNotSeen(t *testing.T) {
	for _, c := range allRanges() {
		list, same := roomyRanges(c.list)
		for _, n := range []int64{-1, 0, 1, 4, 5, 50, 199, 200} {
			fits := impl.RangesFault(list) == c.code && impl.RouteOf(list, n) == impl.RouteOf(slices.Clip(list), n)
			if !fits || !equalRanges(impl.SplitRange(list, n), wantSplit(c.list, n)) || !equalRanges(impl.MergeRange(list, n), wantMerge(c.list, n)) {
				t.Errorf("%s at %d: the room behind it is seen", c.name, n)
			}
			if impl.IsFresh(list, n, 1, n) != wantFresh(c.list, n, 1, n) || !same() {
				t.Errorf("%s at %d: another answer, or it was changed", c.name, n)
			}
		}
	}
}

type rangeAnswers struct {
	fault               int64
	whole, split, merge impl.RangesResult
	route               impl.IntResult
	fresh               bool
}

func askRanges(list []impl.Range, n int64) rangeAnswers {
	return rangeAnswers{impl.RangesFault(list), impl.WholeRange(n), impl.SplitRange(list, n), impl.MergeRange(list, n), impl.RouteOf(list, n), impl.IsFresh(list, 1, 4, n)}
}

// P1: whatever was asked ahead of it, and beside it, an answer is the same.
func TestRangeAnswersHangOnArguments(t *testing.T) {
	for _, list := range [][]impl.Range{cutAt(3), cutAt(3, 20), cutAt(3, 10, 20, 80, 180), cutAt(3, 10, 20, 80, 90, 180)} {
		checkSteady(t, func(n int64) any { return askRanges(list, n) })
	}
}
