package tests

import (
	"math"
	"math/rand"
	"reflect"
	"slices"
	"testing"

	"loop.example/g00331/impl"
)

func TestOracleConstants(t *testing.T) {
	if impl.Lease != 10 {
		t.Error("lease")
	}
}

func oracle(next, bound int64) impl.Oracle { return impl.Oracle{Next: next, Bound: bound} }

func noGrant(code int64) impl.OracleResult { return impl.OracleResult{Code: code} }

func noTimes(code int64) impl.OracleTimes { return impl.OracleTimes{Code: code} }

// wantOracleFault, wantGranted and wantMany say the chapter once more, with its own numbers.
func wantOracleFault(o impl.Oracle) int64 {
	if !within(o.Next, 1, 100000) || !within(o.Bound, 1, 100000) {
		return impl.ErrRange
	}
	if o.Next > o.Bound {
		return impl.ErrForm
	}
	return impl.OK
}

func wantGranted(o impl.Oracle) impl.OracleResult {
	bound := o.Bound
	switch code := wantOracleFault(o); {
	case code != impl.OK:
		return noGrant(code)
	case o.Next == bound && bound >= 99991:
		return noGrant(impl.ErrMany)
	case o.Next == bound:
		bound += 10
	}
	return impl.OracleResult{Ts: o.Next, Oracle: oracle(o.Next+1, bound)}
}

func wantCrashed(o impl.Oracle) impl.OracleResult {
	if code := wantOracleFault(o); code != impl.OK {
		return noGrant(code)
	}
	return impl.OracleResult{Oracle: oracle(o.Bound, o.Bound)}
}

func wantMany(o impl.Oracle, n int64) impl.OracleTimes {
	if code := wantOracleFault(o); code != impl.OK {
		return noTimes(code)
	}
	if !within(n, 0, 100) {
		return noTimes(impl.ErrRange)
	}
	want := impl.OracleTimes{Oracle: o}
	for range n {
		one := wantGranted(want.Oracle)
		if one.Code != impl.OK {
			return noTimes(one.Code)
		}
		want.Times, want.Oracle = append(want.Times, one.Ts), one.Oracle
	}
	return want
}

func equalTimes(a, b impl.OracleTimes) bool {
	return a.Code == b.Code && a.Oracle == b.Oracle && slices.Equal(a.Times, b.Times)
}

// oddBounds are numbers at and around each bound of the chapter, and far beyond.
func oddBounds() []int64 {
	list := append(oddTimes(), math.MinInt64+1, math.MinInt32, -10, 50000, 50001, 50010, math.MaxInt64-10)
	for ts := int64(99979); ts <= 100011; ts++ {
		list = append(list, ts)
	}
	return list
}

func oddOracles() (list []impl.Oracle) {
	for _, next := range oddBounds() {
		for _, bound := range oddBounds() {
			list = append(list, oracle(next, bound))
		}
	}
	return list
}

func TestOracleFault(t *testing.T) {
	for _, c := range []struct{ next, bound, code int64 }{
		{1, 1, impl.OK}, {1, 2, impl.OK}, {4, 14, impl.OK}, {7, 1000, impl.OK}, {1, 100000, impl.OK}, {100000, 100000, impl.OK}, {99999, 100000, impl.OK},
		{2, 1, impl.ErrForm}, {15, 14, impl.ErrForm}, {100000, 1, impl.ErrForm}, {100000, 99999, impl.ErrForm},
		{0, 0, impl.ErrRange}, {0, 1, impl.ErrRange}, {1, 0, impl.ErrRange}, {-1, 5, impl.ErrRange}, {5, -1, impl.ErrRange}, {-5, -4, impl.ErrRange},
		{100001, 100001, impl.ErrRange}, {100000, 100001, impl.ErrRange}, {100001, 100000, impl.ErrRange}, {1, 100001, impl.ErrRange}, {100001, 1, impl.ErrRange},
		{math.MinInt64, math.MaxInt64, impl.ErrRange}, {math.MaxInt64, math.MinInt64, impl.ErrRange}, {1, math.MaxInt64, impl.ErrRange}, {math.MinInt64, 1, impl.ErrRange},
	} {
		if got := impl.OracleFault(oracle(c.next, c.bound)); got != c.code {
			t.Errorf("OracleFault of %d, %d: %d, want %d", c.next, c.bound, got, c.code)
		}
	}
	if got := impl.OracleFault(impl.Oracle{}); got != impl.ErrRange {
		t.Errorf("of nothing: %d", got)
	}
	for _, o := range oddOracles() {
		if got, want := impl.OracleFault(o), wantOracleFault(o); got != want {
			t.Errorf("OracleFault of %+v: %d, want %d", o, got, want)
		}
	}
}

func TestNewOracle(t *testing.T) {
	for _, first := range []int64{1, 2, 4, 10, 99989, 99990, 99991, 99999, 100000} {
		if got := impl.NewOracle(first); got != (impl.OracleResult{Oracle: oracle(first, first)}) {
			t.Errorf("NewOracle of %d: %+v", first, got)
		}
	}
	for _, first := range oddBounds() {
		got := impl.NewOracle(first)
		if within(first, 1, 100000) != (got.Code == impl.OK) || got.Code == impl.OK && impl.OracleFault(got.Oracle) != impl.OK {
			t.Errorf("NewOracle of %d: %+v", first, got)
		}
		if got.Code != impl.OK && got != noGrant(impl.ErrRange) {
			t.Errorf("NewOracle of %d: %+v, want ErrRange alone", first, got)
		}
	}
}

// Next below Bound leaves the bound, Next that is Bound raises it, up to just MaxTs.
func TestGrantTs(t *testing.T) {
	for _, c := range []struct {
		o    impl.Oracle
		want impl.OracleResult
	}{
		{oracle(1, 1), impl.OracleResult{Ts: 1, Oracle: oracle(2, 11)}},
		{oracle(1, 2), impl.OracleResult{Ts: 1, Oracle: oracle(2, 2)}},
		{oracle(2, 2), impl.OracleResult{Ts: 2, Oracle: oracle(3, 12)}},
		{oracle(4, 14), impl.OracleResult{Ts: 4, Oracle: oracle(5, 14)}},
		{oracle(13, 14), impl.OracleResult{Ts: 13, Oracle: oracle(14, 14)}},
		{oracle(14, 14), impl.OracleResult{Ts: 14, Oracle: oracle(15, 24)}},
		{oracle(5, 5000), impl.OracleResult{Ts: 5, Oracle: oracle(6, 5000)}},
		{oracle(1, 100000), impl.OracleResult{Ts: 1, Oracle: oracle(2, 100000)}},
		{oracle(99989, 99989), impl.OracleResult{Ts: 99989, Oracle: oracle(99990, 99999)}},
		{oracle(99990, 99990), impl.OracleResult{Ts: 99990, Oracle: oracle(99991, 100000)}},
		{oracle(99989, 99990), impl.OracleResult{Ts: 99989, Oracle: oracle(99990, 99990)}},
		{oracle(99990, 99991), impl.OracleResult{Ts: 99990, Oracle: oracle(99991, 99991)}},
		{oracle(99991, 99991), noGrant(impl.ErrMany)},
		{oracle(99999, 99999), noGrant(impl.ErrMany)},
		{oracle(99999, 100000), impl.OracleResult{Ts: 99999, Oracle: oracle(100000, 100000)}},
		{oracle(100000, 100000), noGrant(impl.ErrMany)},
		{oracle(15, 14), noGrant(impl.ErrForm)}, {oracle(100000, 99999), noGrant(impl.ErrForm)},
		{oracle(0, 0), noGrant(impl.ErrRange)}, {oracle(0, 5), noGrant(impl.ErrRange)}, {oracle(5, 100001), noGrant(impl.ErrRange)},
		{oracle(math.MaxInt64, math.MaxInt64), noGrant(impl.ErrRange)}, {oracle(math.MinInt64, math.MinInt64), noGrant(impl.ErrRange)},
	} {
		if got := impl.GrantTs(c.o); got != c.want {
			t.Errorf("GrantTs of %+v: %+v, want %+v", c.o, got, c.want)
		}
	}
}

func TestCrashOracle(t *testing.T) {
	for _, c := range []struct {
		o    impl.Oracle
		want impl.OracleResult
	}{
		{oracle(4, 4), impl.OracleResult{Oracle: oracle(4, 4)}},
		{oracle(5, 14), impl.OracleResult{Oracle: oracle(14, 14)}},
		{oracle(1, 1), impl.OracleResult{Oracle: oracle(1, 1)}},
		{oracle(1, 100000), impl.OracleResult{Oracle: oracle(100000, 100000)}},
		{oracle(99991, 99991), impl.OracleResult{Oracle: oracle(99991, 99991)}},
		{oracle(99999, 100000), impl.OracleResult{Oracle: oracle(100000, 100000)}},
		{oracle(100000, 100000), impl.OracleResult{Oracle: oracle(100000, 100000)}},
		{oracle(6, 5), noGrant(impl.ErrForm)}, {oracle(0, 5), noGrant(impl.ErrRange)}, {oracle(5, 0), noGrant(impl.ErrRange)},
		{oracle(1, math.MaxInt64), noGrant(impl.ErrRange)}, {oracle(math.MinInt64, 1), noGrant(impl.ErrRange)},
	} {
		if got := impl.CrashOracle(c.o); got != c.want {
			t.Errorf("CrashOracle of %+v: %+v, want %+v", c.o, got, c.want)
		}
	}
}

func countUp(from, n int64) (list []int64) {
	for i := range n {
		list = append(list, from+i)
	}
	return list
}

func TestGrantMany(t *testing.T) {
	for _, c := range []struct {
		o    impl.Oracle
		n    int64
		want impl.OracleTimes
	}{
		{oracle(4, 4), 0, impl.OracleTimes{Oracle: oracle(4, 4)}},
		{oracle(4, 14), 0, impl.OracleTimes{Oracle: oracle(4, 14)}},
		{oracle(100000, 100000), 0, impl.OracleTimes{Oracle: oracle(100000, 100000)}},
		{oracle(4, 4), 1, impl.OracleTimes{Times: []int64{4}, Oracle: oracle(5, 14)}},
		{oracle(4, 4), 10, impl.OracleTimes{Times: countUp(4, 10), Oracle: oracle(14, 14)}},
		{oracle(4, 4), 11, impl.OracleTimes{Times: countUp(4, 11), Oracle: oracle(15, 24)}},
		{oracle(4, 5), 11, impl.OracleTimes{Times: countUp(4, 11), Oracle: oracle(15, 15)}},
		{oracle(4, 4), 12, impl.OracleTimes{Times: countUp(4, 12), Oracle: oracle(16, 24)}},
		{oracle(1, 1), 100, impl.OracleTimes{Times: countUp(1, 100), Oracle: oracle(101, 101)}},
		{oracle(1, 5000), 100, impl.OracleTimes{Times: countUp(1, 100), Oracle: oracle(101, 5000)}},
		{oracle(4, 4), 101, noTimes(impl.ErrRange)},
		{oracle(4, 4), -1, noTimes(impl.ErrRange)},
		{oracle(4, 4), math.MinInt64, noTimes(impl.ErrRange)},
		{oracle(4, 4), math.MaxInt64, noTimes(impl.ErrRange)},
		{oracle(99990, 99990), 10, impl.OracleTimes{Times: countUp(99990, 10), Oracle: oracle(100000, 100000)}},
		{oracle(99990, 99990), 11, noTimes(impl.ErrMany)},
		{oracle(99986, 99991), 5, impl.OracleTimes{Times: countUp(99986, 5), Oracle: oracle(99991, 99991)}},
		{oracle(99986, 99991), 6, noTimes(impl.ErrMany)},
		{oracle(99986, 99991), 100, noTimes(impl.ErrMany)},
		{oracle(99900, 99900), 100, impl.OracleTimes{Times: countUp(99900, 100), Oracle: oracle(100000, 100000)}},
		{oracle(99901, 99901), 100, noTimes(impl.ErrMany)},
		{oracle(100000, 100000), 1, noTimes(impl.ErrMany)},
		{oracle(100000, 100000), 101, noTimes(impl.ErrRange)},
		{oracle(0, 5), 1, noTimes(impl.ErrRange)}, {oracle(0, 5), 0, noTimes(impl.ErrRange)},
		{oracle(6, 5), 1, noTimes(impl.ErrForm)}, {oracle(6, 5), 0, noTimes(impl.ErrForm)},
		{oracle(6, 5), 101, noTimes(impl.ErrForm)}, {oracle(6, 5), -1, noTimes(impl.ErrForm)},
		{oracle(100000, 99999), 5, noTimes(impl.ErrForm)},
	} {
		if got := impl.GrantMany(c.o, c.n); !equalTimes(got, c.want) {
			t.Errorf("GrantMany of %+v, %d: %+v, want %+v", c.o, c.n, got, c.want)
		}
	}
}

// P1: each function at every oracle that meets a bound, right ones and wrong ones; each argument stays as it was.
func TestOracleAtOddNumbers(t *testing.T) {
	numbers := []int64{math.MinInt64, -100, -1, 0, 1, 2, 9, 10, 11, 20, 21, 99, 100, 101, math.MaxInt32, math.MaxInt64 - 1, math.MaxInt64}
	for _, o := range oddOracles() {
		asked := o
		if got, want := impl.GrantTs(asked), wantGranted(o); got != want {
			t.Errorf("GrantTs of %+v: %+v, want %+v", o, got, want)
		}
		if got, want := impl.CrashOracle(asked), wantCrashed(o); got != want {
			t.Errorf("CrashOracle of %+v: %+v, want %+v", o, got, want)
		}
		for _, n := range numbers {
			if got, want := impl.GrantMany(asked, n), wantMany(o, n); !equalTimes(got, want) {
				t.Errorf("GrantMany of %+v, %d: %+v, want %+v", o, n, got, want)
			}
		}
		if asked != o {
			t.Errorf("%+v became %+v", o, asked)
		}
	}
}

// P6: from the first time to the last one each is told once, and then no more.
func TestEachTimeOnce(t *testing.T) {
	for first, end := range map[int64]int64{1: 99991, 4: 99994, 10: 100000, 99980: 100000, 99989: 99999, 99990: 100000, 99991: 99991, 100000: 100000} {
		o := impl.NewOracle(first).Oracle
		for want := first; want < end; want++ {
			got := impl.GrantTs(o)
			if got.Code != impl.OK || got.Ts != want || got.Oracle.Bound <= want || impl.OracleFault(got.Oracle) != impl.OK {
				t.Fatalf("from %d on: %+v, want the time %d below the bound", first, got, want)
			}
			o = got.Oracle
		}
		if o != oracle(end, end) || impl.GrantTs(o) != noGrant(impl.ErrMany) {
			t.Errorf("from %d on: %+v is left, and grants %+v", first, o, impl.GrantTs(o))
		}
		crashed := impl.CrashOracle(o)
		if crashed != (impl.OracleResult{Oracle: o}) || impl.GrantTs(crashed.Oracle) != noGrant(impl.ErrMany) {
			t.Errorf("from %d on: %+v behind a crash at the end", first, crashed)
		}
	}
}

// A crash costs the rest of a lease, and ahead of the first grant nothing.
func TestCrashBetweenGrants(t *testing.T) {
	fresh := impl.CrashOracle(impl.NewOracle(4).Oracle)
	if got := impl.GrantTs(fresh.Oracle); got != (impl.OracleResult{Ts: 4, Oracle: oracle(5, 14)}) {
		t.Errorf("ahead of the first grant: %+v", got)
	}
	for n := int64(1); n <= 30; n++ {
		many := impl.GrantMany(impl.NewOracle(4).Oracle, n)
		crashed := impl.CrashOracle(many.Oracle)
		want := 4 + (n+9)/10*10
		if got := impl.GrantTs(crashed.Oracle); got != (impl.OracleResult{Ts: want, Oracle: oracle(want+1, want+10)}) {
			t.Errorf("behind %d grants and a crash: %+v, want the time %d", n, got, want)
		}
		if again := impl.CrashOracle(crashed.Oracle); again != crashed {
			t.Errorf("behind %d grants two crashes leave %+v, one leaves %+v", n, again, crashed)
		}
	}
}

// P6: what lasts is the bound: wherever Next stood when it fell, all that was granted is below what comes then.
func TestOnlyTheBoundLasts(t *testing.T) {
	for _, first := range []int64{1, 2, 7, 50000, 99970} {
		many := impl.GrantMany(impl.NewOracle(first).Oracle, 25)
		for next := first; next <= many.Oracle.Bound; next++ {
			crashed := impl.CrashOracle(oracle(next, many.Oracle.Bound))
			got := impl.GrantTs(crashed.Oracle)
			if got.Code == impl.OK && got.Ts <= slices.Max(many.Times) || crashed.Code != impl.OK {
				t.Errorf("%+v behind a crash at %d: %+v", many, next, got)
			}
		}
	}
}

// oneStep is one of the three ways on, and the times that it told; with a code the oracle stays.
func oneStep(r *rand.Rand, o impl.Oracle) (next impl.Oracle, times []int64, code int64) {
	switch r.Intn(4) {
	case 0:
		crashed := impl.CrashOracle(o)
		return crashed.Oracle, nil, crashed.Code
	case 1:
		if many := impl.GrantMany(o, r.Int63n(101)); many.Code == impl.OK {
			return many.Oracle, many.Times, impl.OK
		}
		return o, nil, impl.ErrMany
	}
	if one := impl.GrantTs(o); one.Code == impl.OK {
		return one.Oracle, []int64{one.Ts}, impl.OK
	}
	return o, nil, impl.ErrMany
}

// P6: whatever is granted, and whenever it crashes, each time is above all ahead of it, up to the last ones.
func TestTimesRise(t *testing.T) {
	r := rand.New(rand.NewSource(51))
	for _, first := range []int64{1, 3, 777, 60000, 95000, 99500, 99900, 99985, 99990, 99991, 100000} {
		for range 20 {
			o, last, refused := impl.NewOracle(first).Oracle, first-1, 0
			for range 300 {
				next, times, code := oneStep(r, o)
				if code != impl.OK {
					refused++
				}
				for _, ts := range times {
					if ts <= last || ts >= next.Bound || ts > 100000 {
						t.Fatalf("from %d on: %+v granted %d behind %d, and is %+v", first, o, ts, last, next)
					}
					last = ts
				}
				if impl.OracleFault(next) != impl.OK || next.Next <= last || next.Bound < o.Bound {
					t.Fatalf("from %d on: %+v became %+v behind %d", first, o, next, last)
				}
				o = next
			}
			if first >= 99500 && refused == 0 {
				t.Errorf("from %d on: the times did not come to their end", first)
			}
		}
	}
}

// Many at once are as many one by one, and may be cut anywhere.
func TestManyIsOneByOne(t *testing.T) {
	for _, o := range []impl.Oracle{oracle(1, 1), oracle(4, 14), oracle(13, 14), oracle(5, 61), oracle(99880, 99900), oracle(99905, 99910), oracle(99990, 99990), oracle(99998, 100000)} {
		left, times := o, []int64(nil)
		for n := int64(0); n <= 100; n++ {
			if got := impl.GrantMany(o, n); !equalTimes(got, impl.OracleTimes{Times: times, Oracle: left}) {
				t.Errorf("%d of %+v: %+v, want %v and %+v", n, o, got, times, left)
			}
			rest := impl.GrantMany(left, 100-n)
			if whole := impl.GrantMany(o, 100); whole.Code != rest.Code || whole.Code == impl.OK && !slices.Equal(whole.Times, slices.Concat(times, rest.Times)) {
				t.Errorf("%+v cut behind %d: %+v and %+v, want %+v", o, n, times, rest, whole)
			}
			one := impl.GrantTs(left)
			if one.Code != impl.OK {
				if got := impl.GrantMany(o, n+1); n < 100 && !equalTimes(got, noTimes(one.Code)) {
					t.Errorf("one more than %d of %+v: %+v, want code %d alone", n, o, got, one.Code)
				}
				break
			}
			left, times = one.Oracle, append(times, one.Ts)
		}
	}
}

// P1: writing into the times of an answer, also behind its length, changes nothing of another one, nor of what comes.
func TestTimesAreNewMemory(t *testing.T) {
	for _, o := range []impl.Oracle{oracle(1, 1), oracle(4, 14), oracle(13, 14), oracle(99900, 99900)} {
		for _, n := range []int64{0, 1, 2, 10, 11, 57, 100} {
			asked := o
			first, second := impl.GrantMany(asked, n), impl.GrantMany(asked, n)
			whole := first.Times[:cap(first.Times)]
			for i := range whole {
				whole[i] = -7
			}
			third, want := impl.GrantMany(asked, n), wantMany(o, n)
			if !equalTimes(second, want) || !equalTimes(third, want) || asked != o {
				t.Errorf("%d of %+v: %+v and %+v, want %+v", n, o, second, third, want)
			}
		}
	}
}

type oracleAnswers struct {
	fault               int64
	fresh, one, crashed impl.OracleResult
	many                impl.OracleTimes
}

func askOracle(n int64) oracleAnswers {
	o := oracle(99800+n, 99805+n/10*10)
	return oracleAnswers{impl.OracleFault(o), impl.NewOracle(n), impl.GrantTs(o), impl.CrashOracle(o), impl.GrantMany(o, n/2)}
}

// P1: whatever was asked ahead of it, and beside it, an answer is the same; an oracle that was asked before grants the same again.
func TestOracleAnswersHangOnArguments(t *testing.T) {
	checkSteady(t, func(n int64) any { return askOracle(n) })
	for _, n := range []int64{3, 40, 120, 199} {
		if first, second := askOracle(n), askOracle(n); !reflect.DeepEqual(first, second) {
			t.Errorf("%+v, and then %+v", first, second)
		}
	}
}
