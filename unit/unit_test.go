package unit

import (
	"math"
	"slices"
	"strconv"
	"testing"

	"carillon/api"
	"carillon/note"
)

var (
	put   = api.Entry{Kind: api.Put, Job: 2, Every: 5, Time: 10}
	drop  = api.Entry{Kind: api.Drop, Job: 5}
	ring  = api.Entry{Kind: api.Ring, Job: 5, Time: api.MaxTime, Client: 2}
	junk  = api.Entry{}
	empty = api.Entry{Kind: api.Blank}
	far   = api.Entry{Kind: api.Drop, Job: api.MaxJobs}
	idle  = api.Entry{Kind: api.Put, Job: 1, Time: 1}
)

func writeOf(at int, e api.Entry) api.Rec { return api.Rec{Kind: api.RWrite, At: at, E: e} }

func sealOf(epoch int) api.Rec { return api.Rec{Kind: api.RSeal, Epoch: epoch} }

// unitOf: so many places that all have e.
func unitOf(epoch, places int, e api.Entry) api.Unit {
	return api.Unit{Epoch: epoch, Cells: slices.Repeat([]api.Entry{e}, places)}
}

// with: a unit of its own, where e stands at a place, whatever stood there.
func with(u api.Unit, at int, e api.Entry) api.Unit {
	cells := slices.Clone(u.Cells)
	cells[at] = e
	return api.Unit{Epoch: u.Epoch, Cells: cells}
}

// fresh: as New, but not by it, since New is under test itself.
func fresh(epoch int) api.Unit { return unitOf(epoch, 60, api.Entry{Kind: 4}) }

// alike: as Same, but not by it, since Same is under test itself.
func alike(a, b api.Unit) bool {
	if a.Epoch != b.Epoch || len(a.Cells) != len(b.Cells) {
		return false
	}
	for i := range a.Cells {
		if a.Cells[i] != b.Cells[i] {
			return false
		}
	}
	return true
}

func isZero(u api.Unit) bool { return u.Epoch == 0 && u.Cells == nil }

func wantUnit(t *testing.T, what string, got api.Unit, wrong api.Errno, want api.Unit) {
	t.Helper()
	if wrong != api.OK || !alike(got, want) {
		t.Errorf("%s: %v, %d, want %v", what, got, wrong, want)
	}
}

func wantError(t *testing.T, what string, got api.Unit, wrong, want api.Errno) {
	t.Helper()
	if wrong != want || !isZero(got) {
		t.Errorf("%s: %v, %d, want nothing and %d", what, got, wrong, want)
	}
}

func TestNew(t *testing.T) {
	wantUnit(t, "New", New(), Check(New()), fresh(1))
	first, second := New(), New()
	first.Cells[0] = put
	if second.Cells[0] != empty {
		t.Error("two answers of New share memory")
	}
}

func TestCheckLetsPass(t *testing.T) {
	for _, u := range []api.Unit{
		fresh(1),
		fresh(2),
		fresh(api.MaxEpoch),
		with(fresh(1), 0, put),
		with(fresh(1), 59, ring),
		with(with(fresh(7), 0, drop), 59, junk),
		// What isn't written needn't be behind what is.
		with(unitOf(1, 60, ring), 30, empty),
		unitOf(1, 60, junk),
		unitOf(20, 60, put),
	} {
		if wrong := Check(u); wrong != api.OK {
			t.Errorf("Check(%v): %d", u, wrong)
		}
	}
}

// wrongUnits: what may not be, and what Check says of it.
func wrongUnits() []struct {
	u    api.Unit
	want api.Errno
} {
	return []struct {
		u    api.Unit
		want api.Errno
	}{
		{api.Unit{}, api.ErrRange},
		{fresh(0), api.ErrRange},
		{fresh(-1), api.ErrRange},
		{fresh(api.MaxEpoch + 1), api.ErrRange},
		{fresh(math.MinInt), api.ErrRange},
		{fresh(math.MaxInt), api.ErrRange},

		{api.Unit{Epoch: 1}, api.ErrForm},
		{api.Unit{Epoch: 1, Cells: []api.Entry{}}, api.ErrForm},
		{unitOf(1, 1, empty), api.ErrForm},
		{unitOf(1, 59, empty), api.ErrForm},
		{unitOf(1, 61, empty), api.ErrForm},
		{unitOf(1, 120, put), api.ErrForm},
		// Room behind the list isn't of it.
		{api.Unit{Epoch: 1, Cells: fresh(1).Cells[:59]}, api.ErrForm},

		// A Blank that has something to it isn't a blank place.
		{with(fresh(1), 0, api.Entry{Kind: api.Blank, Job: 1}), api.ErrForm},
		{with(fresh(1), 3, api.Entry{Kind: api.Blank, Every: 1}), api.ErrForm},
		{with(fresh(1), 59, api.Entry{Kind: api.Blank, Time: 1}), api.ErrForm},
		{with(fresh(1), 59, api.Entry{Kind: api.Blank, Client: 1}), api.ErrForm},
		{with(fresh(1), 59, api.Entry{Kind: api.Blank, Job: -1}), api.ErrForm},
		{with(fresh(1), 7, api.Entry{Kind: -1}), api.ErrForm},
		{with(fresh(1), 7, api.Entry{Kind: api.Blank + 1}), api.ErrForm},
		{with(fresh(1), 7, api.Entry{Job: 1}), api.ErrForm},
		{with(fresh(1), 59, idle), api.ErrForm},
		{with(fresh(1), 0, far), api.ErrRange},
		{with(fresh(1), 59, far), api.ErrRange},
		{with(unitOf(20, 60, put), 59, api.Entry{Kind: api.Ring, Time: api.MaxTime + 1}), api.ErrRange},

		// Of several errors the one that is told first is the answer.
		{unitOf(0, 59, idle), api.ErrRange},
		{with(fresh(0), 0, idle), api.ErrRange},
		{unitOf(1, 59, far), api.ErrForm},
		{unitOf(1, 61, far), api.ErrForm},
		// Of the places, the first one that is wrong tells it.
		{with(with(fresh(1), 58, idle), 59, far), api.ErrForm},
		{with(with(fresh(1), 58, far), 59, idle), api.ErrRange},
	}
}

func TestCheckSaysWhatIsWrong(t *testing.T) {
	for _, x := range wrongUnits() {
		if got := Check(x.u); got != x.want {
			t.Errorf("Check(%v): %d, want %d", x.u, got, x.want)
		}
	}
}

func TestTail(t *testing.T) {
	for _, x := range []struct {
		u    api.Unit
		want int
	}{
		{fresh(1), 0},
		{with(fresh(1), 0, put), 1},
		{with(fresh(1), 4, drop), 5},
		{with(fresh(1), 59, ring), 60},
		{with(with(fresh(1), 4, put), 20, drop), 21},
		// Junk is something, too.
		{with(fresh(1), 9, junk), 10},
		{unitOf(1, 60, junk), 60},
		{with(unitOf(1, 60, put), 59, empty), 59},
		// It is a Blank's Kind that counts, whatever else is there.
		{with(fresh(1), 59, api.Entry{Kind: api.Blank, Job: 1}), 0},
		{with(with(fresh(1), 2, put), 59, api.Entry{Kind: api.Blank, Time: -1}), 3},
		// Whatever u is.
		{api.Unit{}, 0},
		{api.Unit{Epoch: -1, Cells: []api.Entry{}}, 0},
		{unitOf(0, 1, empty), 0},
		{unitOf(0, 1, junk), 1},
		{with(unitOf(99, 200, empty), 150, far), 151},
		{with(fresh(1), 40, api.Entry{Kind: -1}), 41},
		{with(fresh(1), 40, api.Entry{Kind: api.Blank + 1}), 41},
		{api.Unit{Epoch: 1, Cells: unitOf(1, 60, put).Cells[:7]}, 7},
	} {
		if got := Tail(x.u); got != x.want {
			t.Errorf("Tail(%v): %d, want %d", x.u, got, x.want)
		}
	}
}

// differing: units of which no two are alike; each call makes them anew.
func differing() []api.Unit {
	return []api.Unit{
		{},
		{Epoch: 1},
		fresh(1),
		fresh(2),
		fresh(-1),
		unitOf(1, 59, empty),
		unitOf(1, 61, empty),
		unitOf(1, 60, junk),
		unitOf(1, 1, junk),
		unitOf(0, 1, junk),
		with(fresh(1), 0, put),
		with(fresh(1), 1, put),
		with(fresh(1), 59, put),
		with(fresh(2), 59, put),
		with(fresh(1), 59, junk),
		with(fresh(1), 59, drop),
		with(fresh(1), 59, far),
		with(fresh(1), 59, api.Entry{Kind: api.Blank, Job: 1}),
		with(fresh(1), 59, api.Entry{Kind: api.Blank, Every: 1}),
		with(fresh(1), 59, api.Entry{Kind: api.Blank, Time: 1}),
		with(fresh(1), 59, api.Entry{Kind: api.Blank, Client: 1}),
	}
}

func TestSame(t *testing.T) {
	for i, a := range differing() {
		for j, b := range differing() {
			if got := Same(a, b); got != (i == j) {
				t.Errorf("Same(%v, %v): %v", a, b, got)
			}
		}
	}
	if !Same(api.Unit{Epoch: 3}, api.Unit{Epoch: 3, Cells: []api.Entry{}}) {
		t.Error("no list and an empty one aren't the same")
	}
}

func TestNext(t *testing.T) {
	almost := with(unitOf(20, 60, put), 30, empty)
	for _, x := range []struct {
		u    api.Unit
		r    api.Rec
		want api.Unit
	}{
		{fresh(1), writeOf(4, put), with(fresh(1), 4, put)},
		{fresh(1), writeOf(0, junk), with(fresh(1), 0, junk)},
		{fresh(1), writeOf(59, ring), with(fresh(1), 59, ring)},
		// It may stand elsewhere, and ahead of what stands.
		{with(fresh(7), 5, put), writeOf(4, put), with(with(fresh(7), 5, put), 4, put)},
		{with(fresh(7), 5, junk), writeOf(6, drop), with(with(fresh(7), 5, junk), 6, drop)},
		{almost, writeOf(30, drop), with(almost, 30, drop)},

		{fresh(1), sealOf(2), fresh(2)},
		{fresh(1), sealOf(20), fresh(20)},
		{fresh(19), sealOf(20), fresh(20)},
		{with(fresh(3), 9, junk), sealOf(5), with(fresh(5), 9, junk)},
		{unitOf(1, 60, put), sealOf(4), unitOf(4, 60, put)},
	} {
		got, wrong := Next(x.u, x.r)
		wantUnit(t, "Next", got, wrong, x.want)
		if wrong := Check(got); wrong != api.OK {
			t.Errorf("Check of what Next(%v, %v) answers: %d", x.u, x.r, wrong)
		}
	}
}

func TestNextSaysWhatIsWrong(t *testing.T) {
	used := with(with(fresh(3), 4, put), 59, junk)
	for _, x := range []struct {
		u    api.Unit
		r    api.Rec
		want api.Errno
	}{
		{used, sealOf(3), api.ErrOld},
		{used, sealOf(2), api.ErrOld},
		{used, sealOf(1), api.ErrOld},
		{fresh(1), sealOf(1), api.ErrOld},
		{fresh(20), sealOf(20), api.ErrOld},

		{used, writeOf(4, drop), api.ErrTwice},
		{used, writeOf(4, junk), api.ErrTwice},
		// Nor is the same written again.
		{used, writeOf(4, put), api.ErrTwice},
		{used, writeOf(59, junk), api.ErrTwice},
		{used, writeOf(59, ring), api.ErrTwice},
		{unitOf(1, 60, junk), writeOf(0, put), api.ErrTwice},

		{used, api.Rec{}, api.ErrForm},
		{used, api.Rec{Kind: -1}, api.ErrForm},
		{used, api.Rec{Kind: api.RSeal + 1, Epoch: 4}, api.ErrForm},
		{used, writeOf(-1, put), api.ErrRange},
		{used, writeOf(60, put), api.ErrRange},
		{used, writeOf(math.MinInt, put), api.ErrRange},
		{used, writeOf(math.MaxInt, put), api.ErrRange},
		{used, writeOf(5, empty), api.ErrForm},
		{used, writeOf(5, idle), api.ErrForm},
		{used, writeOf(5, far), api.ErrRange},
		{used, api.Rec{Kind: api.RWrite, At: 5, Epoch: 4, E: put}, api.ErrForm},
		{used, sealOf(0), api.ErrRange},
		{used, sealOf(-1), api.ErrRange},
		{used, sealOf(21), api.ErrRange},
		{used, api.Rec{Kind: api.RSeal, Epoch: 4, At: 5}, api.ErrForm},
		{used, api.Rec{Kind: api.RSeal, Epoch: 4, E: put}, api.ErrForm},

		// What is wrong with the record alone is told ahead of what is wrong with it here.
		{used, writeOf(4, empty), api.ErrForm},
		{used, writeOf(4, far), api.ErrRange},
		{used, api.Rec{Kind: api.RWrite, At: 4, Epoch: 3, E: drop}, api.ErrForm},
		{used, api.Rec{Kind: api.RSeal, Epoch: 3, At: 4}, api.ErrForm},
		{used, api.Rec{Kind: api.RSeal, Epoch: 1, E: drop}, api.ErrForm},
	} {
		got, wrong := Next(x.u, x.r)
		wantError(t, "Next", got, wrong, x.want)
	}
}

// Ahead of what else is wrong, Next says what Check says, of all places.
func TestNextSaysFirstWhatCheckSays(t *testing.T) {
	for _, x := range wrongUnits() {
		for _, r := range []api.Rec{writeOf(4, put), writeOf(0, junk), writeOf(59, drop), sealOf(1), sealOf(20), {}, writeOf(-1, put), writeOf(60, put), writeOf(4, idle), writeOf(4, far), sealOf(0), {Kind: api.RSeal, Epoch: 20, At: 1}} {
			got, wrong := Next(x.u, r)
			wantError(t, "Next", got, wrong, x.want)
		}
	}
}

// fullLog: as many records as may be, one after the other: each place is written, each epoch sealed.
func fullLog() []api.Rec {
	var l []api.Rec
	for epoch := 2; epoch <= api.MaxEpoch; epoch++ {
		l = append(l, sealOf(epoch))
	}
	for at := api.MaxCells - 1; at >= 0; at-- {
		l = append(l, writeOf(at, put))
	}
	return l
}

func TestReplay(t *testing.T) {
	for _, x := range []struct {
		l    []api.Rec
		want api.Unit
	}{
		{nil, fresh(1)},
		{[]api.Rec{}, fresh(1)},
		{[]api.Rec{sealOf(2)}, fresh(2)},
		{[]api.Rec{writeOf(59, junk)}, with(fresh(1), 59, junk)},
		{[]api.Rec{writeOf(4, put), sealOf(3)}, with(fresh(3), 4, put)},
		{[]api.Rec{sealOf(3), writeOf(4, put)}, with(fresh(3), 4, put)},
		{[]api.Rec{sealOf(2), writeOf(9, ring), sealOf(3), writeOf(0, drop), sealOf(20)}, with(with(fresh(20), 9, ring), 0, drop)},
		{fullLog(), unitOf(20, 60, put)},
	} {
		before := slices.Clone(x.l)
		got, wrong := Replay(x.l)
		wantUnit(t, "Replay", got, wrong, x.want)
		if !slices.Equal(x.l, before) {
			t.Errorf("Replay left %v, want %v", x.l, before)
		}
	}
}

func TestReplaySaysWhatIsWrong(t *testing.T) {
	for _, x := range []struct {
		l    []api.Rec
		want api.Errno
	}{
		{[]api.Rec{{}}, api.ErrForm},
		{[]api.Rec{sealOf(1)}, api.ErrOld},
		{[]api.Rec{sealOf(3), sealOf(3)}, api.ErrOld},
		{[]api.Rec{sealOf(3), writeOf(4, put), sealOf(2)}, api.ErrOld},
		{[]api.Rec{writeOf(4, put), writeOf(4, put)}, api.ErrTwice},
		{[]api.Rec{writeOf(4, put), sealOf(2), writeOf(4, drop)}, api.ErrTwice},
		{[]api.Rec{writeOf(4, put), writeOf(60, drop)}, api.ErrRange},
		{[]api.Rec{writeOf(4, put), writeOf(5, idle)}, api.ErrForm},

		// The first record that is wrong tells the error.
		{[]api.Rec{writeOf(60, put), sealOf(1), {}}, api.ErrRange},
		{[]api.Rec{sealOf(1), {}, writeOf(60, put)}, api.ErrOld},
		{[]api.Rec{writeOf(4, put), writeOf(4, put), sealOf(1)}, api.ErrTwice},

		// At the limit the records are looked at, beyond it they aren't.
		{append(fullLog(), writeOf(0, put)), api.ErrTwice},
		{append(fullLog(), sealOf(20)), api.ErrOld},
		{slices.Repeat([]api.Rec{writeOf(4, put)}, api.MaxLog), api.ErrTwice},
		{make([]api.Rec, api.MaxLog), api.ErrForm},
		{make([]api.Rec, api.MaxLog+1), api.ErrMany},
		{append([]api.Rec{sealOf(1)}, make([]api.Rec, api.MaxLog)...), api.ErrMany},
		{slices.Repeat([]api.Rec{writeOf(4, put)}, api.MaxLog+1), api.ErrMany},
	} {
		got, wrong := Replay(x.l)
		wantError(t, "Replay", got, wrong, x.want)
	}
}

// What is handed in stays as it is, behind its end, too; and what is answered shares nothing with it.
func TestOnlyReadsAndAnswersNewMemory(t *testing.T) {
	records := []api.Rec{writeOf(4, drop), writeOf(5, drop), writeOf(0, far), sealOf(9), sealOf(1), {}}
	calls := []func(u api.Unit, r api.Rec) api.Unit{
		func(u api.Unit, r api.Rec) api.Unit { u, _ = Next(u, r); return u },
		func(u api.Unit, r api.Rec) api.Unit { Check(u); return api.Unit{} },
		func(u api.Unit, r api.Rec) api.Unit { Tail(u); return api.Unit{} },
		func(u api.Unit, r api.Rec) api.Unit { Same(u, u); return api.Unit{} },
	}
	for i, call := range calls {
		for _, r := range records {
			whole := append(with(fresh(3), 4, put).Cells, far, idle)
			before := slices.Clone(whole)
			got := call(api.Unit{Epoch: 3, Cells: whole[:api.MaxCells]}, r)
			overwrite(got.Cells)
			if !slices.Equal(whole, before) {
				t.Errorf("call %d with %v: what was handed in is %v, was %v", i, r, whole, before)
			}
		}
	}
}

func TestReplayAnswersNewMemory(t *testing.T) {
	l := append([]api.Rec{writeOf(4, put), sealOf(3)}, sealOf(9))
	before := slices.Clone(l)
	first, _ := Replay(l[:2])
	second, _ := Replay(l[:2])
	overwrite(first.Cells)
	wantUnit(t, "Replay, of which another answer was overwritten", second, api.OK, with(fresh(3), 4, put))
	if !slices.Equal(l, before) {
		t.Errorf("Replay left %v, want %v", l, before)
	}
}

// overwrite fills a list and the room behind it.
func overwrite(l []api.Entry) {
	l = l[:cap(l)]
	for i := range l {
		l[i] = api.Entry{Kind: -1, Job: -1, Every: -1, Time: -1, Client: -1}
	}
}

// words: records that may come one after the other in any order; of few places and epochs, so that they meet.
func words() []api.Rec {
	return []api.Rec{
		writeOf(0, put), writeOf(0, drop), writeOf(0, junk),
		writeOf(59, ring), writeOf(59, junk), writeOf(60, put), writeOf(59, empty),
		sealOf(1), sealOf(2), sealOf(3),
	}
}

// Whatever records come, in whatever order: what stands at a place stands there for ever, and no epoch comes back.
func TestWhatStandsStandsForEver(t *testing.T) {
	steps(t, nil, fresh(1), 4)
}

// steps: all rows of so many more records, behind those that made u.
func steps(t *testing.T, ahead []api.Rec, u api.Unit, left int) {
	whole, wrong := Replay(ahead)
	wantUnit(t, "Replay of "+strconv.Itoa(len(ahead))+" records", whole, wrong, u)
	if left == 0 || t.Failed() {
		return
	}
	for _, r := range words() {
		row := append(slices.Clone(ahead), r)
		after, wrong := Next(u, r)
		if want := wrongWith(u, r); wrong != want {
			t.Fatalf("%v: Next: %d, want %d", row, wrong, want)
		}
		if wrong != api.OK {
			wantError(t, "Next", after, wrong, wrong)
			none, told := Replay(row)
			wantError(t, "Replay", none, told, wrong)
			continue
		}
		onlyThis(t, u, after, r)
		steps(t, row, after, left-1)
	}
}

// wrongWith: what is wrong with a record behind a unit that passes.
func wrongWith(u api.Unit, r api.Rec) api.Errno {
	if wrong := note.Check(r); wrong != api.OK {
		return wrong
	}
	if r.Kind == api.RSeal && r.Epoch <= u.Epoch {
		return api.ErrOld
	}
	if r.Kind == api.RWrite && u.Cells[r.At].Kind != api.Blank {
		return api.ErrTwice
	}
	return api.OK
}

// onlyThis: has this record alone changed the unit, where nothing stood?
func onlyThis(t *testing.T, u, after api.Unit, r api.Rec) {
	t.Helper()
	if r.Kind == api.RSeal && after.Epoch != r.Epoch || r.Kind == api.RWrite && after.Epoch != u.Epoch {
		t.Fatalf("%v makes epoch %d of %d", r, after.Epoch, u.Epoch)
	}
	for at, e := range u.Cells {
		if r.Kind == api.RWrite && at == r.At {
			if e != empty || after.Cells[at] != r.E {
				t.Fatalf("%v makes %v of %v", r, after.Cells[at], e)
			}
		} else if after.Cells[at] != e {
			t.Fatalf("%v makes %v of %v at place %d", r, after.Cells[at], e, at)
		}
	}
}

// Each place alone, by each entry: once written it is never written again, in whatever epoch.
func TestEachPlaceIsWrittenOnce(t *testing.T) {
	entries := []api.Entry{put, drop, ring, junk}
	u := New()
	for at := range api.MaxCells {
		e := entries[at%len(entries)]
		if Tail(u) != at {
			t.Fatalf("Tail: %d, want %d", Tail(u), at)
		}
		after, wrong := Next(u, writeOf(at, e))
		if wrong != api.OK {
			t.Fatalf("a write at place %d: %d", at, wrong)
		}
		u = after
		for k, other := range entries {
			got, wrong := Next(api.Unit{Epoch: 1 + (at+k)%api.MaxEpoch, Cells: u.Cells}, writeOf(at, other))
			wantError(t, "a second write", got, wrong, api.ErrTwice)
		}
	}
	for at, e := range u.Cells {
		if e != entries[at%len(entries)] {
			t.Errorf("place %d: %v", at, e)
		}
	}
}
