package chain

import (
	"math"
	"slices"
	"testing"

	"carillon/api"
	"carillon/entry"
	"carillon/unit"
)

var (
	put   = api.Entry{Kind: api.Put, Job: 2, Every: 5, Time: 10}
	later = api.Entry{Kind: api.Put, Job: 2, Every: 5, Time: 11}
	drop  = api.Entry{Kind: api.Drop, Job: 5}
	ring  = api.Entry{Kind: api.Ring, Job: 5, Time: api.MaxTime, Client: 2}
	junk  = api.Entry{}
	empty = api.Entry{Kind: api.Blank}
	far   = api.Entry{Kind: api.Drop, Job: api.MaxJobs}
	idle  = api.Entry{Kind: api.Put, Job: 1, Time: 1}
)

func unitOf(epoch, places int, e api.Entry) api.Unit {
	return api.Unit{Epoch: epoch, Cells: slices.Repeat([]api.Entry{e}, places)}
}

// fresh: a unit where nothing is written.
func fresh(epoch int) api.Unit { return unitOf(epoch, 60, empty) }

// with: a unit of its own, where e stands at a place, whatever stood there.
func with(u api.Unit, at int, e api.Entry) api.Unit {
	cells := slices.Clone(u.Cells)
	cells[at] = e
	return api.Unit{Epoch: u.Epoch, Cells: cells}
}

// stepped: at place 4 put has come to the last unit, at 5 drop to the middle one, at 59 ring to the first; each is of another epoch.
func stepped() []api.Unit {
	return []api.Unit{
		with(with(with(fresh(7), 4, put), 5, drop), 59, ring),
		with(with(fresh(20), 4, put), 5, drop),
		with(fresh(1), 4, put),
	}
}

// replaced: as stepped, but for one unit.
func replaced(k int, u api.Unit) []api.Unit {
	l := stepped()
	l[k] = u
	return l
}

func TestCheckLetsPass(t *testing.T) {
	for _, l := range [][]api.Unit{
		{fresh(1), fresh(1), fresh(1)},
		{fresh(1), fresh(20), fresh(7)},
		stepped(),
		replaced(0, unitFull(stepped()[0])),
		{with(fresh(1), 0, junk), fresh(1), fresh(1)},
		{with(fresh(1), 0, junk), with(fresh(1), 0, junk), fresh(1)},
		{with(fresh(1), 0, junk), with(fresh(1), 0, junk), with(fresh(1), 0, junk)},
		{unitOf(1, 60, ring), fresh(1), fresh(1)},
		{unitOf(1, 60, ring), unitOf(2, 60, ring), unitOf(3, 60, ring)},
		// What is behind a hole may be further on than what is ahead of it.
		{with(fresh(1), 59, drop), with(fresh(1), 59, drop), with(fresh(1), 59, drop)},
		{unitOf(1, 60, put), with(unitOf(1, 60, put), 30, empty), with(with(unitOf(1, 60, put), 30, empty), 0, empty)},
	} {
		if wrong := Check(l); wrong != api.OK {
			t.Errorf("Check(%v): %d", l, wrong)
		}
	}
}

// unitFull: with Junk at each place where nothing stood.
func unitFull(u api.Unit) api.Unit {
	for at, e := range u.Cells {
		if e == empty {
			u = with(u, at, junk)
		}
	}
	return u
}

type wrongChain struct {
	l    []api.Unit
	want api.Errno
}

// wrongChains: what may not be, and what Check says of it.
func wrongChains() []wrongChain {
	one := fresh(1)
	return append([]wrongChain{
		{nil, api.ErrForm},
		{[]api.Unit{}, api.ErrForm},
		{[]api.Unit{one}, api.ErrForm},
		{[]api.Unit{one, one}, api.ErrForm},
		{[]api.Unit{one, one, one, one}, api.ErrForm},
		// Room behind the list isn't of it.
		{stepped()[:2], api.ErrForm},

		{make([]api.Unit, 3), api.ErrRange},
		{replaced(0, api.Unit{}), api.ErrRange},
		{replaced(1, api.Unit{}), api.ErrRange},
		{replaced(2, api.Unit{}), api.ErrRange},
		{replaced(2, fresh(0)), api.ErrRange},
		{replaced(2, fresh(21)), api.ErrRange},
		{replaced(2, fresh(math.MinInt)), api.ErrRange},
		{replaced(2, api.Unit{Epoch: 1}), api.ErrForm},
		{replaced(0, unitOf(1, 59, empty)), api.ErrForm},
		{replaced(1, unitOf(1, 61, empty)), api.ErrForm},
		{replaced(2, unitOf(1, 59, empty)), api.ErrForm},
		{replaced(0, with(stepped()[0], 9, far)), api.ErrRange},
		{replaced(2, with(fresh(1), 59, idle)), api.ErrForm},
		{replaced(2, with(fresh(1), 9, api.Entry{Kind: api.Blank, Job: 1})), api.ErrForm},

		// Too few or too many are told ahead of what is wrong with one of them.
		{make([]api.Unit, 2), api.ErrForm},
		{make([]api.Unit, 4), api.ErrForm},
		{[]api.Unit{one, one, one, {}}, api.ErrForm},
		// Of the units, the first one that is wrong tells it.
		{[]api.Unit{fresh(0), unitOf(1, 59, empty), one}, api.ErrRange},
		{[]api.Unit{unitOf(1, 59, empty), fresh(0), one}, api.ErrForm},
		{[]api.Unit{one, with(one, 59, far), with(one, 0, idle)}, api.ErrRange},
		{[]api.Unit{one, with(one, 59, idle), with(one, 0, far)}, api.ErrForm},
		// All of them are asked, ahead of what one has that another hasn't.
		{[]api.Unit{one, with(one, 4, put), fresh(0)}, api.ErrRange},
		{[]api.Unit{one, with(one, 4, put), with(one, 59, far)}, api.ErrRange},
		{[]api.Unit{with(one, 59, far), with(one, 4, put), one}, api.ErrRange},
		// Nor must what a wrong unit ahead hasn't make trouble.
		{[]api.Unit{{Epoch: 1}, unitOf(1, 60, put), unitOf(1, 60, put)}, api.ErrForm},
		{[]api.Unit{with(one, 4, far), with(one, 4, far), with(one, 4, far)}, api.ErrRange},
	}, brokenChains()...)
}

// brokenChains: each unit passes, but one has what the one ahead hasn't.
func brokenChains() []wrongChain {
	one := fresh(1)
	l := []wrongChain{
		{[]api.Unit{one, with(one, 0, junk), one}, api.ErrForm},
		{[]api.Unit{one, with(one, 0, junk), with(one, 0, junk)}, api.ErrForm},
		{[]api.Unit{with(one, 0, junk), one, with(one, 0, junk)}, api.ErrForm},
		{[]api.Unit{with(one, 0, put), with(one, 1, put), one}, api.ErrForm},
		{[]api.Unit{with(one, 0, put), with(one, 0, put), with(one, 1, put)}, api.ErrForm},
		{[]api.Unit{with(one, 0, put), with(one, 0, later), one}, api.ErrForm},
		{[]api.Unit{with(one, 0, put), with(one, 0, put), with(one, 0, later)}, api.ErrForm},
		{[]api.Unit{with(one, 0, put), with(one, 0, junk), one}, api.ErrForm},
		{[]api.Unit{with(one, 0, junk), with(one, 0, put), one}, api.ErrForm},
		// What the first one has doesn't help the last one.
		{[]api.Unit{with(one, 0, put), with(one, 0, drop), with(one, 0, put)}, api.ErrForm},
	}
	for at := range api.MaxCells {
		l = append(l,
			wrongChain{[]api.Unit{with(unitOf(1, 60, put), at, empty), unitOf(1, 60, put), one}, api.ErrForm},
			wrongChain{[]api.Unit{unitOf(1, 60, put), with(unitOf(1, 60, put), at, empty), unitOf(1, 60, put)}, api.ErrForm},
			wrongChain{[]api.Unit{unitOf(1, 60, put), unitOf(1, 60, put), with(one, at, later)}, api.ErrForm})
	}
	return l
}

func TestCheckSaysWhatIsWrong(t *testing.T) {
	for _, x := range wrongChains() {
		if got := Check(x.l); got != x.want {
			t.Errorf("Check(%v): %d, want %d", x.l, got, x.want)
		}
	}
}

// writing: x is to be written at a place of unit k.
type writing struct {
	k, at int
	x     api.Entry
	epoch int
}

func writeOf(at int, e api.Entry) api.Rec { return api.Rec{Kind: api.RWrite, At: at, E: e} }

func TestLink(t *testing.T) {
	for _, x := range []struct {
		w      writing
		record api.Rec
		stands api.Entry
	}{
		// Where nothing stands, the first unit takes what comes.
		{writing{0, 0, put, 7}, writeOf(0, put), put},
		{writing{0, 6, junk, 7}, writeOf(6, junk), junk},
		{writing{0, 58, ring, 7}, writeOf(58, ring), ring},
		// And the others what the one ahead has.
		{writing{1, 59, ring, 20}, writeOf(59, ring), ring},
		{writing{2, 5, drop, 1}, writeOf(5, drop), drop},

		// Where something stands, that is heard, whatever was to be written.
		{writing{0, 4, put, 7}, api.Rec{}, put},
		{writing{0, 4, later, 7}, api.Rec{}, put},
		{writing{0, 4, junk, 7}, api.Rec{}, put},
		{writing{0, 59, drop, 7}, api.Rec{}, ring},
		{writing{1, 4, put, 20}, api.Rec{}, put},
		{writing{1, 5, drop, 20}, api.Rec{}, drop},
		{writing{2, 4, put, 1}, api.Rec{}, put},
	} {
		r, stands, wrong := Link(stepped(), x.w.k, x.w.at, x.w.x, x.w.epoch)
		if r != x.record || stands != x.stands || wrong != api.OK {
			t.Errorf("Link of %v: %v, %v, %d, want %v, %v", x.w, r, stands, wrong, x.record, x.stands)
		}
	}
}

// Junk that stands is something: it is heard, and handed on.
func TestLinkAtJunk(t *testing.T) {
	l := []api.Unit{with(fresh(1), 0, junk), fresh(1), fresh(1)}
	r, stands, wrong := Link(l, 0, 0, put, 1)
	if r != (api.Rec{}) || stands != junk || wrong != api.OK {
		t.Errorf("Link of an entry where Junk stands: %v, %v, %d", r, stands, wrong)
	}
	r, stands, wrong = Link(l, 1, 0, junk, 1)
	if r != writeOf(0, junk) || stands != junk || wrong != api.OK {
		t.Errorf("Link of Junk that the unit ahead has: %v, %v, %d", r, stands, wrong)
	}
	wantNoLink(t, l, writing{1, 0, put, 1}, api.ErrLate)
}

func wantNoLink(t *testing.T, l []api.Unit, w writing, want api.Errno) {
	t.Helper()
	r, stands, wrong := Link(l, w.k, w.at, w.x, w.epoch)
	if r != (api.Rec{}) || stands != (api.Entry{}) || wrong != want {
		t.Errorf("Link(%v) of %v: %v, %v, %d, want nothing and %d", l, w, r, stands, wrong, want)
	}
}

func TestLinkSaysWhatIsWrong(t *testing.T) {
	for _, x := range []struct {
		w    writing
		want api.Errno
	}{
		{writing{-1, 4, put, 7}, api.ErrWho},
		{writing{3, 4, put, 7}, api.ErrWho},
		{writing{math.MinInt, 4, put, 7}, api.ErrWho},
		{writing{math.MaxInt, 4, put, 7}, api.ErrWho},
		{writing{0, -1, put, 7}, api.ErrWho},
		{writing{0, 60, put, 7}, api.ErrWho},
		{writing{1, 60, put, 20}, api.ErrWho},
		{writing{2, math.MinInt, put, 1}, api.ErrWho},
		{writing{2, math.MaxInt, put, 1}, api.ErrWho},

		{writing{0, 9, empty, 7}, api.ErrForm},
		{writing{0, 4, empty, 7}, api.ErrForm},
		{writing{1, 9, empty, 20}, api.ErrForm},
		{writing{0, 9, idle, 7}, api.ErrForm},
		{writing{0, 9, far, 7}, api.ErrRange},
		{writing{0, 9, api.Entry{Kind: -1}, 7}, api.ErrForm},
		{writing{0, 9, api.Entry{Job: 1}, 7}, api.ErrForm},

		{writing{0, 9, put, 6}, api.ErrOld},
		{writing{0, 9, put, 8}, api.ErrOld},
		{writing{0, 9, put, 0}, api.ErrOld},
		{writing{0, 9, put, 20}, api.ErrOld},
		{writing{0, 4, put, math.MinInt}, api.ErrOld},
		{writing{1, 59, ring, 7}, api.ErrOld},
		{writing{2, 4, put, 20}, api.ErrOld},
		{writing{2, 4, put, math.MaxInt}, api.ErrOld},

		{writing{1, 9, put, 20}, api.ErrLate},
		{writing{1, 9, junk, 20}, api.ErrLate},
		{writing{1, 59, junk, 20}, api.ErrLate},
		{writing{1, 4, later, 20}, api.ErrLate},
		{writing{1, 4, junk, 20}, api.ErrLate},
		{writing{2, 4, drop, 1}, api.ErrLate},
		{writing{2, 0, put, 1}, api.ErrLate},
		// The first unit having it isn't enough for the last one.
		{writing{2, 59, ring, 1}, api.ErrLate},
	} {
		wantNoLink(t, stepped(), x.w, x.want)
	}
}

// Of several errors the one that is told first is the answer: here are all choices of faults.
func TestLinkSaysFirstWhatIsToldFirst(t *testing.T) {
	for faults := range 1 << 6 {
		has := func(n int) bool { return faults>>n&1 == 1 }
		l, w, want := stepped(), writing{1, 4, put, 20}, api.OK
		if has(5) {
			l[0], l[1], l[2] = fresh(7), fresh(20), fresh(1)
			want = api.ErrLate
		}
		if has(4) {
			w.epoch, want = 7, api.ErrOld
		}
		if has(3) {
			w.x, want = far, api.ErrRange
		}
		if has(2) {
			w.at, want = 60, api.ErrWho
		}
		if has(1) {
			w.k, want = 3, api.ErrWho
		}
		if has(0) {
			l, want = append(l, fresh(1)), api.ErrForm
		}
		if want != api.OK {
			wantNoLink(t, l, w, want)
		}
	}
}

// Ahead of what else is wrong, Link and Read say what Check says.
func TestSayFirstWhatCheckSays(t *testing.T) {
	for _, x := range wrongChains() {
		for _, w := range []writing{{0, 4, put, 1}, {0, 0, junk, 1}, {1, 4, put, 1}, {2, 59, far, 1}, {3, 4, put, 1}, {-1, 60, idle, 0}, {0, -1, far, 9}} {
			wantNoLink(t, x.l, w, x.want)
			wantNothing(t, x.l, w.at, x.want)
		}
	}
}

func wantNothing(t *testing.T, l []api.Unit, at int, want api.Errno) {
	t.Helper()
	if got, wrong := Read(l, at); got != (api.Entry{}) || wrong != want {
		t.Errorf("Read(%v, %d): %v, %d, want nothing and %d", l, at, got, wrong, want)
	}
}

func TestRead(t *testing.T) {
	full := []api.Unit{unitFull(stepped()[0]), unitFull(stepped()[0]), unitFull(stepped()[0])}
	for _, x := range []struct {
		l    []api.Unit
		at   int
		want api.Entry
	}{
		{stepped(), 4, put},
		{full, 0, junk},
		{full, 4, put},
		{full, 5, drop},
		{full, 59, ring},
	} {
		if got, wrong := Read(x.l, x.at); got != x.want || wrong != api.OK {
			t.Errorf("Read(%v, %d): %v, %d, want %v", x.l, x.at, got, wrong, x.want)
		}
	}
}

func TestReadSaysWhatIsWrong(t *testing.T) {
	for at, want := range map[int]api.Errno{
		-1:          api.ErrWho,
		60:          api.ErrWho,
		math.MinInt: api.ErrWho,
		math.MaxInt: api.ErrWho,
		0:           api.ErrLate,
		// That units ahead have something isn't enough.
		5:  api.ErrLate,
		59: api.ErrLate,
	} {
		wantNothing(t, stepped(), at, want)
	}
}

// What is handed in stays as it is, behind its end, too.
func TestOnlyReads(t *testing.T) {
	calls := []func(l []api.Unit){
		func(l []api.Unit) { Check(l) },
		func(l []api.Unit) { Link(l, 0, 9, put, 7) },
		func(l []api.Unit) { Link(l, 0, 4, drop, 7) },
		func(l []api.Unit) { Link(l, 1, 59, ring, 20) },
		func(l []api.Unit) { Link(l, 2, 59, ring, 1) },
		func(l []api.Unit) { Link(l, 2, 5, drop, 1) },
		func(l []api.Unit) { Read(l, 4) },
		func(l []api.Unit) { Read(l, 5) },
	}
	for i, call := range calls {
		whole := append(roomy(stepped()), fresh(9))
		call(whole[:3])
		for k, u := range append(roomy(stepped()), fresh(9)) {
			if whole[k].Epoch != u.Epoch || !slices.Equal(whole[k].Cells[:cap(whole[k].Cells)], u.Cells[:cap(u.Cells)]) {
				t.Errorf("call %d: unit %d is %v, was %v", i, k, whole[k], u)
			}
		}
	}
}

// roomy: the same units, with other things in the room behind their places.
func roomy(l []api.Unit) []api.Unit {
	for k, u := range l {
		l[k].Cells = slices.Clip(append(slices.Clip(u.Cells), far, idle))[:len(u.Cells)]
	}
	return l
}

// shape: what tells chains of the walk below apart: the epochs, and the places that are written to.
type shape [api.MaxUnits]struct {
	epoch       int
	first, last api.Entry
}

func shapeOf(l []api.Unit) shape {
	var s shape
	for k, u := range l {
		s[k].epoch, s[k].first, s[k].last = u.Epoch, u.Cells[0], u.Cells[59]
	}
	return s
}

// walk calls visit for each chain that records of Link, and seals, make of new units, in whatever order; each chain once.
func walk(visit func(l []api.Unit)) {
	seen := map[shape]bool{}
	work := [][]api.Unit{{unit.New(), unit.New(), unit.New()}}
	for len(work) > 0 {
		l := work[len(work)-1]
		work = work[:len(work)-1]
		if seen[shapeOf(l)] {
			continue
		}
		seen[shapeOf(l)] = true
		visit(l)
		work = append(work, nexts(l)...)
	}
}

// nexts: the chains that one more record makes of a chain.
func nexts(l []api.Unit) [][]api.Unit {
	var next [][]api.Unit
	for _, w := range writings() {
		if r, _, wrong := Link(l, w.k, w.at, w.x, w.epoch); wrong == api.OK && r.Kind == api.RWrite {
			next = append(next, written(l, w.k, r))
		}
	}
	for k := range l {
		if l[k].Epoch == 1 {
			next = append(next, written(l, k, api.Rec{Kind: api.RSeal, Epoch: 2}))
		}
	}
	return next
}

// writings: at two places, of three entries, of the epochs that there are in a walk; and such as may not be.
func writings() []writing {
	var l []writing
	for k := range api.MaxUnits {
		for _, at := range []int{0, 59, 60} {
			for _, x := range []api.Entry{put, later, junk, empty} {
				for epoch := 1; epoch <= 3; epoch++ {
					l = append(l, writing{k, at, x, epoch})
				}
			}
		}
	}
	return l
}

// written: the chain that a record makes; nothing if the unit refuses it.
func written(l []api.Unit, k int, r api.Rec) []api.Unit {
	u, wrong := unit.Next(l[k], r)
	if wrong != api.OK {
		return nil
	}
	after := slices.Clone(l)
	after[k] = u
	return after
}

// Whoever writes, in whatever order and epochs: Link tells what the chapter asks, its record is one that the unit takes, and what that makes is a chain.
func TestLinkKeepsTheChain(t *testing.T) {
	chains := 0
	walk(func(l []api.Unit) {
		chains++
		if wrong := Check(l); wrong != api.OK {
			t.Fatalf("Check(%v): %d", l, wrong)
		}
		for _, w := range writings() {
			if want := wrongWith(l, w); want != api.OK {
				wantNoLink(t, l, w, want)
				continue
			}
			r, stands, wrong := Link(l, w.k, w.at, w.x, w.epoch)
			there := l[w.k].Cells[w.at]
			if there != empty {
				if r != (api.Rec{}) || stands != there || wrong != api.OK {
					t.Fatalf("Link(%v) of %v: %v, %v, %d, want no record, and %v", l, w, r, stands, wrong, there)
				}
				continue
			}
			if r != writeOf(w.at, w.x) || stands != w.x || wrong != api.OK {
				t.Fatalf("Link(%v) of %v: %v, %v, %d, want a record of it", l, w, r, stands, wrong)
			}
			if after := written(l, w.k, r); Check(after) != api.OK || after[w.k].Cells[w.at] != stands {
				t.Fatalf("%v makes %v of %v", r, after, l)
			}
		}
	})
	// Two places, each with one of three entries at the first one, two or all units, or nothing; and two epochs for each unit.
	if want := 10 * 10 * 8; chains != want {
		t.Errorf("%d chains, want %d", chains, want)
	}
}

// wrongWith: what is wrong with a writing at a chain that passes.
func wrongWith(l []api.Unit, w writing) api.Errno {
	if w.at == 60 {
		return api.ErrWho
	}
	if wrong := entry.Check(w.x); wrong != api.OK {
		return wrong
	}
	if w.epoch != l[w.k].Epoch {
		return api.ErrOld
	}
	if w.k > 0 && l[w.k-1].Cells[w.at] != w.x {
		return api.ErrLate
	}
	return api.OK
}

// What is read at a place is read ever after, and all units have it.
func TestWhatIsReadIsReadEverAfter(t *testing.T) {
	walk(func(l []api.Unit) {
		next := nexts(l)
		for _, at := range []int{0, 30, 59} {
			wantReadForEver(t, l, next, at)
		}
	})
}

// wantReadForEver: is what is read of l read in all chains that come next, and do all units have it?
func wantReadForEver(t *testing.T, l []api.Unit, next [][]api.Unit, at int) {
	t.Helper()
	got, wrong := Read(l, at)
	if last := l[2].Cells[at]; last == empty {
		wantNothing(t, l, at, api.ErrLate)
		return
	} else if got != last || wrong != api.OK {
		t.Fatalf("Read(%v, %d): %v, %d", l, at, got, wrong)
	}
	for _, u := range l {
		if u.Cells[at] != got {
			t.Fatalf("%v is read at %d of %v", got, at, l)
		}
	}
	for _, after := range next {
		if again, wrong := Read(after, at); again != got || wrong != api.OK {
			t.Fatalf("Read(%v, %d): %v, %d, and it was %v", after, at, again, wrong, got)
		}
	}
}
