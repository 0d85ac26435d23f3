package book

import (
	"math"
	"slices"
	"testing"

	"carillon/api"
)

func putOf(job, every, time int) api.Entry {
	return api.Entry{Kind: api.Put, Job: job, Every: every, Time: time}
}

func dropOf(job int) api.Entry { return api.Entry{Kind: api.Drop, Job: job} }

func ringOf(job, time, client int) api.Entry {
	return api.Entry{Kind: api.Ring, Job: job, Time: time, Client: client}
}

// twoJobs: a new book each time, so that no test sees what another one did.
func twoJobs() api.Book {
	return api.Book{
		Jobs: []api.Job{{ID: 1, Every: 7, Next: 3}, {ID: 4, Every: 5, Next: 20}},
		Rung: []api.Rung{{Job: 4, Time: 10, Client: 1}, {Job: 4, Time: 15}},
	}
}

func deepCopy(b api.Book) api.Book {
	return api.Book{Jobs: slices.Clone(b.Jobs), Rung: slices.Clone(b.Rung)}
}

// alike: as Same, but not by it, since Same is under test itself.
func alike(a, b api.Book) bool {
	return slices.Equal(a.Jobs, b.Jobs) && slices.Equal(a.Rung, b.Rung)
}

func isZero(b api.Book) bool { return b.Jobs == nil && b.Rung == nil }

func jobs(l ...api.Job) api.Book { return api.Book{Jobs: l} }

func rungs(l ...api.Rung) api.Book { return api.Book{Rung: l} }

func TestCheckLetsPass(t *testing.T) {
	for _, b := range []api.Book{
		{},
		{Jobs: []api.Job{}, Rung: []api.Rung{}},
		twoJobs(),
		jobs(api.Job{Every: 1}),
		jobs(api.Job{ID: api.MaxJobs - 1, Every: api.MaxEvery, Next: api.MaxTime + api.MaxEvery}),
		jobs(api.Job{ID: 0, Every: 1}, api.Job{ID: 1, Every: 1}, api.Job{ID: 2, Every: 1}, api.Job{ID: 3, Every: 1}, api.Job{ID: 4, Every: 1}, api.Job{ID: 5, Every: 1}),
		rungs(api.Rung{}),
		rungs(api.Rung{Job: api.MaxJobs - 1, Time: api.MaxTime, Client: api.MaxClients - 1}),
		// Nothing is said of the order of what was rung, nor of its jobs.
		rungs(api.Rung{Job: 3, Time: 9}, api.Rung{Job: 1, Time: 2}, api.Rung{Job: 3, Time: 9}),
		rungs(make([]api.Rung, api.MaxRung)...),
	} {
		if wrong := Check(b); wrong != api.OK {
			t.Errorf("Check(%v): %d", b, wrong)
		}
	}
}

// wrongBooks: what may not be, and what Check says of it.
func wrongBooks() []struct {
	b    api.Book
	want api.Errno
} {
	good, far := api.Job{ID: 1, Every: 1}, api.Job{ID: api.MaxJobs, Every: 1}
	return []struct {
		b    api.Book
		want api.Errno
	}{
		{jobs(make([]api.Job, api.MaxJobs+1)...), api.ErrMany},
		{rungs(make([]api.Rung, api.MaxRung+1)...), api.ErrMany},

		{jobs(api.Job{ID: -1, Every: 1}), api.ErrRange},
		{jobs(far), api.ErrRange},
		{jobs(api.Job{ID: math.MinInt, Every: 1}), api.ErrRange},
		{jobs(api.Job{ID: 1}), api.ErrRange},
		{jobs(api.Job{ID: 1, Every: -1}), api.ErrRange},
		{jobs(api.Job{ID: 1, Every: api.MaxEvery + 1}), api.ErrRange},
		{jobs(api.Job{ID: 1, Every: 1, Next: -1}), api.ErrRange},
		{jobs(api.Job{ID: 1, Every: 1, Next: api.MaxTime + api.MaxEvery + 1}), api.ErrRange},
		{jobs(api.Job{ID: 1, Every: 1, Next: math.MaxInt}), api.ErrRange},

		{jobs(good, good), api.ErrTwice},
		{jobs(good, api.Job{ID: 0, Every: 1}), api.ErrTwice},
		{jobs(api.Job{ID: 0, Every: 1}, api.Job{ID: 3, Every: 1}, api.Job{ID: 2, Every: 1}), api.ErrTwice},

		{rungs(api.Rung{Job: -1}), api.ErrRange},
		{rungs(api.Rung{Job: api.MaxJobs}), api.ErrRange},
		{rungs(api.Rung{Time: -1}), api.ErrRange},
		{rungs(api.Rung{Time: api.MaxTime + 1}), api.ErrRange},
		{rungs(api.Rung{Client: -1}), api.ErrRange},
		{rungs(api.Rung{Client: api.MaxClients}), api.ErrRange},
		{rungs(append(make([]api.Rung, api.MaxRung-1), api.Rung{Client: math.MaxInt})...), api.ErrRange},

		// Of several errors the one that is told first is the answer: how many, then job by job, then what was rung.
		{api.Book{Jobs: []api.Job{far}, Rung: make([]api.Rung, api.MaxRung+1)}, api.ErrMany},
		{api.Book{Jobs: slices.Repeat([]api.Job{good}, api.MaxJobs+1), Rung: []api.Rung{{Job: -1}}}, api.ErrMany},
		{jobs(good, api.Job{ID: 1}), api.ErrRange},
		{jobs(good, good, far), api.ErrTwice},
		{jobs(good, far, good), api.ErrRange},
		{api.Book{Jobs: []api.Job{good, good}, Rung: []api.Rung{{Job: -1}}}, api.ErrTwice},
	}
}

func TestCheckSaysWhatIsWrong(t *testing.T) {
	for _, x := range wrongBooks() {
		if got := Check(x.b); got != x.want {
			t.Errorf("Check(%v): %d, want %d", x.b, got, x.want)
		}
	}
}

func TestFind(t *testing.T) {
	// Out of order, twice, out of range: Find asks nothing of the book.
	odd := jobs(api.Job{ID: 4}, api.Job{ID: 2}, api.Job{ID: -7}, api.Job{ID: 2, Every: 1}, api.Job{ID: math.MaxInt})
	for _, x := range []struct {
		b        api.Book
		id, want int
	}{
		{api.Book{}, 0, -1},
		{api.Book{Jobs: []api.Job{}}, 0, -1},
		{twoJobs(), 1, 0},
		{twoJobs(), 4, 1},
		{twoJobs(), 0, -1},
		{twoJobs(), 3, -1},
		{twoJobs(), 5, -1},
		{twoJobs(), -1, -1},
		{twoJobs(), math.MaxInt, -1},
		{odd, 4, 0},
		{odd, 2, 1},
		{odd, -7, 2},
		{odd, math.MaxInt, 4},
		{odd, 3, -1},
		{rungs(api.Rung{Job: 3}), 3, -1},
	} {
		if got := Find(x.b, x.id); got != x.want {
			t.Errorf("Find(%v, %d): %d, want %d", x.b, x.id, got, x.want)
		}
	}
}

// Each book of the row is alike to itself alone.
func TestSame(t *testing.T) {
	change := func(f func(b *api.Book)) api.Book {
		b := twoJobs()
		f(&b)
		return b
	}
	different := []api.Book{
		{},
		twoJobs(),
		change(func(b *api.Book) { b.Jobs[1].ID = 2 }),
		change(func(b *api.Book) { b.Jobs[1].Every++ }),
		change(func(b *api.Book) { b.Jobs[1].Next++ }),
		change(func(b *api.Book) { b.Rung[1].Job++ }),
		change(func(b *api.Book) { b.Rung[1].Time++ }),
		change(func(b *api.Book) { b.Rung[1].Client++ }),
		change(func(b *api.Book) { b.Jobs = b.Jobs[:1] }),
		change(func(b *api.Book) { b.Rung = b.Rung[:1] }),
		change(func(b *api.Book) { b.Jobs = nil }),
		change(func(b *api.Book) { b.Rung = nil }),
		change(func(b *api.Book) { slices.Reverse(b.Jobs) }),
		change(func(b *api.Book) { slices.Reverse(b.Rung) }),
		// Whatever they are: books that Check refuses, too.
		jobs(make([]api.Job, api.MaxJobs+1)...),
		jobs(make([]api.Job, api.MaxJobs+2)...),
		rungs(api.Rung{Time: math.MinInt}),
		rungs(api.Rung{Time: math.MaxInt}),
	}
	for i, a := range different {
		for j, b := range different {
			if got := Same(a, deepCopy(b)); got != (i == j) {
				t.Errorf("Same(%v, %v): %t", a, b, got)
			}
		}
	}
	if !Same(api.Book{}, api.Book{Jobs: []api.Job{}, Rung: []api.Rung{}}) {
		t.Error("lists that are nil and lists that are empty aren't alike")
	}
}

func TestApply(t *testing.T) {
	full := twoJobs()
	full.Rung = make([]api.Rung, api.MaxRung)
	nearlyFull := twoJobs()
	nearlyFull.Rung = make([]api.Rung, api.MaxRung-1)
	late := jobs(api.Job{ID: 2, Every: api.MaxEvery, Next: api.MaxTime})
	over := jobs(api.Job{ID: 2, Every: api.MaxEvery, Next: api.MaxTime + api.MaxEvery})
	one, four := twoJobs().Jobs[0], twoJobs().Jobs[1]
	rung := twoJobs().Rung
	for _, x := range []struct {
		what string
		b    api.Book
		e    api.Entry
		want api.Book
	}{
		{"junk", twoJobs(), api.Entry{}, twoJobs()},
		{"junk, empty", api.Book{}, api.Entry{}, api.Book{}},

		{"put into an empty one", api.Book{}, putOf(2, 5, 10), jobs(api.Job{ID: 2, Every: 5, Next: 10})},
		{"put ahead", twoJobs(), putOf(0, 2, 9), api.Book{Jobs: []api.Job{{ID: 0, Every: 2, Next: 9}, one, four}, Rung: rung}},
		{"put between", twoJobs(), putOf(2, 2, 0), api.Book{Jobs: []api.Job{one, {ID: 2, Every: 2}, four}, Rung: rung}},
		{"put behind", twoJobs(), putOf(5, 100, 100000), api.Book{Jobs: []api.Job{one, four, {ID: 5, Every: 100, Next: 100000}}, Rung: rung}},
		{"put what is there", twoJobs(), putOf(4, 1, 1), twoJobs()},

		{"drop the first", twoJobs(), dropOf(1), api.Book{Jobs: []api.Job{four}, Rung: rung}},
		{"drop the last", twoJobs(), dropOf(4), api.Book{Jobs: []api.Job{one}, Rung: rung}},
		{"drop what isn't there", twoJobs(), dropOf(2), twoJobs()},
		{"drop, empty", api.Book{}, dropOf(0), api.Book{}},

		{"ring", twoJobs(), ringOf(4, 20, 2), api.Book{Jobs: []api.Job{one, {ID: 4, Every: 5, Next: 25}}, Rung: append(slices.Clone(rung), api.Rung{Job: 4, Time: 20, Client: 2})}},
		{"ring the first", twoJobs(), ringOf(1, 3, 0), api.Book{Jobs: []api.Job{{ID: 1, Every: 7, Next: 10}, four}, Rung: append(slices.Clone(rung), api.Rung{Job: 1, Time: 3})}},
		{"ring again", twoJobs(), ringOf(4, 15, 0), twoJobs()},
		{"ring ahead of it", twoJobs(), ringOf(4, 25, 0), twoJobs()},
		{"ring in between", twoJobs(), ringOf(4, 21, 0), twoJobs()},
		{"ring what isn't there", twoJobs(), ringOf(2, 20, 0), twoJobs()},
		{"ring, empty", api.Book{}, ringOf(0, 0, 0), api.Book{}},
		{"ring the last time", late, ringOf(2, api.MaxTime, 1), api.Book{Jobs: over.Jobs, Rung: []api.Rung{{Job: 2, Time: api.MaxTime, Client: 1}}}},
		{"ring behind the last time", over, ringOf(2, api.MaxTime, 1), over},

		{"ring into the last room", nearlyFull, ringOf(1, 3, 1), api.Book{Jobs: []api.Job{{ID: 1, Every: 7, Next: 10}, four}, Rung: append(make([]api.Rung, api.MaxRung-1), api.Rung{Job: 1, Time: 3, Client: 1})}},
		{"ring without room", full, ringOf(1, 3, 1), full},
		{"put without room", full, putOf(2, 2, 0), api.Book{Jobs: []api.Job{one, {ID: 2, Every: 2}, four}, Rung: full.Rung}},
		{"drop without room", full, dropOf(1), api.Book{Jobs: []api.Job{four}, Rung: full.Rung}},
	} {
		got, wrong := Apply(x.b, x.e)
		if wrong != api.OK || !alike(got, x.want) {
			t.Errorf("%s: %v, %d, want %v", x.what, got, wrong, x.want)
		}
		if wrong := Check(got); wrong != api.OK {
			t.Errorf("%s: Check of what is answered: %d", x.what, wrong)
		}
	}
}

func TestApplySaysWhatIsWrong(t *testing.T) {
	blank := api.Entry{Kind: api.Blank}
	for _, x := range wrongBooks() {
		// What is wrong with the book is told ahead of what is wrong with the entry.
		for _, e := range []api.Entry{{}, putOf(0, 1, 1), dropOf(1), ringOf(1, 0, 0), blank} {
			if got, wrong := Apply(x.b, e); wrong != x.want || !isZero(got) {
				t.Errorf("Apply(%v, %v): %v, %d, want nothing and %d", x.b, e, got, wrong, x.want)
			}
		}
	}
	for _, x := range []struct {
		e    api.Entry
		want api.Errno
	}{
		{blank, api.ErrForm},
		{api.Entry{Kind: -1}, api.ErrForm},
		{api.Entry{Job: 1}, api.ErrForm},
		{putOf(4, 0, 1), api.ErrForm},
		{api.Entry{Kind: api.Drop, Job: 4, Time: 1}, api.ErrForm},
		{api.Entry{Kind: api.Ring, Job: 4, Every: 5, Time: 20}, api.ErrForm},
		{putOf(api.MaxJobs, 1, 1), api.ErrRange},
		{putOf(2, 1, api.MaxTime+1), api.ErrRange},
		{dropOf(-1), api.ErrRange},
		{ringOf(4, 20, api.MaxClients), api.ErrRange},
		{ringOf(4, api.MaxTime+1, 0), api.ErrRange},
	} {
		for _, b := range []api.Book{{}, twoJobs()} {
			if got, wrong := Apply(b, x.e); wrong != x.want || !isZero(got) {
				t.Errorf("Apply(%v, %v): %v, %d, want nothing and %d", b, x.e, got, wrong, x.want)
			}
		}
	}
}

// What is handed in stays as it is, behind its end, too; and what is answered may be changed at will.
func TestApplyOnlyReads(t *testing.T) {
	for _, e := range []api.Entry{{}, putOf(0, 1, 1), putOf(5, 1, 1), putOf(4, 1, 1), dropOf(1), dropOf(4), dropOf(2), ringOf(1, 3, 0), ringOf(4, 20, 1), ringOf(4, 15, 1), {Kind: api.Blank}} {
		jobRoom := append(twoJobs().Jobs, api.Job{ID: 77}, api.Job{ID: 78})
		rungRoom := append(twoJobs().Rung, api.Rung{Job: 77}, api.Rung{Job: 78})
		b := api.Book{Jobs: jobRoom[:2], Rung: rungRoom[:2]}
		before := deepCopy(api.Book{Jobs: jobRoom, Rung: rungRoom})

		after, _ := Apply(b, e)
		spoil(after)
		if now := (api.Book{Jobs: jobRoom, Rung: rungRoom}); !alike(now, before) {
			t.Errorf("Apply of %v left %v, want %v", e, now, before)
		}
	}
}

// spoil writes into all memory that a book has, the spare room too.
func spoil(b api.Book) {
	for i := range b.Jobs[:cap(b.Jobs)] {
		b.Jobs[:cap(b.Jobs)][i] = api.Job{ID: -1, Every: -1, Next: -1}
	}
	for i := range b.Rung[:cap(b.Rung)] {
		b.Rung[:cap(b.Rung)][i] = api.Rung{Job: -1, Time: -1, Client: -1}
	}
}

func TestReplay(t *testing.T) {
	for _, x := range []struct {
		l    []api.Entry
		want api.Book
	}{
		{nil, api.Book{}},
		{[]api.Entry{}, api.Book{}},
		{make([]api.Entry, api.MaxCells), api.Book{}},
		{[]api.Entry{ringOf(2, 10, 0), dropOf(2)}, api.Book{}},
		{
			[]api.Entry{putOf(2, 5, 10), {}, ringOf(2, 10, 1), ringOf(2, 10, 0), ringOf(2, 15, 0), ringOf(3, 1, 0), putOf(1, 7, 3), putOf(2, 1, 1)},
			api.Book{Jobs: []api.Job{{ID: 1, Every: 7, Next: 3}, {ID: 2, Every: 5, Next: 20}}, Rung: []api.Rung{{Job: 2, Time: 10, Client: 1}, {Job: 2, Time: 15}}},
		},
		// A job that is put again, after it was dropped, begins anew.
		{
			[]api.Entry{putOf(2, 5, 10), ringOf(2, 10, 1), dropOf(2), ringOf(2, 15, 1), putOf(2, 9, 10), ringOf(2, 10, 1)},
			api.Book{Jobs: []api.Job{{ID: 2, Every: 9, Next: 19}}, Rung: []api.Rung{{Job: 2, Time: 10, Client: 1}, {Job: 2, Time: 10, Client: 1}}},
		},
		// Put from the last to the first: the book has them rising.
		{
			[]api.Entry{putOf(5, 1, 5), putOf(4, 1, 4), putOf(3, 1, 3), putOf(2, 1, 2), putOf(1, 1, 1), putOf(0, 1, 0), putOf(3, 9, 9)},
			jobs(api.Job{ID: 0, Every: 1}, api.Job{ID: 1, Every: 1, Next: 1}, api.Job{ID: 2, Every: 1, Next: 2}, api.Job{ID: 3, Every: 1, Next: 3}, api.Job{ID: 4, Every: 1, Next: 4}, api.Job{ID: 5, Every: 1, Next: 5}),
		},
	} {
		before := slices.Clone(x.l)
		got, wrong := Replay(x.l)
		if wrong != api.OK || !alike(got, x.want) {
			t.Errorf("Replay(%v): %v, %d, want %v", x.l, got, wrong, x.want)
		}
		if !slices.Equal(x.l, before) {
			t.Errorf("Replay left %v, want %v", x.l, before)
		}
	}
}

func TestReplayOfAsManyAsMayBe(t *testing.T) {
	l := []api.Entry{putOf(3, 2, 100)}
	for i := range api.MaxCells - 1 {
		l = append(l, ringOf(3, 100+2*i, i%api.MaxClients))
	}
	b, wrong := Replay(l)
	if wrong != api.OK || len(b.Rung) != api.MaxCells-1 || b.Jobs[0].Next != 100+2*(api.MaxCells-1) {
		t.Errorf("Replay of %d entries: %v, %d", len(l), b, wrong)
	}
	if b, wrong := Replay(append(l, api.Entry{})); wrong != api.ErrMany || !isZero(b) {
		t.Errorf("Replay of %d entries: %v, %d, want nothing and %d", len(l)+1, b, wrong, api.ErrMany)
	}
}

func TestReplaySaysWhatIsWrong(t *testing.T) {
	far, blank := dropOf(api.MaxJobs), api.Entry{Kind: api.Blank}
	for _, x := range []struct {
		l    []api.Entry
		want api.Errno
	}{
		{[]api.Entry{blank}, api.ErrForm},
		{[]api.Entry{putOf(2, 5, 10), far}, api.ErrRange},
		// The first that is wrong tells the error.
		{[]api.Entry{putOf(2, 5, 10), far, blank}, api.ErrRange},
		{[]api.Entry{putOf(2, 5, 10), blank, far}, api.ErrForm},
		{append(make([]api.Entry, api.MaxCells-1), far), api.ErrRange},
		// Of too many none is looked at.
		{append([]api.Entry{blank}, make([]api.Entry, api.MaxCells)...), api.ErrMany},
	} {
		if b, wrong := Replay(x.l); wrong != x.want || !isZero(b) {
			t.Errorf("Replay(%v): %v, %d, want nothing and %d", x.l, b, wrong, x.want)
		}
	}
}

// Whatever is written, in whatever order: between a put and a drop a job is rung at its first time, and then each Every, once.
func TestRungOnceForEachTimeItIsDue(t *testing.T) {
	words := []api.Entry{{}, putOf(2, 5, 10), putOf(2, 1, 10), putOf(1, 5, 10), dropOf(2), ringOf(2, 10, 0), ringOf(2, 10, 1), ringOf(2, 15, 0), ringOf(1, 10, 2)}
	const long = 5
	rows := 1
	for range long {
		rows *= len(words)
	}
	for row := range rows {
		var l []api.Entry
		for rest, i := row, 0; i < long; i++ {
			l = append(l, words[rest%len(words)])
			rest /= len(words)
		}
		ringsInTurn(t, l)
	}
}

// ringsInTurn plays l, and holds what each entry changed against what was ahead of it.
func ringsInTurn(t *testing.T, l []api.Entry) {
	t.Helper()
	first, times := map[int]api.Entry{}, map[int]int{}
	var b api.Book
	for _, e := range l {
		after, wrong := Apply(b, e)
		if wrong != api.OK || Check(after) != api.OK {
			t.Fatalf("%v: Apply of %v: %v, %d", l, e, after, wrong)
		}
		_, there := first[e.Job]
		switch {
		case e.Kind == api.Put && !there:
			first[e.Job], times[e.Job] = e, 0
		case e.Kind == api.Drop:
			delete(first, e.Job)
		}
		if len(after.Rung) > len(b.Rung) {
			r, from := after.Rung[len(b.Rung)], first[e.Job]
			if !there || r != (api.Rung{Job: e.Job, Time: e.Time, Client: e.Client}) || r.Time != from.Time+from.Every*times[e.Job] {
				t.Fatalf("%v: rung out of turn: %v", l, r)
			}
			times[e.Job]++
		} else if from := first[e.Job]; e.Kind == api.Ring && there && e.Time == from.Time+from.Every*times[e.Job] {
			t.Fatalf("%v: due, but not rung: %v", l, e)
		}
		b = after
	}
	if len(b.Jobs) != len(first) {
		t.Fatalf("%v: jobs %v, want those of %v", l, b.Jobs, first)
	}
	for _, j := range b.Jobs {
		if from := first[j.ID]; j != (api.Job{ID: from.Job, Every: from.Every, Next: from.Time + from.Every*times[j.ID]}) {
			t.Fatalf("%v: job %v, of %v, rung %d times", l, j, from, times[j.ID])
		}
	}
	if whole, wrong := Replay(l); wrong != api.OK || !alike(whole, b) {
		t.Fatalf("%v: Replay: %v, %d, but one by one: %v", l, whole, wrong, b)
	}
}
