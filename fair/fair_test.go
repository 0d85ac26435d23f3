package fair

import (
	"math"
	"slices"
	"testing"

	"carillon/api"
	"carillon/book"
	"carillon/entry"
)

func put(job, every, time int) api.Entry {
	return api.Entry{Kind: api.Put, Job: job, Every: every, Time: time}
}

func drop(job int) api.Entry { return api.Entry{Kind: api.Drop, Job: job} }

func ring(job, time, client int) api.Entry {
	return api.Entry{Kind: api.Ring, Job: job, Time: time, Client: client}
}

func row(l ...api.Entry) []api.Entry { return l }

// rings: a row of a put and as many rings as there is room for.
func rings(job, every, from int) []api.Entry {
	l := row(put(job, every, from))
	for i := range api.MaxCells - 1 {
		l = append(l, ring(job, from+i*every, i%api.MaxClients))
	}
	return l
}

func TestLives(t *testing.T) {
	junk := api.Entry{Kind: api.Junk}
	for _, x := range []struct {
		what string
		l    []api.Entry
		want []api.Life
	}{
		{"nothing", nil, nil},
		{"nothing, empty", row(), nil},
		{"junk alone", row(junk, junk), nil},
		{"no job to ring or drop", row(ring(2, 10, 0), drop(2), ring(0, 0, 0)), nil},

		{"a put", row(put(2, 5, 10)), []api.Life{{Job: 2, Every: 5, From: 10}}},
		{"rung ahead of the put", row(ring(2, 10, 0), put(2, 5, 10)), []api.Life{{Job: 2, Every: 5, From: 10}}},
		{"dropped ahead of the put", row(drop(2), put(2, 5, 10)), []api.Life{{Job: 2, Every: 5, From: 10}}},
		{"put twice", row(put(2, 5, 10), put(2, 1, 1)), []api.Life{{Job: 2, Every: 5, From: 10}}},
		{"put twice, and rung", row(put(2, 5, 10), ring(2, 10, 0), put(2, 5, 10)), []api.Life{{Job: 2, Every: 5, From: 10, Rung: 1}}},
		{"junk isn't of job 0", row(put(0, 1, 0), junk), []api.Life{{Every: 1}}},

		{"rung", row(put(2, 5, 10), ring(2, 10, 0), ring(2, 15, 1), ring(2, 20, 2)), []api.Life{{Job: 2, Every: 5, From: 10, Rung: 3}}},
		{"rung twice at one time", row(put(2, 5, 10), ring(2, 10, 0), ring(2, 10, 0), ring(2, 10, 1)), []api.Life{{Job: 2, Every: 5, From: 10, Rung: 1}}},
		{"rung too early", row(put(2, 5, 10), ring(2, 9, 0), ring(2, 5, 0), ring(2, 0, 0)), []api.Life{{Job: 2, Every: 5, From: 10}}},
		{"rung too late", row(put(2, 5, 10), ring(2, 11, 0), ring(2, 15, 0)), []api.Life{{Job: 2, Every: 5, From: 10}}},
		{"one time left out", row(put(2, 5, 10), ring(2, 10, 0), ring(2, 20, 0), ring(2, 15, 0)), []api.Life{{Job: 2, Every: 5, From: 10, Rung: 2}}},
		{"another one rung", row(put(2, 5, 10), ring(3, 10, 0)), []api.Life{{Job: 2, Every: 5, From: 10}}},

		{"dropped", row(put(2, 5, 10), drop(2)), []api.Life{{Job: 2, Every: 5, From: 10, Over: true}}},
		{"dropped twice", row(put(2, 5, 10), drop(2), drop(2)), []api.Life{{Job: 2, Every: 5, From: 10, Over: true}}},
		{"another one dropped", row(put(2, 5, 10), drop(3)), []api.Life{{Job: 2, Every: 5, From: 10}}},
		{"rung when it is over", row(put(2, 5, 10), ring(2, 10, 0), drop(2), ring(2, 15, 0)), []api.Life{{Job: 2, Every: 5, From: 10, Rung: 1, Over: true}}},

		{"a second life", row(put(2, 5, 10), ring(2, 10, 0), drop(2), put(2, 3, 0), ring(2, 15, 0), ring(2, 0, 0), ring(2, 3, 0)),
			[]api.Life{{Job: 2, Every: 5, From: 10, Rung: 1, Over: true}, {Job: 2, Every: 3, Rung: 2}}},
		{"lives alike", row(put(2, 5, 10), drop(2), put(2, 5, 10), drop(2), put(2, 5, 10), ring(2, 10, 0)),
			[]api.Life{{Job: 2, Every: 5, From: 10, Over: true}, {Job: 2, Every: 5, From: 10, Over: true}, {Job: 2, Every: 5, From: 10, Rung: 1}}},
		{"by their beginnings, not by job", row(put(4, 1, 1), put(1, 2, 2), put(3, 3, 3), drop(1), put(0, 4, 4), put(1, 5, 5), ring(3, 3, 0), ring(4, 1, 0)),
			[]api.Life{{Job: 4, Every: 1, From: 1, Rung: 1}, {Job: 1, Every: 2, From: 2, Over: true}, {Job: 3, Every: 3, From: 3, Rung: 1}, {Every: 4, From: 4}, {Job: 1, Every: 5, From: 5}}},

		{"the ends", row(put(api.MaxJobs-1, api.MaxEvery, api.MaxTime), ring(api.MaxJobs-1, api.MaxTime, api.MaxClients-1)),
			[]api.Life{{Job: api.MaxJobs - 1, Every: api.MaxEvery, From: api.MaxTime, Rung: 1}}},
		{"as many rings as there are places", rings(1, 1, 0), []api.Life{{Job: 1, Every: 1, Rung: api.MaxCells - 1}}},
		{"as many rings, far apart", rings(5, api.MaxEvery, 7), []api.Life{{Job: 5, Every: api.MaxEvery, From: 7, Rung: api.MaxCells - 1}}},
		{"as much junk as there are places", make([]api.Entry, api.MaxCells), nil},
	} {
		got, wrong := Lives(x.l)
		if wrong != api.OK || !slices.Equal(got, x.want) {
			t.Errorf("%s: Lives(%v): %v, %d, want %v", x.what, x.l, got, wrong, x.want)
		}
	}
}

// A row of entries that Lives takes begins a life ahead of the first ring that counts, and so never reaches MaxRung: the bound is asked of one entry more.
func TestNoMoreThanMaxRungOfAllLives(t *testing.T) {
	for _, x := range []struct {
		lives []api.Life
		want  int
	}{
		{[]api.Life{{Job: 2, Every: 1, Rung: api.MaxRung - 1}}, api.MaxRung},
		{[]api.Life{{Job: 2, Every: 1, Rung: api.MaxRung}}, api.MaxRung},
		{[]api.Life{{Job: 2, Every: 1, Rung: api.MaxRung - 4, Over: true}, {Job: 1, Every: 1, Rung: 2}, {Job: 2, Every: 1, Rung: 1}}, 2},
		{[]api.Life{{Job: 2, Every: 1, Rung: api.MaxRung - 4, Over: true}, {Job: 1, Every: 1, Rung: 3}, {Job: 2, Every: 1, Rung: 1}}, 1},
		{[]api.Life{{Job: 2, Every: 1, Rung: api.MaxRung, Over: true}, {Job: 2, Every: 1}}, 0},
	} {
		last := len(x.lives) - 1
		before := slices.Clone(x.lives)
		got := follow(x.lives, ring(2, before[last].Rung, 0))
		if got[last].Rung != x.want || !slices.Equal(got[:last], before[:last]) {
			t.Errorf("%v rung: %v, want Rung %d of the last", before, got, x.want)
		}
	}
}

// wrongEntries: what may not be in a row, and what chapter 1's Check says of it.
func wrongEntries() []struct {
	e    api.Entry
	want api.Errno
} {
	return []struct {
		e    api.Entry
		want api.Errno
	}{
		{api.Entry{Kind: api.Blank}, api.ErrForm},
		{api.Entry{Kind: -1}, api.ErrForm},
		{api.Entry{Kind: math.MaxInt, Job: -1}, api.ErrForm},
		{api.Entry{Kind: api.Junk, Job: 1}, api.ErrForm},
		{put(1, 0, 5), api.ErrForm},
		{api.Entry{Kind: api.Put, Job: 1, Every: 1, Client: 1}, api.ErrForm},
		{api.Entry{Kind: api.Drop, Job: 1, Time: 1}, api.ErrForm},
		{api.Entry{Kind: api.Ring, Job: 1, Every: 1}, api.ErrForm},
		{put(-1, 1, 1), api.ErrRange},
		{put(api.MaxJobs, 1, 1), api.ErrRange},
		{put(1, -1, 1), api.ErrRange},
		{put(1, api.MaxEvery+1, 1), api.ErrRange},
		{put(1, 1, -1), api.ErrRange},
		{put(1, 1, api.MaxTime+1), api.ErrRange},
		{drop(math.MinInt), api.ErrRange},
		{drop(api.MaxJobs), api.ErrRange},
		{ring(1, math.MaxInt, 0), api.ErrRange},
		{ring(1, 1, -1), api.ErrRange},
		{ring(1, 1, api.MaxClients), api.ErrRange},
		// The next time of a job that was rung at MaxTime isn't a time of an entry any more.
		{ring(1, api.MaxTime+1, 0), api.ErrRange},
	}
}

func TestEntriesThatMayNotBe(t *testing.T) {
	for _, x := range wrongEntries() {
		for _, l := range [][]api.Entry{
			row(x.e),
			row(x.e, put(1, 1, api.MaxTime)),
			row(put(1, 1, api.MaxTime), ring(1, api.MaxTime, 0), x.e),
			// The first one that is wrong is told, whatever is behind it.
			row(put(1, 1, 1), x.e, drop(-1)),
			row(put(1, 1, 1), x.e, api.Entry{Kind: api.Blank}),
			append(make([]api.Entry, api.MaxCells-1), x.e),
		} {
			if got, wrong := Lives(l); wrong != x.want || got != nil {
				t.Errorf("Lives(%v): %v, %d, want nothing and %d", l, got, wrong, x.want)
			}
		}
	}
}

func TestTooMany(t *testing.T) {
	for _, n := range []int{api.MaxCells + 1, api.MaxCells + 2, 10 * api.MaxCells} {
		for _, first := range []api.Entry{{}, put(1, 1, 1), {Kind: api.Blank}, drop(-1)} {
			l := make([]api.Entry, n)
			l[0] = first
			if got, wrong := Lives(l); wrong != api.ErrMany || got != nil {
				t.Errorf("Lives of %d entries, first %v: %v, %d, want nothing and %d", n, first, got, wrong, api.ErrMany)
			}
		}
	}
}

// What is handed in stays as it is, behind its end, too; what is answered may be changed at will, and the next answer is the same.
func TestOnlyReads(t *testing.T) {
	room := row(put(2, 5, 10), ring(2, 10, 0), drop(2), put(2, 3, 0), put(1, 1, 1), drop(-1), drop(-2))
	before := slices.Clone(room)
	want := []api.Life{{Job: 2, Every: 5, From: 10, Rung: 1, Over: true}, {Job: 2, Every: 3}, {Job: 1, Every: 1, From: 1}}
	for range 2 {
		got, wrong := Lives(room[:5])
		if wrong != api.OK || !slices.Equal(got, want) {
			t.Errorf("Lives(%v): %v, %d, want %v", room[:5], got, wrong, want)
		}
		spare := got[:cap(got)]
		for i := range spare {
			spare[i] = api.Life{Job: -1, Every: -1, From: -1, Rung: -1, Over: true}
		}
		if !slices.Equal(room, before) {
			t.Errorf("left %v, want %v", room, before)
		}
	}
}

// words: entries that touch each other: lives of two jobs, times that are due in one life and not in the other.
func words() []api.Entry {
	return row(api.Entry{}, put(0, 1, 0), put(0, 2, 1), drop(0), ring(0, 0, 0), ring(0, 1, 1), ring(0, 3, 2), put(3, 3, 0), drop(3), ring(3, 0, 1), ring(3, 3, 0))
}

// All rows of up to five words.
func TestShortRowsAreWhatReplayMakes(t *testing.T) {
	w := words()
	rows := 1
	for size := range 6 {
		for n := range rows {
			l := make([]api.Entry, size)
			for i := range l {
				l[i] = w[n%len(w)]
				n /= len(w)
			}
			asReplayMakes(t, l)
		}
		rows *= len(w)
	}
}

// Rows up to MaxCells of entries that mostly ring what is due.
func TestLongRowsAreWhatReplayMakes(t *testing.T) {
	draw := uint32(1)
	pick := func(n int) int {
		draw = draw*1664525 + 1013904223
		return int(draw>>16) % n
	}
	for range 500 {
		var l []api.Entry
		var b api.Book
		for range api.MaxCells {
			e := pickEntry(b, pick)
			after, wrong := book.Apply(b, e)
			if wrong != api.OK {
				t.Fatalf("%v on %v: %d", e, b, wrong)
			}
			b, l = after, append(l, e)
			asReplayMakes(t, l)
		}
	}
}

func pickEntry(b api.Book, pick func(n int) int) api.Entry {
	job := pick(api.MaxJobs)
	switch pick(8) {
	case 0:
		return drop(job)
	case 1, 2:
		// Near the last time, so that some jobs are due behind it.
		return put(job, 1+pick(api.MaxEvery), api.MaxTime-pick(5*api.MaxEvery))
	case 3:
		return ring(job, api.MaxTime-pick(api.MaxEvery), pick(api.MaxClients))
	}
	at := book.Find(b, job)
	if at < 0 {
		return put(job, 1+pick(api.MaxEvery), pick(api.MaxTime))
	}
	e := ring(job, b.Jobs[at].Next, pick(api.MaxClients))
	if entry.Check(e) != api.OK {
		return drop(job)
	}
	return e
}

// asReplayMakes holds the lives against the book that the same entries make.
func asReplayMakes(t *testing.T, l []api.Entry) {
	t.Helper()
	lives, wrong := Lives(l)
	b, bad := book.Replay(l)
	if wrong != api.OK || bad != api.OK {
		t.Fatalf("%v: Lives %d, Replay %d", l, wrong, bad)
	}
	var jobs []api.Job
	for id := range api.MaxJobs {
		var times []int
		for _, x := range lives {
			if x.Job != id {
				continue
			}
			for i := range x.Rung {
				times = append(times, x.From+x.Every*i)
			}
			if !x.Over {
				jobs = append(jobs, api.Job{ID: id, Every: x.Every, Next: x.From + x.Every*x.Rung})
			}
		}
		if want := timesOf(b, id); !slices.Equal(times, want) {
			t.Fatalf("%v: job %d of %v was rung at %v, want %v", l, id, lives, times, want)
		}
	}
	if !slices.Equal(jobs, b.Jobs) {
		t.Fatalf("%v: %v are the jobs %v, want %v", l, lives, jobs, b.Jobs)
	}
}

// timesOf: when a job was rung, by the book.
func timesOf(b api.Book, id int) []int {
	var times []int
	for _, r := range b.Rung {
		if r.Job == id {
			times = append(times, r.Time)
		}
	}
	return times
}
