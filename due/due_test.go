package due

import (
	"math"
	"slices"
	"testing"

	"carillon/api"
	"carillon/book"
)

// fourJobs: a new book each time, so that no test sees what another one did.
func fourJobs() api.Book {
	return api.Book{
		Jobs: []api.Job{{ID: 1, Every: 7, Next: 3}, {ID: 2, Every: 5, Next: 2}, {ID: 4, Every: 1, Next: 12}, {ID: 5, Every: 9, Next: 2}},
		Rung: []api.Rung{{Job: 2, Time: 1, Client: 1}, {Job: 3}},
	}
}

func jobs(l ...api.Job) api.Book { return api.Book{Jobs: l} }

// last: the job that is due as late as may be.
func last() api.Job {
	return api.Job{ID: api.MaxJobs - 1, Every: api.MaxEvery, Next: api.MaxTime + api.MaxEvery}
}

func TestDue(t *testing.T) {
	one, two, four, five := fourJobs().Jobs[0], fourJobs().Jobs[1], fourJobs().Jobs[2], fourJobs().Jobs[3]
	j := func(id, next int) api.Job { return api.Job{ID: id, Every: 3, Next: next} }
	for _, x := range []struct {
		b    api.Book
		time int
		want []api.Job
	}{
		{api.Book{}, 0, nil},
		{api.Book{Jobs: []api.Job{}, Rung: []api.Rung{}}, api.MaxTime, nil},
		{api.Book{Rung: []api.Rung{{Job: 3}}}, api.MaxTime, nil},

		{fourJobs(), 0, nil},
		{fourJobs(), 1, nil},
		{fourJobs(), 2, []api.Job{two, five}},
		{fourJobs(), 3, []api.Job{two, five, one}},
		{fourJobs(), 11, []api.Job{two, five, one}},
		{fourJobs(), 12, []api.Job{two, five, one, four}},
		{fourJobs(), api.MaxTime, []api.Job{two, five, one, four}},

		{jobs(j(0, 0)), 0, []api.Job{j(0, 0)}},
		{jobs(j(0, 5), j(1, 4), j(2, 3), j(3, 2), j(4, 1), j(5, 0)), 4, []api.Job{j(5, 0), j(4, 1), j(3, 2), j(2, 3), j(1, 4)}},
		{jobs(j(0, 9), j(1, 9), j(2, 9), j(3, 9), j(4, 9), j(5, 9)), 9, []api.Job{j(0, 9), j(1, 9), j(2, 9), j(3, 9), j(4, 9), j(5, 9)}},
		{jobs(j(0, 9), j(1, 8), j(2, 9), j(3, 8), j(4, 9), j(5, 8)), 9, []api.Job{j(1, 8), j(3, 8), j(5, 8), j(0, 9), j(2, 9), j(4, 9)}},

		{jobs(j(2, api.MaxTime)), api.MaxTime - 1, nil},
		{jobs(j(2, api.MaxTime)), api.MaxTime, []api.Job{j(2, api.MaxTime)}},
		{jobs(j(2, api.MaxTime+1)), api.MaxTime, nil},
		{jobs(last()), api.MaxTime, nil},
	} {
		got, wrong := Due(x.b, x.time)
		if wrong != api.OK || !slices.Equal(got, x.want) {
			t.Errorf("Due(%v, %d): %v, %d, want %v", x.b, x.time, got, wrong, x.want)
		}
	}
}

func TestCount(t *testing.T) {
	job := func(every, next int) api.Book { return jobs(api.Job{ID: 3, Every: every, Next: next}) }
	var most api.Book
	for id := range api.MaxJobs {
		most.Jobs = append(most.Jobs, api.Job{ID: id, Every: 1})
	}
	for _, x := range []struct {
		b          api.Book
		time, want int
	}{
		{api.Book{}, 0, 0},
		{api.Book{Rung: []api.Rung{{Job: 3}}}, api.MaxTime, 0},

		{job(5, 10), 0, 0},
		// Less than Every ahead of Next, which isn't due for all that.
		{job(5, 10), 6, 0},
		{job(5, 10), 9, 0},
		{job(5, 10), 10, 1},
		{job(5, 10), 14, 1},
		{job(5, 10), 15, 2},
		{job(5, 10), 19, 2},
		{job(5, 10), 20, 3},
		{job(1, 0), 0, 1},
		{job(1, 0), 1, 2},
		{job(api.MaxEvery, 0), api.MaxEvery - 1, 1},
		{job(api.MaxEvery, 0), api.MaxEvery, 2},
		{job(api.MaxEvery, 0), api.MaxTime, api.MaxTime/api.MaxEvery + 1},
		{job(1, api.MaxTime), api.MaxTime, 1},
		{job(api.MaxEvery, api.MaxTime+1), api.MaxTime, 0},
		{jobs(last()), api.MaxTime, 0},

		{fourJobs(), 1, 0},
		{fourJobs(), 2, 2},
		{fourJobs(), 11, 6},
		{fourJobs(), 12, 8},
		{most, 0, api.MaxJobs},
		{most, api.MaxTime, api.MaxJobs * (api.MaxTime + 1)},
	} {
		if got, wrong := Count(x.b, x.time); wrong != api.OK || got != x.want {
			t.Errorf("Count(%v, %d): %d, %d, want %d", x.b, x.time, got, wrong, x.want)
		}
	}
}

// Count is what counting one by one makes, for each Every, around Next and far behind it.
func TestCountIsOneByOne(t *testing.T) {
	for every := 1; every <= api.MaxEvery; every++ {
		for _, next := range []int{0, 1, 99, 1000, api.MaxTime - 50, api.MaxTime + every} {
			for time := max(0, next-every-1); time <= min(api.MaxTime, next+3*every); time++ {
				want := 0
				for n := next; n <= time; n += every {
					want++
				}
				b := jobs(api.Job{ID: 2, Every: every, Next: next})
				if got, wrong := Count(b, time); wrong != api.OK || got != want {
					t.Fatalf("Count(%v, %d): %d, %d, want %d", b, time, got, wrong, want)
				}
			}
		}
	}
}

func TestWhen(t *testing.T) {
	for _, x := range []struct {
		b    api.Book
		want int
	}{
		{api.Book{}, -1},
		{api.Book{Jobs: []api.Job{}, Rung: []api.Rung{}}, -1},
		{api.Book{Rung: []api.Rung{{Job: 3, Time: 7}}}, -1},
		{jobs(api.Job{ID: 3, Every: 1}), 0},
		{fourJobs(), 2},
		{jobs(api.Job{ID: 0, Every: 1, Next: 9}, api.Job{ID: 1, Every: 1, Next: 8}), 8},
		{jobs(api.Job{ID: 0, Every: 1, Next: 8}, api.Job{ID: 1, Every: 1, Next: 9}), 8},
		{jobs(last()), api.MaxTime + api.MaxEvery},
	} {
		if got, wrong := When(x.b); wrong != api.OK || got != x.want {
			t.Errorf("When(%v): %d, %d, want %d", x.b, got, wrong, x.want)
		}
	}
}

// wrongBooks: what may not be, and what chapter 3's Check says of it.
func wrongBooks() []struct {
	b    api.Book
	want api.Errno
} {
	good := api.Job{ID: 1, Every: 1}
	return []struct {
		b    api.Book
		want api.Errno
	}{
		{jobs(make([]api.Job, api.MaxJobs+1)...), api.ErrMany},
		{api.Book{Rung: make([]api.Rung, api.MaxRung+1)}, api.ErrMany},
		{jobs(api.Job{ID: api.MaxJobs, Every: 1}), api.ErrRange},
		{jobs(api.Job{ID: 1}), api.ErrRange},
		{jobs(api.Job{ID: 1, Every: -1}), api.ErrRange},
		{jobs(api.Job{ID: 1, Every: math.MinInt, Next: math.MinInt}), api.ErrRange},
		{jobs(api.Job{ID: 1, Every: 1, Next: -1}), api.ErrRange},
		{jobs(api.Job{ID: 1, Every: 1, Next: math.MaxInt}), api.ErrRange},
		{jobs(good, good), api.ErrTwice},
		{jobs(good, api.Job{ID: 0, Every: 1}), api.ErrTwice},
		{api.Book{Jobs: []api.Job{good}, Rung: []api.Rung{{Client: api.MaxClients}}}, api.ErrRange},
	}
}

func TestBooksThatMayNotBe(t *testing.T) {
	for _, x := range wrongBooks() {
		// What is wrong with the book is told ahead of what is wrong with the time.
		for _, time := range []int{0, 10, api.MaxTime, -1, api.MaxTime + 1} {
			if l, wrong := Due(x.b, time); wrong != x.want || l != nil {
				t.Errorf("Due(%v, %d): %v, %d, want nothing and %d", x.b, time, l, wrong, x.want)
			}
			if n, wrong := Count(x.b, time); wrong != x.want || n != 0 {
				t.Errorf("Count(%v, %d): %d, %d, want 0 and %d", x.b, time, n, wrong, x.want)
			}
		}
		if n, wrong := When(x.b); wrong != x.want || n != 0 {
			t.Errorf("When(%v): %d, %d, want 0 and %d", x.b, n, wrong, x.want)
		}
	}
}

func TestTimesThatMayNotBe(t *testing.T) {
	for _, b := range []api.Book{{}, fourJobs(), jobs(last())} {
		for _, time := range []int{-1, api.MaxTime + 1, api.MaxTime + api.MaxEvery, math.MinInt, math.MaxInt} {
			if l, wrong := Due(b, time); wrong != api.ErrRange || l != nil {
				t.Errorf("Due(%v, %d): %v, %d, want nothing and %d", b, time, l, wrong, api.ErrRange)
			}
			if n, wrong := Count(b, time); wrong != api.ErrRange || n != 0 {
				t.Errorf("Count(%v, %d): %d, %d, want 0 and %d", b, time, n, wrong, api.ErrRange)
			}
		}
	}
}

// What is handed in stays as it is, behind its end, too; and what is answered may be changed at will.
func TestOnlyReads(t *testing.T) {
	for _, time := range []int{-1, 0, 2, 11, api.MaxTime} {
		jobRoom := append(fourJobs().Jobs, api.Job{ID: 77}, api.Job{ID: 78})
		rungRoom := append(fourJobs().Rung, api.Rung{Job: 77}, api.Rung{Job: 78})
		b := api.Book{Jobs: jobRoom[:4], Rung: rungRoom[:2]}
		jobsBefore, rungBefore := slices.Clone(jobRoom), slices.Clone(rungRoom)

		l, _ := Due(b, time)
		spare := l[:cap(l)]
		for i := range spare {
			spare[i] = api.Job{ID: -1, Every: -1, Next: -1}
		}
		Count(b, time)
		When(b)
		if !slices.Equal(jobRoom, jobsBefore) || !slices.Equal(rungRoom, rungBefore) {
			t.Errorf("at %d: left %v and %v, want %v and %v", time, jobRoom, rungRoom, jobsBefore, rungBefore)
		}
	}
}

// Books of two jobs, and all times around them: whoever rings what is due, in whatever order, has rung Count times when nothing is.
func TestRungCountTimesWhenNothingIsDue(t *testing.T) {
	for row := range 4 * 4 * 6 * 6 {
		b := jobs(
			api.Job{ID: 1, Every: 1 + row%4, Next: row / 16 % 6},
			api.Job{ID: 4, Every: 1 + row/4%4, Next: row / 96})
		for time := range 10 {
			ringInAnyOrder(t, b, time)
		}
	}
	ringInAnyOrder(t, fourJobs(), 11)
	ringInAnyOrder(t, jobs(api.Job{ID: 2, Every: api.MaxEvery, Next: api.MaxTime - 1000}, last()), api.MaxTime)
}

func ringInAnyOrder(t *testing.T, b api.Book, time int) {
	t.Helper()
	ringAll(t, b, time, func(l []api.Job) api.Job { return l[0] })
	ringAll(t, b, time, func(l []api.Job) api.Job { return l[len(l)-1] })
}

// ringAll rings what pick takes of what is due until nothing is, and holds on the way what is answered against what was rung.
func ringAll(t *testing.T, b api.Book, time int, pick func(l []api.Job) api.Job) {
	t.Helper()
	count, wrong := Count(b, time)
	if wrong != api.OK || count+len(b.Rung) > api.MaxRung {
		t.Fatalf("Count(%v, %d): %d, %d: no room to ring it", b, time, count, wrong)
	}
	now := b
	for rung := 0; ; rung++ {
		l, wrong := Due(now, time)
		when, bad := When(now)
		rest, worse := Count(now, time)
		if wrong != api.OK || bad != api.OK || worse != api.OK || rest != count-rung {
			t.Fatalf("%v, of %v at %d: errors %d, %d, %d; %d to ring, but rung %d of %d", now, b, time, wrong, bad, worse, rest, rung, count)
		}
		if (len(l) == 0) != (rest == 0) || (len(l) == 0) != (when > time) {
			t.Fatalf("%v, of %v at %d: due %v, but %d to ring, first at %d", now, b, time, l, rest, when)
		}
		if len(l) == 0 {
			return
		}
		if l[0].Next != when {
			t.Fatalf("%v, of %v at %d: due first %v, but at %d", now, b, time, l[0], when)
		}
		j := pick(l)
		now, wrong = book.Apply(now, api.Entry{Kind: api.Ring, Job: j.ID, Time: j.Next})
		if wrong != api.OK {
			t.Fatalf("ring %v, of %v at %d: %d", j, b, time, wrong)
		}
	}
}
