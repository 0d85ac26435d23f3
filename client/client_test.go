package client

import (
	"math"
	"slices"
	"testing"

	"carillon/api"
)

var (
	put   = api.Entry{Kind: api.Put, Job: 2, Every: 5, Time: 10}
	later = api.Entry{Kind: api.Put, Job: 2, Every: 5, Time: 11}
	drop  = api.Entry{Kind: api.Drop, Job: 5}
	ring  = api.Entry{Kind: api.Ring, Job: 5, Time: api.MaxTime, Client: 2}
	junk  = api.Entry{}
	empty = api.Entry{Kind: api.Blank}
	far   = api.Entry{Kind: api.Drop, Job: api.MaxJobs}
	idle  = api.Entry{Kind: api.Put, Job: 1, Time: 1}
)

// some: a book of two jobs, of which each was rung once.
func some() api.Book {
	return api.Book{
		Jobs: []api.Job{{ID: 2, Every: 5, Next: 15}, {ID: 5, Every: 100, Next: 12}},
		Rung: []api.Rung{{Job: 2, Time: 10, Client: 1}, {Job: 5, Time: 0, Client: 2}},
	}
}

// Clients of epoch 3 that have played 4 places, and have a book of their own.

func resting() api.Client { return api.Client{Epoch: 3, Played: 4, B: some()} }

func wanting(e api.Entry) api.Client {
	return api.Client{Epoch: 3, Doing: api.Wants, E: e, Played: 4, B: some()}
}

func writing(e api.Entry, at, link int) api.Client {
	return api.Client{Epoch: 3, Doing: api.Writes, E: e, At: at, Link: link, Played: 4, B: some()}
}

// changed: c, but for what change does to it.
func changed(c api.Client, change func(*api.Client)) api.Client {
	change(&c)
	return c
}

// alike: not by Same, which is under test.
func alike(a, b api.Client) bool {
	return a.Epoch == b.Epoch && a.Doing == b.Doing && a.E == b.E && a.At == b.At && a.Link == b.Link && a.Played == b.Played &&
		slices.Equal(a.B.Jobs, b.B.Jobs) && slices.Equal(a.B.Rung, b.B.Rung)
}

func isZero(c api.Client) bool {
	return alike(c, api.Client{}) && c.B.Jobs == nil && c.B.Rung == nil
}

// call: one of those that answer a client, with all but that.
type call struct {
	name string
	by   func(c api.Client) (api.Client, api.Errno)
}

func want(x api.Entry) call {
	return call{"Want", func(c api.Client) (api.Client, api.Errno) { return Want(c, x) }}
}

func ringAt(me, job, time int) call {
	return call{"Ring", func(c api.Client) (api.Client, api.Errno) { return Ring(c, me, job, time) }}
}

func place(at int) call {
	return call{"Place", func(c api.Client) (api.Client, api.Errno) { return Place(c, at) }}
}

func fill(at int) call {
	return call{"Fill", func(c api.Client) (api.Client, api.Errno) { return Fill(c, at) }}
}

func heard(stands api.Entry) call {
	return call{"Heard", func(c api.Client) (api.Client, api.Errno) { return Heard(c, stands) }}
}

func play(x api.Entry) call {
	return call{"Play", func(c api.Client) (api.Client, api.Errno) { return Play(c, x) }}
}

func learn(epoch int) call {
	return call{"Learn", func(c api.Client) (api.Client, api.Errno) { return Learn(c, epoch) }}
}

// step: what a call makes of a client.
type step struct {
	c    api.Client
	call call
	want api.Client
}

func wantSteps(t *testing.T, l []step) {
	t.Helper()
	for _, x := range l {
		if got, wrong := x.call.by(x.c); !alike(got, x.want) || wrong != api.OK {
			t.Errorf("%s of %v: %v, %d, want %v", x.call.name, x.c, got, wrong, x.want)
		}
	}
}

// refusal: what is wrong with a call of a client.
type refusal struct {
	c    api.Client
	call call
	want api.Errno
}

func wantRefusals(t *testing.T, l []refusal) {
	t.Helper()
	for _, x := range l {
		if got, wrong := x.call.by(x.c); !isZero(got) || wrong != x.want {
			t.Errorf("%s of %v: %v, %d, want nothing and %d", x.call.name, x.c, got, wrong, x.want)
		}
	}
}

func TestNew(t *testing.T) {
	if got, want := New(), (api.Client{Epoch: 1}); !alike(got, want) {
		t.Errorf("New: %v, want %v", got, want)
	}
}

func TestCheckLetsPass(t *testing.T) {
	full := api.Book{Rung: slices.Repeat([]api.Rung{{Job: 5, Time: api.MaxTime, Client: 2}}, api.MaxRung)}
	for id := range api.MaxJobs {
		full.Jobs = append(full.Jobs, api.Job{ID: id, Every: 100, Next: 100100})
	}
	l := []api.Client{
		New(), resting(),
		{Epoch: 20, Played: 60, B: full},
		{Epoch: 1, B: api.Book{Jobs: []api.Job{}, Rung: []api.Rung{}}},
		wanting(put), wanting(drop), wanting(ring),
		{Epoch: 20, Doing: api.Wants, E: ring, Played: 60, B: full},
		{Epoch: 20, Doing: api.Writes, E: ring, At: 59, Link: 2, Played: 60, B: full},
	}
	for _, e := range []api.Entry{junk, put, drop, ring} {
		for link := range 3 {
			l = append(l, writing(e, 0, link), writing(e, 7, link), writing(e, 59, link))
		}
	}
	for _, c := range l {
		if wrong := Check(c); wrong != api.OK {
			t.Errorf("Check(%v): %d", c, wrong)
		}
	}
}

type wrongClient struct {
	c    api.Client
	want api.Errno
}

// outOfRange: clients of which one number may not be, whatever they do.
func outOfRange() []wrongClient {
	var l []wrongClient
	for _, c := range []api.Client{New(), resting(), wanting(put), writing(put, 7, 1), writing(junk, 59, 2)} {
		for _, n := range []int{-1, math.MinInt, math.MaxInt} {
			l = append(l,
				wrongClient{changed(c, func(c *api.Client) { c.Epoch = n }), api.ErrRange},
				wrongClient{changed(c, func(c *api.Client) { c.Doing = n }), api.ErrRange},
				wrongClient{changed(c, func(c *api.Client) { c.At = n }), api.ErrRange},
				wrongClient{changed(c, func(c *api.Client) { c.Link = n }), api.ErrRange},
				wrongClient{changed(c, func(c *api.Client) { c.Played = n }), api.ErrRange})
		}
		l = append(l,
			wrongClient{changed(c, func(c *api.Client) { c.Epoch = 0 }), api.ErrRange},
			wrongClient{changed(c, func(c *api.Client) { c.Epoch = 21 }), api.ErrRange},
			wrongClient{changed(c, func(c *api.Client) { c.Doing = 3 }), api.ErrRange},
			wrongClient{changed(c, func(c *api.Client) { c.At = 60 }), api.ErrRange},
			wrongClient{changed(c, func(c *api.Client) { c.Link = 3 }), api.ErrRange},
			wrongClient{changed(c, func(c *api.Client) { c.Played = 61 }), api.ErrRange})
	}
	return l
}

// withBook: a client that is wrong with nothing but its book.
func withBook(b api.Book) api.Client {
	return changed(writing(put, 7, 1), func(c *api.Client) { c.B = b })
}

// wrongClients: what may not be, and what Check says of it.
func wrongClients() []wrongClient {
	twice := api.Book{Jobs: []api.Job{{ID: 2, Every: 5}, {ID: 2, Every: 5}}}
	return append(outOfRange(), []wrongClient{
		{api.Client{}, api.ErrRange},

		{wanting(far), api.ErrRange},
		{wanting(idle), api.ErrForm},
		{wanting(empty), api.ErrForm},
		{wanting(api.Entry{Kind: -1}), api.ErrForm},
		{writing(far, 7, 1), api.ErrRange},
		{writing(idle, 7, 1), api.ErrForm},
		{writing(empty, 7, 1), api.ErrForm},
		{writing(api.Entry{Job: 1}, 7, 1), api.ErrForm},
		{changed(resting(), func(c *api.Client) { c.E = far }), api.ErrRange},
		{changed(resting(), func(c *api.Client) { c.E = empty }), api.ErrForm},

		// Who rests has nothing to write, and no place; who wants has something, and no place.
		{changed(resting(), func(c *api.Client) { c.E = put }), api.ErrForm},
		{changed(resting(), func(c *api.Client) { c.E = drop }), api.ErrForm},
		{changed(resting(), func(c *api.Client) { c.At = 1 }), api.ErrForm},
		{changed(resting(), func(c *api.Client) { c.At = 59 }), api.ErrForm},
		{changed(resting(), func(c *api.Client) { c.Link = 1 }), api.ErrForm},
		{changed(resting(), func(c *api.Client) { c.Link = 2 }), api.ErrForm},
		{wanting(junk), api.ErrForm},
		{changed(wanting(put), func(c *api.Client) { c.At = 1 }), api.ErrForm},
		{changed(wanting(put), func(c *api.Client) { c.At = 59 }), api.ErrForm},
		{changed(wanting(put), func(c *api.Client) { c.Link = 1 }), api.ErrForm},
		{changed(wanting(put), func(c *api.Client) { c.Link = 2 }), api.ErrForm},

		{withBook(api.Book{Jobs: make([]api.Job, 7)}), api.ErrMany},
		{withBook(api.Book{Rung: make([]api.Rung, 61)}), api.ErrMany},
		{withBook(api.Book{Jobs: make([]api.Job, 1)}), api.ErrRange},
		{withBook(api.Book{Jobs: []api.Job{{ID: 6, Every: 5}}}), api.ErrRange},
		{withBook(api.Book{Jobs: []api.Job{{ID: 5, Every: 5, Next: 100101}}}), api.ErrRange},
		{withBook(api.Book{Rung: []api.Rung{{Time: -1}}}), api.ErrRange},
		{withBook(twice), api.ErrTwice},
		{changed(New(), func(c *api.Client) { c.B = twice }), api.ErrTwice},
		{changed(wanting(put), func(c *api.Client) { c.B = twice }), api.ErrTwice},
	}...)
}

func TestCheckSaysWhatIsWrong(t *testing.T) {
	for _, x := range wrongClients() {
		if got := Check(x.c); got != x.want {
			t.Errorf("Check(%v): %d, want %d", x.c, got, x.want)
		}
	}
}

// Of several errors the one that is told first is the answer: here are all choices of faults.
func TestCheckSaysFirstWhatIsToldFirst(t *testing.T) {
	for faults := range 1 << 5 {
		has := func(n int) bool { return faults>>n&1 == 1 }
		c, want := resting(), api.OK
		if has(4) {
			c.B, want = api.Book{Jobs: make([]api.Job, 7)}, api.ErrMany
		}
		if has(3) {
			c.At, want = 1, api.ErrForm
		}
		if has(2) {
			c.E, want = put, api.ErrForm
		}
		if has(1) {
			c.E, want = far, api.ErrRange
		}
		if got := Check(c); !has(0) && got != want {
			t.Errorf("Check(%v): %d, want %d", c, got, want)
		}
		if has(0) {
			// The entry is of no kind, which would be ErrForm: but numbers of the client are told ahead of that.
			c.E = api.Entry{Kind: 9}
			for _, l := range []func(c *api.Client){
				func(c *api.Client) { c.Epoch = 21 },
				func(c *api.Client) { c.Doing = 3 },
				func(c *api.Client) { c.At = 60 },
				func(c *api.Client) { c.Link = 3 },
				func(c *api.Client) { c.Played = 61 },
			} {
				if got := Check(changed(c, l)); got != api.ErrRange {
					t.Errorf("Check(%v): %d, want %d", changed(c, l), got, api.ErrRange)
				}
			}
		}
	}
}

func TestSame(t *testing.T) {
	var l []api.Client
	for _, c := range []api.Client{{}, resting(), wanting(put), writing(put, 7, 1), {Epoch: -1, Doing: 9, E: empty, At: 99, Link: -3, Played: math.MaxInt}} {
		l = append(l, c,
			changed(c, func(c *api.Client) { c.Epoch++ }),
			changed(c, func(c *api.Client) { c.Doing += 20 }),
			changed(c, func(c *api.Client) { c.E.Job += 20 }),
			changed(c, func(c *api.Client) { c.E.Client += 20 }),
			changed(c, func(c *api.Client) { c.At += 200 }),
			changed(c, func(c *api.Client) { c.Link += 20 }),
			changed(c, func(c *api.Client) { c.Played -= 200 }),
			changed(c, func(c *api.Client) { c.B.Jobs = append(slices.Clip(c.B.Jobs), api.Job{ID: 9}) }),
			changed(c, func(c *api.Client) { c.B.Jobs = []api.Job{{ID: 2, Every: 5, Next: 15}, {ID: 5, Every: 100, Next: 13}} }),
			changed(c, func(c *api.Client) { c.B.Rung = append(slices.Clip(c.B.Rung), api.Rung{}) }))
	}
	for i, a := range l {
		for j, b := range l {
			b.B = api.Book{Jobs: slices.Clone(b.B.Jobs), Rung: slices.Clone(b.B.Rung)}
			if got, want := Same(a, b), alike(a, b); got != want || want && i%10 != j%10 {
				t.Errorf("Same(%v, %v): %t, want %t", a, b, got, want)
			}
		}
	}
	if !Same(New(), api.Client{Epoch: 1, B: api.Book{Jobs: []api.Job{}, Rung: []api.Rung{}}}) {
		t.Error("a list that is nil and one that has nothing in it are told apart")
	}
}

func TestWant(t *testing.T) {
	wantSteps(t, []step{
		{New(), want(put), api.Client{Epoch: 1, Doing: api.Wants, E: put}},
		{resting(), want(put), wanting(put)},
		{resting(), want(drop), wanting(drop)},
		// Whatever it is to be good for: not this layer asks that.
		{resting(), want(ring), wanting(ring)},
	})
	wantRefusals(t, []refusal{
		{wanting(put), want(put), api.ErrLate},
		{wanting(put), want(drop), api.ErrLate},
		{writing(put, 7, 1), want(put), api.ErrLate},
		{writing(junk, 0, 0), want(put), api.ErrLate},
		{resting(), want(far), api.ErrRange},
		{resting(), want(idle), api.ErrForm},
		{resting(), want(empty), api.ErrForm},
		{resting(), want(api.Entry{Job: 1}), api.ErrForm},
		{resting(), want(api.Entry{Job: 6}), api.ErrRange},
		{resting(), want(junk), api.ErrForm},

		{wanting(put), want(far), api.ErrLate},
		{wanting(put), want(junk), api.ErrLate},
		{writing(put, 7, 1), want(empty), api.ErrLate},
	})
}

// rings: what a client with the jobs of some wants when it rings one.
func rings(me, job, time int) api.Client {
	return wanting(api.Entry{Kind: api.Ring, Job: job, Time: time, Client: me})
}

func TestRing(t *testing.T) {
	late := changed(resting(), func(c *api.Client) { c.B.Jobs[1].Next = api.MaxTime })
	wantSteps(t, []step{
		{resting(), ringAt(0, 5, 12), rings(0, 5, 12)},
		{resting(), ringAt(1, 5, 14), rings(1, 5, 12)},
		{resting(), ringAt(2, 5, 15), rings(2, 5, 12)},
		{resting(), ringAt(0, 2, 15), rings(0, 2, 15)},
		// However late it is, the time that is rung is the next one of the job.
		{resting(), ringAt(2, 2, 99), rings(2, 2, 15)},
		{resting(), ringAt(2, 2, api.MaxTime), rings(2, 2, 15)},
		{late, ringAt(2, 5, api.MaxTime), changed(late, func(c *api.Client) { c.Doing, c.E = api.Wants, ring })},
	})
	never := changed(resting(), func(c *api.Client) { c.B.Jobs[1].Next = api.MaxTime + 1 })
	wantRefusals(t, []refusal{
		{wanting(put), ringAt(1, 2, 15), api.ErrLate},
		{writing(put, 7, 1), ringAt(1, 2, 15), api.ErrLate},
		{writing(junk, 0, 0), ringAt(1, 2, 15), api.ErrLate},

		{resting(), ringAt(1, 2, -1), api.ErrRange},
		{resting(), ringAt(1, 2, api.MaxTime+1), api.ErrRange},
		{resting(), ringAt(1, 2, math.MinInt), api.ErrRange},
		{resting(), ringAt(1, 2, math.MaxInt), api.ErrRange},

		{resting(), ringAt(1, 2, 14), api.ErrWho},
		{resting(), ringAt(1, 2, 0), api.ErrWho},
		{resting(), ringAt(1, 5, 11), api.ErrWho},
		{never, ringAt(1, 5, api.MaxTime), api.ErrWho},
		{New(), ringAt(1, 0, api.MaxTime), api.ErrWho},
		{resting(), ringAt(1, 0, 99), api.ErrWho},
		{resting(), ringAt(1, 3, 99), api.ErrWho},
		{resting(), ringAt(1, -1, 99), api.ErrWho},
		{resting(), ringAt(1, 6, 99), api.ErrWho},
		{resting(), ringAt(1, math.MaxInt, 99), api.ErrWho},

		{resting(), ringAt(-1, 2, 15), api.ErrRange},
		{resting(), ringAt(3, 2, 15), api.ErrRange},
		{resting(), ringAt(math.MinInt, 2, 15), api.ErrRange},
		{resting(), ringAt(math.MaxInt, 2, 15), api.ErrRange},

		{wanting(put), ringAt(-1, 9, -1), api.ErrLate},
		{resting(), ringAt(-1, 9, -1), api.ErrRange},
		{resting(), ringAt(1, 9, -1), api.ErrRange},
		{resting(), ringAt(-1, 2, 14), api.ErrWho},
		{resting(), ringAt(3, 9, 99), api.ErrWho},
	})
}

func TestPlace(t *testing.T) {
	wantSteps(t, []step{
		{wanting(put), place(0), writing(put, 0, 0)},
		{wanting(put), place(7), writing(put, 7, 0)},
		{wanting(drop), place(59), writing(drop, 59, 0)},
		{wanting(ring), place(1), writing(ring, 1, 0)},
	})
	wantRefusals(t, []refusal{
		{resting(), place(7), api.ErrLate},
		{New(), place(7), api.ErrLate},
		{writing(put, 7, 0), place(7), api.ErrLate},
		{writing(put, 7, 2), place(8), api.ErrLate},
		{writing(junk, 7, 0), place(7), api.ErrLate},
		{wanting(put), place(-1), api.ErrWho},
		{wanting(put), place(60), api.ErrWho},
		{wanting(put), place(math.MinInt), api.ErrWho},
		{wanting(put), place(math.MaxInt), api.ErrWho},

		{resting(), place(60), api.ErrLate},
		{writing(put, 7, 0), place(-1), api.ErrLate},
	})
}

func TestFill(t *testing.T) {
	wantSteps(t, []step{
		{New(), fill(0), api.Client{Epoch: 1, Doing: api.Writes}},
		{resting(), fill(0), writing(junk, 0, 0)},
		{resting(), fill(7), writing(junk, 7, 0)},
		{resting(), fill(59), writing(junk, 59, 0)},
	})
	wantRefusals(t, []refusal{
		{wanting(put), fill(7), api.ErrLate},
		{writing(put, 7, 0), fill(7), api.ErrLate},
		{writing(junk, 7, 0), fill(7), api.ErrLate},
		{resting(), fill(-1), api.ErrWho},
		{resting(), fill(60), api.ErrWho},
		{resting(), fill(math.MinInt), api.ErrWho},
		{resting(), fill(math.MaxInt), api.ErrWho},

		{wanting(put), fill(60), api.ErrLate},
		{writing(put, 7, 0), fill(-1), api.ErrLate},
	})
}

func TestHeard(t *testing.T) {
	wantSteps(t, []step{
		// Its own entry, unit by unit.
		{writing(put, 7, 0), heard(put), writing(put, 7, 1)},
		{writing(put, 7, 1), heard(put), writing(put, 7, 2)},
		{writing(put, 7, 2), heard(put), resting()},
		{writing(ring, 59, 2), heard(ring), resting()},
		{writing(drop, 0, 0), heard(drop), writing(drop, 0, 1)},

		// Another one: it asks for another place.
		{writing(put, 7, 0), heard(drop), wanting(put)},
		{writing(put, 7, 0), heard(junk), wanting(put)},
		{writing(put, 7, 0), heard(later), wanting(put)},
		{writing(put, 7, 1), heard(junk), wanting(put)},
		{writing(put, 59, 2), heard(later), wanting(put)},
		{writing(ring, 0, 2), heard(junk), wanting(ring)},

		// Who only fills goes on with what is there.
		{writing(junk, 7, 0), heard(junk), writing(junk, 7, 1)},
		{writing(junk, 7, 1), heard(junk), writing(junk, 7, 2)},
		{writing(junk, 7, 2), heard(junk), resting()},
		{writing(junk, 7, 0), heard(put), writing(put, 7, 1)},
		{writing(junk, 7, 1), heard(ring), writing(ring, 7, 2)},
		{writing(junk, 7, 2), heard(put), resting()},
	})
}

// Each number of an entry counts as to whether it is another one.
func TestHeardComparesWhole(t *testing.T) {
	rung := api.Entry{Kind: api.Ring, Job: 1, Time: 1, Client: 1}
	once := api.Entry{Kind: api.Put, Job: 1, Every: 1, Time: 1}
	wantSteps(t, []step{
		{writing(rung, 7, 0), heard(api.Entry{Kind: api.Ring, Job: 1, Time: 1, Client: 0}), wanting(rung)},
		{writing(rung, 7, 0), heard(api.Entry{Kind: api.Ring, Job: 1, Time: 2, Client: 1}), wanting(rung)},
		{writing(rung, 7, 0), heard(api.Entry{Kind: api.Ring, Job: 2, Time: 1, Client: 1}), wanting(rung)},
		{writing(once, 7, 0), heard(api.Entry{Kind: api.Put, Job: 1, Every: 2, Time: 1}), wanting(once)},
		{writing(once, 7, 0), heard(api.Entry{Kind: api.Drop, Job: 1}), wanting(once)},
	})
}

func TestHeardSaysWhatIsWrong(t *testing.T) {
	wantRefusals(t, []refusal{
		{resting(), heard(put), api.ErrLate},
		{resting(), heard(junk), api.ErrLate},
		{New(), heard(junk), api.ErrLate},
		{wanting(put), heard(put), api.ErrLate},
		{wanting(put), heard(junk), api.ErrLate},
		{writing(put, 7, 1), heard(empty), api.ErrForm},
		{writing(put, 7, 1), heard(idle), api.ErrForm},
		{writing(put, 7, 1), heard(far), api.ErrRange},
		{writing(junk, 7, 0), heard(empty), api.ErrForm},
		{writing(junk, 7, 2), heard(api.Entry{Job: 1}), api.ErrForm},

		{resting(), heard(far), api.ErrRange},
		{resting(), heard(empty), api.ErrForm},
		{wanting(put), heard(far), api.ErrRange},
	})
}

// rows calls visit for each row of up to n entries out of l.
func rows(l []api.Entry, n int, visit func(row []api.Entry)) {
	var more func(row []api.Entry)
	more = func(row []api.Entry) {
		visit(row)
		if len(row) == n {
			return
		}
		for _, e := range l {
			more(append(slices.Clip(row), e))
		}
	}
	more(nil)
}

// afterHearing: what becomes of one who writes e at place 7, told by the row as a whole; false: it hears something when it writes no more.
func afterHearing(e api.Entry, row []api.Entry) (api.Client, bool) {
	// Who fills has an entry of its own from the first one on that isn't Junk.
	own, begin := e, 0
	if e == junk {
		begin = slices.IndexFunc(row, func(x api.Entry) bool { return x != junk })
	}
	if begin < 0 {
		begin = len(row)
	} else if e == junk {
		own = row[begin]
	}
	another := slices.IndexFunc(row[begin:], func(x api.Entry) bool { return x != own })
	if another >= 0 && begin+another < api.MaxUnits {
		return wanting(own), begin+another == len(row)-1
	}
	if len(row) >= api.MaxUnits {
		return resting(), len(row) == api.MaxUnits
	}
	return writing(own, 7, len(row)), true
}

// Whatever a client hears, in whatever order: it rests when it has heard of all units, and wants again when another entry stands.
func TestHeardRowsOfEntries(t *testing.T) {
	count := 0
	for _, e := range []api.Entry{junk, put, drop, ring} {
		rows([]api.Entry{junk, put, drop, ring}, 5, func(row []api.Entry) {
			want, ok := afterHearing(e, row)
			got, wrong := writing(e, 7, 0), api.OK
			for _, x := range row {
				if got, wrong = Heard(got, x); wrong != api.OK {
					break
				}
			}
			if ok && (wrong != api.OK || !alike(got, want)) {
				t.Errorf("%v hears %v: %v, %d, want %v", e, row, got, wrong, want)
			}
			if !ok && (wrong != api.ErrLate || !isZero(got)) {
				t.Errorf("%v hears %v: %v, %d, want nothing and %d", e, row, got, wrong, api.ErrLate)
			}
			count++
		})
	}
	if want := 4 * (1 + 4 + 16 + 64 + 256 + 1024); count != want {
		t.Errorf("%d rows, want %d", count, want)
	}
}

// played: c once it has played one more place, that made this book.
func played(c api.Client, b api.Book) api.Client {
	return changed(c, func(c *api.Client) { c.B = b; c.Played++ })
}

func TestPlay(t *testing.T) {
	first := api.Book{Jobs: []api.Job{{ID: 2, Every: 5, Next: 10}}}
	dropped, rung := some(), some()
	dropped.Jobs = dropped.Jobs[:1]
	rung.Jobs[0].Next = 20
	rung.Rung = append(rung.Rung, api.Rung{Job: 2, Time: 15, Client: 0})
	now := api.Entry{Kind: api.Ring, Job: 2, Time: 15, Client: 0}
	last := changed(resting(), func(c *api.Client) { c.Played = 59 })
	wantSteps(t, []step{
		{New(), play(put), api.Client{Epoch: 1, Played: 1, B: first}},
		{New(), play(drop), api.Client{Epoch: 1, Played: 1}},
		{resting(), play(drop), played(resting(), dropped)},
		{resting(), play(now), played(resting(), rung)},
		{last, play(now), played(last, rung)},
		// What changes nothing is played, too.
		{resting(), play(junk), played(resting(), some())},
		{resting(), play(put), played(resting(), some())},
		{resting(), play(ring), played(resting(), some())},
		// Whatever else it does.
		{wanting(put), play(now), played(wanting(put), rung)},
		{writing(put, 7, 1), play(now), played(writing(put, 7, 1), rung)},
		{writing(junk, 59, 2), play(drop), played(writing(junk, 59, 2), dropped)},
	})
	full := changed(resting(), func(c *api.Client) { c.Played = 60 })
	wantRefusals(t, []refusal{
		{full, play(put), api.ErrMany},
		{full, play(junk), api.ErrMany},
		{changed(writing(put, 7, 1), func(c *api.Client) { c.Played = 60 }), play(put), api.ErrMany},
		{resting(), play(empty), api.ErrForm},
		{resting(), play(idle), api.ErrForm},
		{resting(), play(far), api.ErrRange},
		{wanting(put), play(far), api.ErrRange},

		{full, play(empty), api.ErrMany},
		{full, play(far), api.ErrMany},
	})
}

func TestLearn(t *testing.T) {
	of := func(c api.Client, epoch int) api.Client {
		return changed(c, func(c *api.Client) { c.Epoch = epoch })
	}
	wantSteps(t, []step{
		{New(), learn(2), api.Client{Epoch: 2}},
		{New(), learn(20), api.Client{Epoch: 20}},
		{resting(), learn(4), of(resting(), 4)},
		{resting(), learn(20), of(resting(), 20)},
		{of(resting(), 19), learn(20), of(resting(), 20)},
		// Whatever else it does.
		{wanting(put), learn(7), of(wanting(put), 7)},
		{writing(put, 7, 1), learn(7), of(writing(put, 7, 1), 7)},
		{writing(junk, 59, 2), learn(7), of(writing(junk, 59, 2), 7)},
	})
	wantRefusals(t, []refusal{
		{resting(), learn(0), api.ErrRange},
		{resting(), learn(-1), api.ErrRange},
		{resting(), learn(21), api.ErrRange},
		{resting(), learn(math.MinInt), api.ErrRange},
		{resting(), learn(math.MaxInt), api.ErrRange},
		{resting(), learn(1), api.ErrOld},
		{resting(), learn(2), api.ErrOld},
		{resting(), learn(3), api.ErrOld},
		{New(), learn(1), api.ErrOld},
		{of(resting(), 20), learn(20), api.ErrOld},
		{of(resting(), 20), learn(21), api.ErrRange},
		{writing(put, 7, 1), learn(3), api.ErrOld},
	})
}

// Ahead of what else is wrong, all others say what Check says.
func TestSayFirstWhatCheckSays(t *testing.T) {
	calls := []call{
		want(put), want(far), want(junk), want(empty),
		ringAt(1, 2, 15), ringAt(-1, 2, 15), ringAt(1, 9, 15), ringAt(1, 2, -1),
		place(7), place(60), fill(7), fill(-1),
		heard(put), heard(far), heard(empty),
		play(put), play(far), play(idle),
		learn(20), learn(21), learn(1),
	}
	for _, x := range wrongClients() {
		for _, by := range calls {
			wantRefusals(t, []refusal{{x.c, by, x.want}})
		}
	}
}

// deeds: calls that are answered without an error, each by a client of its own.
func deeds() []step {
	return []step{
		{c: resting(), call: want(put)},
		{c: resting(), call: ringAt(1, 2, 99)},
		{c: wanting(put), call: place(7)},
		{c: resting(), call: fill(7)},
		{c: writing(put, 7, 0), call: heard(put)},
		{c: writing(put, 7, 2), call: heard(put)},
		{c: writing(put, 7, 0), call: heard(drop)},
		{c: writing(junk, 7, 0), call: heard(drop)},
		{c: resting(), call: play(junk)},
		{c: resting(), call: play(drop)},
		{c: resting(), call: play(api.Entry{Kind: api.Put, Job: 0, Every: 1})},
		{c: resting(), call: play(api.Entry{Kind: api.Ring, Job: 2, Time: 15})},
		{c: resting(), call: learn(4)},
	}
}

// roomy: the book of some, with other things in the room behind its lists.
func roomy() api.Book {
	b := some()
	b.Jobs = append(slices.Clip(b.Jobs), api.Job{ID: 77}, api.Job{ID: 78})[:2]
	b.Rung = append(slices.Clip(b.Rung), api.Rung{Job: 77}, api.Rung{Job: 78})[:2]
	return b
}

// isRoomy: is all as roomy made it, behind the ends, too?
func isRoomy(b api.Book) bool {
	was := roomy()
	return slices.Equal(b.Jobs[:4], was.Jobs[:4]) && slices.Equal(b.Rung[:4], was.Rung[:4])
}

// What is handed in stays as it is, behind its end, too, and nothing of the answer is of its memory.
func TestOnlyReads(t *testing.T) {
	for _, x := range deeds() {
		x.c.B = roomy()
		got, wrong := x.call.by(x.c)
		if wrong != api.OK {
			t.Fatalf("%s of %v: %d", x.call.name, x.c, wrong)
		}
		if !isRoomy(x.c.B) {
			t.Errorf("%s made %v of its client", x.call.name, x.c)
		}
		spoil(got.B)
		if !isRoomy(x.c.B) {
			t.Errorf("%s: its answer shares memory with its client", x.call.name)
		}
	}
	c := changed(resting(), func(c *api.Client) { c.B = roomy() })
	if Check(c) != api.OK || !Same(c, resting()) || !isRoomy(c.B) {
		t.Errorf("Check or Same made %v", c)
	}
}

// spoil overwrites all that the lists of a book can reach.
func spoil(b api.Book) {
	jobs, rung := b.Jobs[:cap(b.Jobs)], b.Rung[:cap(b.Rung)]
	for i := range jobs {
		jobs[i] = api.Job{ID: -5}
	}
	for i := range rung {
		rung[i] = api.Rung{Job: -5}
	}
}

// A list that has nothing in it has room behind it, too.
func TestEmptyListsAreNotShared(t *testing.T) {
	for _, x := range deeds() {
		jobs, rung := make([]api.Job, 3), make([]api.Rung, 3)
		x.c.B = api.Book{Jobs: jobs[:0], Rung: rung[:0]}
		// Without jobs, nothing is due.
		if x.call.name == "Ring" {
			continue
		}
		got, wrong := x.call.by(x.c)
		if wrong != api.OK {
			t.Fatalf("%s of %v: %d", x.call.name, x.c, wrong)
		}
		spoil(got.B)
		if !slices.Equal(jobs, make([]api.Job, 3)) || !slices.Equal(rung, make([]api.Rung, 3)) {
			t.Errorf("%s: its answer shares memory with its client", x.call.name)
		}
	}
}

// shape: all of a client but its book, of which there is one for each row that was played.
type shape struct {
	epoch, doing int
	e            api.Entry
	at, link     int
	played       int
	jobs, rung   int
}

func shapeOf(c api.Client) shape {
	return shape{c.Epoch, c.Doing, c.E, c.At, c.Link, c.Played, len(c.B.Jobs), len(c.B.Rung)}
}

// Whatever a new client is told to do, in whatever order: it passes, and does no more than the call says.
func TestWhateverClientsDo(t *testing.T) {
	calls := []call{
		want(put), want(drop), want(junk), ringAt(1, 2, 10), ringAt(2, 2, 9),
		place(0), place(59), place(60), fill(0), fill(59), fill(-1),
		heard(junk), heard(put), heard(drop), heard(empty),
		play(put), play(api.Entry{Kind: api.Drop, Job: 2}), play(api.Entry{Kind: api.Ring, Job: 2, Time: 10}), play(far),
		learn(2), learn(20), learn(21),
	}
	doings := map[string][2]int{"Want": {api.Rests, api.Wants}, "Ring": {api.Rests, api.Wants}, "Place": {api.Wants, api.Writes}, "Fill": {api.Rests, api.Writes}}
	seen := map[shape]bool{}
	work := []api.Client{New()}
	for len(work) > 0 {
		c := work[len(work)-1]
		work = work[:len(work)-1]
		if seen[shapeOf(c)] || c.Played > 3 {
			continue
		}
		seen[shapeOf(c)] = true
		for _, by := range calls {
			after, wrong := by.by(c)
			if wrong != api.OK {
				if !isZero(after) {
					t.Fatalf("%s of %v: %v, %d", by.name, c, after, wrong)
				}
				continue
			}
			if from, ok := doings[by.name]; Check(after) != api.OK || ok && (c.Doing != from[0] || after.Doing != from[1]) {
				t.Fatalf("%s of %v: %v", by.name, c, after)
			}
			if (by.name == "Play") != (after.Played == c.Played+1) || (by.name == "Learn") != (after.Epoch > c.Epoch) {
				t.Fatalf("%s of %v: %v", by.name, c, after)
			}
			work = append(work, after)
		}
	}
	// What was played makes ten shapes of books. With each a client rests, wants put or drop, or writes put, drop or Junk at two places and three units; with eight of them it may want its ring, or write it at two places: at the first unit, since it hears of no ring.
	if want := 3 * (10*(1+2+3*2*3) + 8*(1+2)); len(seen) != want {
		t.Errorf("%d clients, want %d", len(seen), want)
	}
}
